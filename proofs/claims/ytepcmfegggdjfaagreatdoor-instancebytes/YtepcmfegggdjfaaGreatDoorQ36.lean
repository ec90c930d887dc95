/-
  Texts Vz Blank.
-/
import Derived.Test.YtepcmfegggdjfaaGreatDoorQ00
import Derived.Test.YtepcmfegggdjfaaGreatDoorQ34
import Derived.Test.YtepcmfegggdjfaaGreatDoorQ35
set_option linter.unusedVariables false
set_option maxRecDepth 100000
set_option maxHeartbeats 16000000
namespace Go.Proofs.YtepcmfegggdjfaaGreatDoor
open Go.RowKit
def topO (s : Cs) : Opn:=s.op.getD (s.op.length - 1) ⟨⟨#[]⟩,⟨#[]⟩,⟨#[]⟩,0,0⟩
structure Iv3 (O : Nat → Int) (n j : Nat) (s : Cs) : Prop where
 len : s.op.length = (stk O j).length + 1
 sz : ∀ p ∈ s.op,p.P.size ≤ 8 ∧ p.R.size ≤ 8 ∧ p.B.size + p.P.size ≤ 256 ∧ ∃ q : Nat,p.pc = q ∧ q < n
 ch : s.op.Pairwise (fun a b => a.B.size ≤ b.B.size)
 last : (topO s).B.size ≤ s.st.size
 st : s.st.size ≤ 256
 hi : s.hi ≤ 256
 sh : s.sh.length = n
theorem topO_get {s : Cs} {k : Nat} (h : s.op.length = k + 1) : s.op[k]? = some (topO s):=by
 unfold topO
 rw [h]
 simp only [Nat.add_sub_cancel]
 rw [getD_of (List.getElem?_eq_getElem (by omega : k < s.op.length))]
 exact List.getElem?_eq_getElem _
theorem topO_mem {s : Cs} {k : Nat} (h : s.op.length = k + 1) : topO s ∈ s.op:=List.mem_of_getElem? (topO_get h)
theorem push_ok {s t : ByteArray} (h : pushE s t = 0) : pushV s t = s ++ t ∧ s.size + t.size ≤ 256:=by
 refine ⟨by simp [pushV,h],?_⟩
 unfold pushE at h
 split at h
 ·split at h
  ·cases h
  ·omega
 ·cases h
theorem ask_le {s : Cs} {o : Opn} {t : ByteArray} (h : askE s o t = 0) : t.size ≤ s.st.size - o.B.size:=by
 have:=askE_le h
 simp at this
 omega
theorem orE_zero {a b : Int} (h : orE a b = 0) : a = 0 ∧ b = 0:=by
 unfold orE at h
 split at h
 ·rename_i g; exact absurd h g
 ·rename_i g; exact ⟨by omega,h⟩
section
variable {v : Ev} {w1 : World} {m : MM} {lo : List Int}
theorem Iv3.keepOp {O : Nat → Int} {n j : Nat} {s s' : Cs} (h : Iv3 O n j s) (hs : stk O (j + 1) = stk O j) (h1 : s'.op = s.op) (h2 : (topO s).B.size ≤ s'.st.size) (h3 : s'.st.size ≤ 256) (h4 : s'.hi ≤ 256) (h5 : s'.sh.length = n) : Iv3 O n (j + 1) s':=by
 refine ⟨by rw [h1,hs]; exact h.len,by rw [h1]; exact h.sz,by rw [h1]; exact h.ch,?_,h3,h4,h5⟩
 have : topO s' = topO s:=by unfold topO; rw [h1]
 rw [this]; exact h2
theorem iv_vis {O : Nat → Int} {n j : Nat} {s : Cs} (h : Iv3 O n j s) : Iv3 O n j (visS s):=by
 refine ⟨h.len,h.sz,h.ch,h.last,h.st,?_,?_⟩
 ·show max s.hi s.st.size ≤ 256
  have:=h.hi; have:=h.st; omega
 ·show (s.sh.set s.pc s.st).length = n
  rw [List.length_set]; exact h.sh
theorem iv_row {O : Nat → Int} {n j : Nat} {s : Cs} {el c a : Int} {l : List Int} (hM : EvM v w1 m lo) (h : Iv3 O n j s) (hc : O j = c) (h0 : 0 ≤ c) (h1 : c ≤ 255) (hpc : s.pc = j) (hj : j < n) (hnb : ¬ (c = 6 ∧ stk O j = []))
  (he : rwE m lo el s (topO s) c a l = 0) : Iv3 O n (j + 1) (rwS m lo s (topO s) c a):=by
 have hmem:=topO_mem h.len
 have hsz:=h.sz _ hmem
 have hlast:=h.last
 have hst:=h.st
 have hnew : ∀ tk : ByteArray,opE m s (topO s) a tk = 0 → isO (O j) = true → Iv3 O n (j + 1) (entS s c tk (tyAt m a).1 (tyAt m a).2):=by
  intro tk he hO
  obtain ⟨_,he2⟩:=orE_zero he
  obtain ⟨he3,_⟩:=orE_zero he2
  have hle:=ask_le he3
  rw [ByteArray.size_append] at hle
  have ht:=tyAt_le hM a
  have hBs : (entB s tk (tyAt m a).1).size = s.st.size - tk.size - (tyAt m a).1.size:=by
   unfold entB
   simp
  have hsts : (entS s c tk (tyAt m a).1 (tyAt m a).2).st.size = s.st.size - tk.size:=by
   show (s.st.extract 0 (s.st.size - tk.size)).size = _
   simp
  have hop : (entS s c tk (tyAt m a).1 (tyAt m a).2).op = s.op ++ [⟨(tyAt m a).1,(tyAt m a).2,entB s tk (tyAt m a).1,c,s.pc⟩]:=rfl
  have htop : topO (entS s c tk (tyAt m a).1 (tyAt m a).2) = ⟨(tyAt m a).1,(tyAt m a).2,entB s tk (tyAt m a).1,c,s.pc⟩:=by
   unfold topO
   rw [hop]
   simp [List.getD_eq_getElem?_getD]
  refine ⟨?_,?_,?_,?_,by rw [hsts]; omega,h.hi,h.sh⟩
  ·rw [hop,stk_open hO]
   simp [h.len]
  ·rw [hop]
   intro p hp
   rcases List.mem_append.1 hp with hp | hp
   ·exact h.sz p hp
   ·simp only [List.mem_singleton] at hp
    subst hp
    exact ⟨ht.1,ht.2,by dsimp only; omega,j,by dsimp only; rw [hpc],hj⟩
  ·rw [hop,List.pairwise_append]
   refine ⟨h.ch,by simp,?_⟩
   intro p hp q hq
   simp only [List.mem_singleton] at hq
   subst hq
   dsimp only
   rw [hBs]
   have hpl : p.B.size ≤ (topO s).B.size:=by
    obtain ⟨i,hi,rfl⟩:=List.getElem_of_mem hp
    have hget:=topO_get h.len
    have hk:=h.len
    rcases Nat.lt_or_ge i (stk O j).length with hx | hx
    ·have:=List.pairwise_iff_getElem.1 h.ch i (stk O j).length hi (by omega) hx
     rw [List.getElem?_eq_getElem (by omega)] at hget
     simp at hget
     rw [hget] at this
     exact this
    ·have : i = (stk O j).length:=by omega
     subst this
     rw [List.getElem?_eq_getElem (by omega)] at hget
     simp at hget
     rw [hget]
     exact Nat.le_refl _
   omega
  ·rw [htop,hsts]
   dsimp only
   rw [hBs]
   omega
 by_cases c23 : c = 2 ∨ c = 3
 ·have eE : rwE m lo el s (topO s) c a l = opE m s (topO s) a nT:=by unfold rwE; rw [if_pos c23]
  have eS : rwS m lo s (topO s) c a = entS s c nT (tyAt m a).1 (tyAt m a).2:=by unfold rwS; rw [if_pos c23]
  rw [eS]
  exact hnew nT (by rw [← eE]; exact he) (by rw [hc,isO_iff]; omega)
 by_cases c4 : c = 4
 ·have eE : rwE m lo el s (topO s) c a l = opE m s (topO s) a wT:=by unfold rwE; rw [if_neg c23,if_pos c4]
  have eS : rwS m lo s (topO s) c a = entS s c wT (tyAt m a).1 (tyAt m a).2:=by unfold rwS; rw [if_neg c23,if_pos c4]
  rw [eS]
  exact hnew wT (by rw [← eE]; exact he) (by rw [hc,isO_iff]; omega)
 have hO : isO (O j) = false:=by
  cases hb : isO (O j)
  ·rfl
  ·rw [isO_iff,hc] at hb; omega
 by_cases c6 : c = 6
 ·have eS : rwS m lo s (topO s) c a = endS s:=by
   unfold rwS; rw [if_neg c23,if_neg c4,if_neg (by omega),if_pos c6]
  rw [eS]
  have hst6 : stk O (j + 1) = (stk O j).tail:=stk_end (by rw [hc]; exact c6)
  have hne : stk O j ≠ []:=fun e => hnb ⟨c6,e⟩
  obtain ⟨t,r,hr⟩ : ∃ t r,stk O j = t :: r:=by
   cases hx : stk O j with
   | nil => exact absurd hx hne
   | cons t r => exact ⟨t,r,rfl⟩
  have hlen:=h.len
  rw [hr] at hlen
  simp only [List.length_cons] at hlen
  have hop : (endS s).op = s.op.dropLast:=rfl
  have hdl : s.op.dropLast.length = r.length + 1:=by rw [List.length_dropLast,hlen]; omega
  refine ⟨?_,?_,?_,?_,h.st,h.hi,h.sh⟩
  ·rw [hop,hst6,hr,hdl]; rfl
  ·rw [hop]; exact fun p hp => h.sz p ((List.dropLast_sublist _).subset hp)
  ·rw [hop]; exact h.ch.sublist (List.dropLast_sublist _)
  ·show (topO (endS s)).B.size ≤ s.st.size
   have hg1:=topO_get (s:=endS s) (k:=r.length) hdl
   have hg2:=topO_get (s:=s) (k:=r.length + 1) hlen
   rw [hop,List.getElem?_dropLast,if_pos (by omega),List.getElem?_eq_getElem (by omega)] at hg1
   rw [List.getElem?_eq_getElem (by omega)] at hg2
   simp only [Option.some.injEq] at hg1 hg2
   have:=List.pairwise_iff_getElem.1 h.ch r.length (r.length + 1) (by omega) (by omega) (by omega)
   rw [hg1,hg2] at this
   omega
 have hsame : stk O (j + 1) = stk O j:=stk_same hO (by rw [hc]; exact c6)
 by_cases c5 : c = 5
 ·have eS : rwS m lo s (topO s) c a = othS s (topO s):=by unfold rwS; rw [if_neg c23,if_neg c4,if_pos c5]
  rw [eS]
  refine h.keepOp hsame rfl ?_ ?_ h.hi h.sh
  ·show _ ≤ ((topO s).B ++ (topO s).P).size
   rw [ByteArray.size_append]; omega
  ·show ((topO s).B ++ (topO s).P).size ≤ 256
   rw [ByteArray.size_append]; omega
 have hleave : pushE (topO s).B (topO s).R = 0 → Iv3 O n (j + 1) (leaveS s (topO s)):=by
  intro hp
  obtain ⟨e1,e2⟩:=push_ok hp
  have hs' : (leaveS s (topO s)).st = (topO s).B ++ (topO s).R:=e1
  refine h.keepOp hsame rfl ?_ ?_ h.hi h.sh
  ·rw [hs',ByteArray.size_append]; omega
  ·rw [hs',ByteArray.size_append]; omega
 have htake : ∀ t : ByteArray,askE s (topO s) t = 0 → (topO s).B.size ≤ (takeS s t).st.size ∧ (takeS s t).st.size ≤ 256:=by
  intro t ht
  have:=ask_le ht
  have e : (takeS s t).st.size = s.st.size - t.size:=by
   show (s.st.extract 0 (s.st.size - t.size)).size = _
   simp
  omega
 by_cases c7 : c = 7
 ·have eS : rwS m lo s (topO s) c a = leaveS s (topO s):=by unfold rwS; rw [if_neg c23,if_neg c4,if_neg c5,if_neg c6,if_pos (.inl c7)]
  have eE : rwE m lo el s (topO s) c a l = orE (labE s a) (orE (askE s (topO s) (brg (labO s a))) (pushE (topO s).B (topO s).R)):=by unfold rwE; rw [if_neg c23,if_neg c4,if_neg c5,if_neg c6,if_pos c7]
  rw [eS]
  rw [eE] at he
  exact hleave (orE_zero (orE_zero he).2).2
 by_cases c8 : c = 8
 ·have eS : rwS m lo s (topO s) c a = takeS s wT:=by unfold rwS; rw [if_neg c23,if_neg c4,if_neg c5,if_neg c6,if_neg (by omega),if_pos c8]
  have eE : rwE m lo el s (topO s) c a l = orE (labE s a) (orE (askE s (topO s) (brg (labO s a) ++ wT)) (askE s (topO s) wT)):=by unfold rwE; rw [if_neg c23,if_neg c4,if_neg c5,if_neg c6,if_neg c7,if_pos c8]
  rw [eS]
  rw [eE] at he
  have:=htake wT (orE_zero (orE_zero he).2).2
  exact h.keepOp hsame rfl this.1 this.2 h.hi h.sh
 by_cases c9 : c = 9
 ·have eS : rwS m lo s (topO s) c a = leaveS s (topO s):=by unfold rwS; rw [if_neg c23,if_neg c4,if_neg c5,if_neg c6,if_pos (.inr (.inl c9))]
  have eE : rwE m lo el s (topO s) c a l = orE (comE s l) (orE (askE s (topO s) (brg (labO s (l.getD 0 0)) ++ wT)) (pushE (topO s).B (topO s).R)):=by unfold rwE; rw [if_neg c23,if_neg c4,if_neg c5,if_neg c6,if_neg c7,if_neg c8,if_pos c9]
  rw [eS]
  rw [eE] at he
  exact hleave (orE_zero (orE_zero he).2).2
 by_cases c10 : c = 10
 ·have eS : rwS m lo s (topO s) c a = leaveS s (topO s):=by unfold rwS; rw [if_neg c23,if_neg c4,if_neg c5,if_neg c6,if_pos (.inr (.inr (.inl c10)))]
  have eE : rwE m lo el s (topO s) c a l = orE (askE s (topO s) (brg (bodyO s))) (pushE (topO s).B (topO s).R):=by unfold rwE; rw [if_neg c23,if_neg c4,if_neg c5,if_neg c6,if_neg c7,if_neg c8,if_neg c9,if_pos c10]
  rw [eS]
  rw [eE] at he
  exact hleave (orE_zero he).2
 by_cases c0 : c = 0
 ·have eS : rwS m lo s (topO s) c a = leaveS s (topO s):=by unfold rwS; rw [if_neg c23,if_neg c4,if_neg c5,if_neg c6,if_pos (.inr (.inr (.inr c0)))]
  have eE : rwE m lo el s (topO s) c a l = pushE (topO s).B (topO s).R:=by unfold rwE; rw [if_neg c23,if_neg c4,if_neg c5,if_neg c6,if_neg c7,if_neg c8,if_neg c9,if_neg c10,if_pos c0]
  rw [eS]
  rw [eE] at he
  exact hleave he
 have eS : rwS m lo s (topO s) c a = putS (takeS s (efV m lo s (topO s) c a).1) (efV m lo s (topO s) c a).2:=by
  unfold rwS; rw [if_neg c23,if_neg c4,if_neg c5,if_neg c6,if_neg (by omega),if_neg c8]
 have eE : rwE m lo el s (topO s) c a l = orE (efE m lo s (topO s) c a) (orE (askE s (topO s) (efV m lo s (topO s) c a).1) (pushE (takeS s (efV m lo s (topO s) c a).1).st (efV m lo s (topO s) c a).2)):=by
  unfold rwE; rw [if_neg c23,if_neg c4,if_neg c5,if_neg c6,if_neg c7,if_neg c8,if_neg c9,if_neg c10,if_neg c0]
 rw [eS]
 rw [eE] at he
 obtain ⟨e1,e2⟩:=orE_zero (orE_zero he).2
 have ht:=htake _ e1
 obtain ⟨p1,p2⟩:=push_ok e2
 have hs' : (putS (takeS s (efV m lo s (topO s) c a).1) (efV m lo s (topO s) c a).2).st = (takeS s (efV m lo s (topO s) c a).1).st ++ (efV m lo s (topO s) c a).2:=p1
 refine h.keepOp hsame rfl ?_ ?_ h.hi h.sh
 ·rw [hs',ByteArray.size_append]; omega
 ·rw [hs',ByteArray.size_append]; omega
theorem Iv3.wk {O : Nat → Int} {n j : Nat} {s : Cs} {v : Ev} (h : Iv3 O n j s) (hn : v.n = n) (hnn : n ≤ 1000000) (hpc : s.pc = j) (hj : j < n) (hd : (stk O j).length ≤ 32) : Wk v s (stk O j).length (topO s):=by
 have hmem:=topO_mem h.len
 have hsz:=h.sz _ hmem
 have hst:=h.st
 refine ⟨⟨h.len,by omega,topO_get h.len,h.last,by omega⟩,by omega,by omega,by omega,by omega,fun p hp => ⟨(h.sz p hp).1,(h.sz p hp).2.1⟩,?_⟩
 obtain ⟨q,hq,hqn⟩:=hsz.2.2.2
 exact ⟨q,hq,by omega⟩
end
theorem blank_step {w wr : World} {B n k : Nat} (hlt : k < n) (h : RI wr B n (fun i => if i < k then -1 else 0)) (hb : Below w.heap.size w wr) (hB : w.heap.size ≤ B) :
  RI (wr.setCell ⟨B,k,none⟩ (.int .i64 (-1))) B n (fun i => if i < k + 1 then -1 else 0) ∧ Below w.heap.size w (wr.setCell ⟨B,k,none⟩ (.int .i64 (-1))):=by
 refine ⟨(h.put k (-1) (fun i hi => ?_)).1,hb.setCell (by simpa using hB) _⟩
 split <;> split <;> (try split) <;> omega
theorem blank (n : Nat) (w : World) (hn : n ≤ 1048576) :
  Calls Tryz.prog 84 #[.int .i64 n] w fun e w' => ∃ B,e = .returned (.slice (some ⟨B,0,none⟩) n n) ∧ w.heap.size ≤ B ∧ RI w' B n (fun _ => -1) ∧ Below w.heap.size w w':=by
 obtain ⟨i0,hi,hz0,hz1,hz2⟩:=info_parts Tryz.infInts
 have hb2 : i0.bytes * n ≤ 281474976710656:=by rw [hz2]; omega
 have hml : n ≤ maxLen:=by unfold maxLen; omega
 go_enter Tryz.func84,Tryz.ntmps84
 go_wp2_with (first | (at_make; refine wpList_make_full _ rfl _ _ 23 rfl w.heap.size 3 i0 (.int .i64 0) 1 Tryz.underlying23 hi hz0 hz1 .i64 .i64 _ _ n rfl rfl (by omega) (by omega) hb2 hml (Nat.le_refl _) ?_; intro w1 hown hgrow))
 have hown0 : RI w1 w.heap.size n (fun i => if i < 0 then -1 else 0):=by
  have e : (madeCells (Value.int .i64 0).cells (n * 1)).toList = fl n (fun i => if i < 0 then -1 else 0):=by
   rw [Nat.mul_one]; refine (toList_madeCells_one _ _).trans ?_
   apply List.ext_getElem?
   intro j
   by_cases hj : j < n
   ·rw [fl_get n _ j hj]; simp [hj]
   ·rw [List.getElem?_eq_none (by simp; omega),List.getElem?_eq_none (by rw [fl_len]; omega)]
  unfold RI
  rw [← e]; exact Row.of hown
 have hbel : Below w.heap.size w w1:=(Below.refl _ _).grown hgrow (Nat.le_refl _) (by simp)
 clear hown hgrow hi hz0 hz1 hz2 hb2 hml
 go_loopw [9] (fun i wr => ∃ k : Nat,k ≤ n ∧ i = .int .i64 k ∧ RI wr w.heap.size n (fun i => if i < k then -1 else 0) ∧ Below w.heap.size w wr) (fun i _ => n - (intOf i).toNat)
 case atStart => exact ⟨0,by omega,rfl,hown0,hbel⟩
 case round =>
  obtain ⟨k,hk,rfl,hown,hb⟩:=hrel
  clear hown0 hbel
  by_cases hlt : k < n
  ·have hst:=blank_step hlt hown hb (Nat.le_refl _)
   have hcl:=hown.cell k hlt
   have hfz:=hown.free k
   have HS:=hid hst
   clear hst hb hown
   go_wp2
   have R:=HS.out
   exact ⟨⟨k + 1,by omega,by go_num,R.1,R.2⟩,by simp [intOf]; omega⟩
  ·obtain rfl : k = n:=by omega
   have HB:=hid hb
   have HO:=hid hown
   clear hb hown
   go_wp2
   go_ret
   exact ⟨_,rfl,Nat.le_refl _,HO.out.congr (fun i hi => by simp [hi]),HB.out⟩
def planV (A B C n : Nat) : Value:=.agg #[.slice (some ⟨A,0,none⟩) n n,.slice (some ⟨B,0,none⟩) n n,.slice (some ⟨C,0,none⟩) n n]
theorem endT (A B C n t pc : Nat) (en el : Nat → Int) (w : World) (hn : n ≤ 1048576) (ht : t < n) (hAB : A ≠ B) (hA : RI w A n en) (hB : RI w B n el) (hel : el t = -1 ∨ ∃ j : Nat,el t = j ∧ j < n) :
  Calls Tryz.prog 118 #[planV A B C n,.int .i64 t,.int .i64 pc] w fun e w' => e = .returned (.tuple #[]) ∧ RI w' A n (fun i => if i = t ∨ (i : Int) = el t then (pc : Int) else en i) ∧ Kept (fun k => k = A) w w':=by
 unfold planV
 have hAl:=hA.lt
 have hBl:=hB.lt
 obtain ⟨o,ho⟩ : ∃ o,o = Obj.cells #[Value.slice (some ⟨A,0,none⟩) n n,.slice (some ⟨B,0,none⟩) n n,.slice (some ⟨C,0,none⟩) n n] 149:=⟨_,rfl⟩
 have k0:=Kept.alloc (fun k => k = A) w o
 have hA1:=hA.kept (Kept.alloc (fun _ => False) w o) (fun x => x)
 have hB1:=hB.kept (Kept.alloc (fun _ => False) w o) (fun x => x)
 have hAn : ¬ A = w.heap.size:=by omega
 have hBn : ¬ B = w.heap.size:=by omega
 have g1 : (w.alloc o).cell? ⟨A,t,none⟩ = some (.int .i64 (en t)):=hA1.cell t ht
 have g2 : (w.alloc o).frozen? ⟨A,t,none⟩ = false:=hA1.free t
 have P1:=hA1.put (g:=fun i => if i = t then (pc : Int) else en i) t pc (fun i hi => rfl)
 have g3 : ((w.alloc o).setCell ⟨A,t,none⟩ (.int .i64 pc)).cell? ⟨B,t,none⟩ = some (.int .i64 (el t)):=(hB1.kept P1.2 (fun x => hAB x.symm)).cell t ht
 have hp0 : (w.alloc o).cell? ⟨w.heap.size,0,none⟩ = some (.slice (some ⟨A,0,none⟩) n n):=by rw [ho,World.cell?_alloc_new]; rfl
 have hp1 : (w.alloc o).cell? ⟨w.heap.size,1,none⟩ = some (.slice (some ⟨B,0,none⟩) n n):=by rw [ho,World.cell?_alloc_new]; rfl
 have g4 : ((w.alloc o).setCell ⟨A,t,none⟩ (.int .i64 pc)).cell? ⟨w.heap.size,0,none⟩ = some (.slice (some ⟨A,0,none⟩) n n):=P1.2.cell hp0 (fun x => hAn x.symm)
 have g5 : ((w.alloc o).setCell ⟨A,t,none⟩ (.int .i64 pc)).cell? ⟨w.heap.size,1,none⟩ = some (.slice (some ⟨B,0,none⟩) n n):=P1.2.cell hp1 (fun x => hAn x.symm)
 have HP:=hid P1
 have HK:=hid k0
 rcases hel with hel | ⟨j,hel,hj⟩
 ·rw [hel] at g3
  have HE:=hid hel
  subst ho
  clear hA1 hB1 hp0 hp1 hA hB P1 k0 hel hAB hAl hBl hAn hBn
  go_enter Tryz.func118,Tryz.ntmps118
  go_wp2_with fail
  go_end0
  refine ⟨rfl,HP.out.1.congr (fun i hi => ?_),HK.out.trans HP.out.2⟩
  rw [HE.out]
  have : ¬ (i : Int) = -1:=by omega
  simp [this]
 ·rw [hel] at g3
  have HE:=hid hel
  have P2:=HP.out.1.put (g:=fun i => if i = t ∨ (i : Int) = el t then (pc : Int) else en i) j pc (fun i hi => by
   rw [hel]
   by_cases e : i = j
   ·subst e; simp
   ·have : ¬ (i : Int) = (j : Int):=by omega
    simp [e,this])
  have g6:=HP.out.1.cell j hj
  have g7:=HP.out.1.free j
  have HP2:=hid P2
  have hjb : ((j : Int) == -1) = false:=by simp
  have hjn : ((j : Int) != -1) = true:=by simp
  subst ho
  clear hA1 hB1 hp0 hp1 hA hB P1 P2 k0 hel hAB hAl hBl hAn hBn
  go_enter Tryz.func118,Tryz.ntmps118
  go_wp2_with fail
  go_end0
  exact ⟨rfl,HP2.out.1,(HK.out.trans HP.out.2).trans HP2.out.2⟩
end Go.Proofs.YtepcmfegggdjfaaGreatDoor
