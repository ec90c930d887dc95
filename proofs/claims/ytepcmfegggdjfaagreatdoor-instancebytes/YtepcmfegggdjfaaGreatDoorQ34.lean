/-
  Texts Vv Vw Wy.
-/
import Derived.Deep.RegionHeld3
import Derived.Defers
import Derived.Recover
import Derived.Test.YtepcmfegggdjfaaGreatDoorQ04
import Derived.Test.YtepcmfegggdjfaaGreatDoorQ33
set_option linter.unusedVariables false
set_option maxRecDepth 100000
set_option maxHeartbeats 16000000
namespace Go.Proofs.YtepcmfegggdjfaaGreatDoor
open Go.RowKit
def wT : ByteArray:=⟨#[119]⟩
def nT : ByteArray:=⟨#[]⟩
def bodyO (s : Cs) : Opn:=s.op.getD 0 ⟨⟨#[]⟩,⟨#[]⟩,⟨#[]⟩,0,0⟩
def opE (m : MM) (s : Cs) (o : Opn) (a : Int) (tk : ByteArray) : Int:=orE (chkIdx m.tn a) (orE (askE s o ((tyAt m a).1 ++ tk)) (askE s o tk))
def rwE (m : MM) (lo : List Int) (el : Int) (s : Cs) (o : Opn) (c a : Int) (l : List Int) : Int :=
 if c = 2 ∨ c = 3 then opE m s o a nT
 else if c = 4 then opE m s o a wT
 else if c = 5 then lefE s o
 else if c = 6 then orE (lefE s o) (elsE o el)
 else if c = 7 then orE (labE s a) (orE (askE s o (brg (labO s a))) (pushE o.B o.R))
 else if c = 8 then orE (labE s a) (orE (askE s o (brg (labO s a) ++ wT)) (askE s o wT))
 else if c = 9 then orE (comE s l) (orE (askE s o (brg (labO s (l.getD 0 0)) ++ wT)) (pushE o.B o.R))
 else if c = 10 then orE (askE s o (brg (bodyO s))) (pushE o.B o.R)
 else if c = 0 then pushE o.B o.R
 else orE (efE m lo s o c a) (orE (askE s o (efV m lo s o c a).1) (pushE (takeS s (efV m lo s o c a).1).st (efV m lo s o c a).2))
def rwS (m : MM) (lo : List Int) (s : Cs) (o : Opn) (c a : Int) : Cs :=
 if c = 2 ∨ c = 3 then entS s c nT (tyAt m a).1 (tyAt m a).2
 else if c = 4 then entS s c wT (tyAt m a).1 (tyAt m a).2
 else if c = 5 then othS s o
 else if c = 6 then endS s
 else if c = 7 ∨ c = 9 ∨ c = 10 ∨ c = 0 then leaveS s o
 else if c = 8 then takeS s wT
 else putS (takeS s (efV m lo s o c a).1) (efV m lo s o c a).2
structure Wk (v : Ev) (s : Cs) (k : Nat) (o : Opn) : Prop where
 cw : CW s k o
 kk : k < 63
 pn : s.pc < v.n
 nn : v.n ≤ 1000000
 bs : o.B.size ≤ 1000000
 sz : ∀ p ∈ s.op,p.P.size ≤ 8 ∧ p.R.size ≤ 8
 op : ∃ p : Nat,o.pc = p ∧ p < v.n
theorem of_small : ((List.range 256).all fun n => decide ((ofV (n : Int)).1.2.2.2.1.size ≤ 8) && decide ((ofV (n : Int)).1.2.2.2.2.1.size ≤ 8)) = true:=by kernel_rfl
theorem of_le {c : Int} (h0 : 0 ≤ c) (h1 : c ≤ 255) : (ofV c).1.2.2.2.1.size ≤ 8 ∧ (ofV c).1.2.2.2.2.1.size ≤ 8:=by
 have h:=List.all_eq_true.1 of_small c.toNat (by rw [List.mem_range]; omega)
 rw [show ((c.toNat : Nat) : Int) = c by omega] at h
 simp only [Bool.and_eq_true,decide_eq_true_eq] at h
 exact h
section
variable {v : Ev} {w1 w : World} {s : Cs} {m : MM} {lo : List Int}
theorem tyAt_le (hM : EvM v w1 m lo) (i : Int) : (tyAt m i).1.size ≤ 8 ∧ (tyAt m i).2.size ≤ 8:=by
 unfold tyAt
 rw [List.getD_eq_getElem?_getD]
 cases h : m.types[i.toNat]? with
 | none => exact ⟨Nat.zero_le _,Nat.zero_le _⟩
 | some x => exact hM.tL x (List.mem_of_getElem? h)
theorem ltr_le (c : Int) : (ltr c).size ≤ 1:=by unfold ltr; split <;> exact Nat.le_refl _
theorem hldP_le (c : Int) (y : ByteArray) (h : y.size ≤ 1) : (hldP c y).size ≤ 1:=by unfold hldP; split; exact Nat.zero_le _; exact h
theorem hldR_le (c : Int) (y : ByteArray) (h : y.size ≤ 1) : (hldR c y).size ≤ 1:=by unfold hldR; split; exact h; exact Nat.zero_le _
theorem letV_le (s : Cs) (o : Opn) (j : Nat) : (letV s o j).size ≤ 1:=by simp [letV]; omega
theorem efV_le (hM : EvM v w1 m lo) (s : Cs) (o : Opn) {c : Int} (a : Int) (h0 : 0 ≤ c) (h1 : c ≤ 255) : (efV m lo s o c a).1.size ≤ 1000 ∧ (efV m lo s o c a).2.size ≤ 1000:=by
 unfold efV
 split
 ·have:=tyAt_le hM (fnTy m a); omega
 split
 ·have:=tyAt_le hM (m.hosts.getD a.toNat 0); omega
 split
 ·have:=letV_le s o 0; exact ⟨by dsimp only; omega,Nat.zero_le _⟩
 split
 ·have:=letV_le s o 1
  refine ⟨?_,by dsimp only; omega⟩
  dsimp only
  rw [ByteArray.size_append,ByteArray.size_append]
  have : (⟨#[119]⟩ : ByteArray).size = 1:=rfl
  omega
 split
 ·have h1:=hldP_le c _ (ltr_le (lo.getD a.toNat 0))
  have h2:=hldR_le c _ (ltr_le (lo.getD a.toNat 0))
  exact ⟨by dsimp only; omega,by dsimp only; omega⟩
 split
 ·have h1:=hldP_le c _ (ltr_le (glC m a))
  have h2:=hldR_le c _ (ltr_le (glC m a))
  exact ⟨by dsimp only; omega,by dsimp only; omega⟩
 ·have:=of_le h0 h1
  exact ⟨by dsimp only; omega,by dsimp only; omega⟩
theorem row112_op (hA : EvA v w1) (hM : EvM v w1 m lo) (h : CI v w1 w s) {k : Nat} {o : Opn} (hk : Wk v s k o) {c a : Int} (L : Value) (tk : ByteArray)
  (hyes : ∀ {q : Nat} {P R : ByteArray},m.types[q]? = some (P,R) → Calls Tryz.prog 87 #[.pointer (some ⟨v.C,0,none⟩),.agg #[.int .u8 c,.int .i64 q,L]] w (Rowz v w1 s.pc (orE (askE s o (P ++ tk)) (askE s o tk)) (entS s c tk P R)))
  (hno : ∀ {z : Int},(z < 0 ∨ (m.tn : Int) ≤ z) → ∀ S',Calls Tryz.prog 87 #[.pointer (some ⟨v.C,0,none⟩),.agg #[.int .u8 c,.int .i64 z,L]] w (Rowz v w1 s.pc 30 S')) :
  Calls Tryz.prog 87 #[.pointer (some ⟨v.C,0,none⟩),.agg #[.int .u8 c,.int .i64 a,L]] w (Rowz v w1 s.pc (opE m s o a tk) (entS s c tk (tyAt m a).1 (tyAt m a).2)):=by
 unfold opE
 rcases idx_cases m.tn a with ⟨e1,hz⟩ | ⟨e1,q,rfl,hq⟩
 ·rw [e1,orE_l (by decide)]
  exact hno hz _
 ·rw [e1,orE_r rfl]
  have hlen:=hM.pt.1
  have hget:=List.getElem?_eq_getElem (l:=m.types) (i:=q) (by omega)
  have hty : tyAt m (q : Int) = m.types[q]'(by omega):=getD_of hget
  rw [hty]
  exact hyes hget
theorem row112 (hA : EvA v w1) (hM : EvM v w1 m lo) (h : CI v w1 w s) {k : Nat} {o : Opn} (hk : Wk v s k o) {c a : Int} {la : Option Addr} {ln lc : Nat} {l : List Int} {el : Int} (h0 : 0 ≤ c) (h1 : c ≤ 255)
  (hl : c = 9 → SegJ w1 la ln lc l ∧ 0 < ln) (hS : ∀ b off,la = some ⟨b,off,none⟩ → ln ≠ 0 → ¬ v.S b) (hel : w.cell? ⟨v.EL,o.pc.toNat,none⟩ = some (.int .i64 el)) :
  Calls Tryz.prog 87 #[.pointer (some ⟨v.C,0,none⟩),.agg #[.int .u8 c,.int .i64 a,.slice la ln lc]] w (Rowz v w1 s.pc (rwE m lo el s o c a l) (rwS m lo s o c a)):=by
 have hw:=hk.cw
 have ho8:=hk.sz o (List.mem_of_getElem? hw.last)
 have hR : o.R.size ≤ 1000000:=by omega
 have hP : o.P.size ≤ 1000000:=by omega
 by_cases c2 : c = 2
 ·subst c2
  have eE : rwE m lo el s o 2 a l = opE m s o a nT:=by unfold rwE; simp
  have eS : rwS m lo s o 2 a = entS s 2 nT (tyAt m a).1 (tyAt m a).2:=by unfold rwS; simp
  rw [eE,eS]
  exact row112_op hA hM h hk _ nT (fun hP => row112_open2 hA hM h hw _ hP hk.pn hk.nn hk.kk) (fun hz S' => row112_open2_no hA hM h _ hz S')
 by_cases c3 : c = 3
 ·subst c3
  have eE : rwE m lo el s o 3 a l = opE m s o a nT:=by unfold rwE; simp
  have eS : rwS m lo s o 3 a = entS s 3 nT (tyAt m a).1 (tyAt m a).2:=by unfold rwS; simp
  rw [eE,eS]
  exact row112_op hA hM h hk _ nT (fun hP => row112_open3 hA hM h hw _ hP hk.pn hk.nn hk.kk) (fun hz S' => row112_open3_no hA hM h _ hz S')
 by_cases c4 : c = 4
 ·subst c4
  have eE : rwE m lo el s o 4 a l = opE m s o a wT:=by unfold rwE; simp
  have eS : rwS m lo s o 4 a = entS s 4 wT (tyAt m a).1 (tyAt m a).2:=by unfold rwS; simp
  rw [eE,eS]
  exact row112_op hA hM h hk _ wT (fun hP => row112_open4 hA hM h hw _ hP hk.pn hk.nn hk.kk) (fun hz S' => row112_open4_no hA hM h _ hz S')
 by_cases c5 : c = 5
 ·subst c5
  have eE : rwE m lo el s o 5 a l = lefE s o:=by unfold rwE; simp
  have eS : rwS m lo s o 5 a = othS s o:=by unfold rwS; simp
  rw [eE,eS]
  exact row112_else hA h hw hk.bs hR hP a _
 by_cases c6 : c = 6
 ·subst c6
  have eE : rwE m lo el s o 6 a l = orE (lefE s o) (elsE o el):=by unfold rwE; simp
  have eS : rwS m lo s o 6 a = endS s:=by unfold rwS; simp
  rw [eE,eS]
  obtain ⟨p,hp,hpn⟩:=hk.op
  rw [hp] at hel
  exact row112_end hA h hw hk.bs hR hP a _ hp hpn hk.nn (by simpa using hel)
 by_cases c7 : c = 7
 ·subst c7
  have eE : rwE m lo el s o 7 a l = orE (labE s a) (orE (askE s o (brg (labO s a))) (pushE o.B o.R)):=by unfold rwE; simp
  have eS : rwS m lo s o 7 a = leaveS s o:=by unfold rwS; simp
  rw [eE,eS]
  exact row112_br hA h hw hk.bs hR hk.sz a _
 by_cases c8 : c = 8
 ·subst c8
  have eE : rwE m lo el s o 8 a l = orE (labE s a) (orE (askE s o (brg (labO s a) ++ wT)) (askE s o wT)):=by unfold rwE; simp
  have eS : rwS m lo s o 8 a = takeS s wT:=by unfold rwS; simp
  rw [eE,eS]
  exact row112_brif hA h hw hk.bs hR hk.sz a _
 by_cases c9 : c = 9
 ·subst c9
  have eE : rwE m lo el s o 9 a l = orE (comE s l) (orE (askE s o (brg (labO s (l.getD 0 0)) ++ wT)) (pushE o.B o.R)):=by unfold rwE; simp
  have eS : rwS m lo s o 9 a = leaveS s o:=by unfold rwS; simp
  rw [eE,eS]
  obtain ⟨hl1,hl2⟩:=hl rfl
  exact row112_brtable hA h hw hk.bs hR hk.sz a la ln lc l hl1 hl2 hS
 by_cases c10 : c = 10
 ·subst c10
  have eE : rwE m lo el s o 10 a l = orE (askE s o (brg (bodyO s))) (pushE o.B o.R):=by unfold rwE; simp
  have eS : rwS m lo s o 10 a = leaveS s o:=by unfold rwS; simp
  rw [eE,eS]
  have hlen:=hw.len
  have hget:=List.getElem?_eq_getElem (l:=s.op) (i:=0) (by omega)
  have hb : bodyO s = s.op[0]'(by omega):=getD_of hget
  have:=row112_return hA h hw hk.bs hR hk.sz a (.slice la ln lc) hget
  rw [← hb] at this
  exact this
 by_cases c0 : c = 0
 ·subst c0
  have eE : rwE m lo el s o 0 a l = pushE o.B o.R:=by unfold rwE; simp
  have eS : rwS m lo s o 0 a = leaveS s o:=by unfold rwS; simp
  rw [eE,eS]
  exact row112_trap hA h hw hk.bs hR a _
 have hgo : goesOn c:=⟨c0,c2,c3,c4,c5,c6,c7,c8,c9,c10⟩
 have eE : rwE m lo el s o c a l = orE (efE m lo s o c a) (orE (askE s o (efV m lo s o c a).1) (pushE (takeS s (efV m lo s o c a).1).st (efV m lo s o c a).2)):=by
  simp only [rwE,c0,c2,c3,c4,c5,c6,c7,c8,c9,c10,or_self,if_false]
 have eS : rwS m lo s o c a = putS (takeS s (efV m lo s o c a).1) (efV m lo s o c a).2:=by
  simp only [rwS,c0,c2,c3,c4,c5,c6,c7,c8,c9,c10,or_self,if_false]
 rw [eE,eS]
 have hle:=efV_le hM s o a h0 h1
 exact row112_eff hA h hw _ hgo hle.1 hle.2 (fun W hW => effect175 hA hM hW hw _ h0 h1)
end
def visS (s : Cs) : Cs:={ s with dead:=false,sh:=s.sh.set s.pc s.st,fl:=fun i => if i = s.pc then -1 else s.fl i,hi:=max s.hi s.st.size }
def visE (m : MM) (lo : List Int) (el : Int) (s : Cs) (o : Opn) (c a : Int) (l : List Int) : Int :=
 if s.dead = true ∧ c ≠ 5 ∧ c ≠ 6 then 36 else rwE m lo el (visS s) o c a l
section
variable {v : Ev} {w1 w : World} {s : Cs} {m : MM} {lo : List Int}
theorem Wk.vis {k : Nat} {o : Opn} (h : Wk v s k o) : Wk v (visS s) k o:=⟨⟨h.cw.len,h.cw.le,h.cw.last,h.cw.base,h.cw.big⟩,h.kk,h.pn,h.nn,h.bs,h.sz,h.op⟩
theorem visit73_dead (hA : EvA v w1) (h : CI v w1 w s) {c a : Int} (L : Value) (hd : s.dead = true) (h5 : c ≠ 5) (h6 : c ≠ 6) (S' : Cs) :
  Calls Tryz.prog 63 #[.pointer (some ⟨v.C,0,none⟩),.agg #[.int .u8 c,.int .i64 a,L]] w (Rowz v w1 s.pc 36 S'):=by
 have BW:=below_new w (.cells #[.int .u8 c,.int .i64 a,L] 82)
 have x0 : (w.alloc (.cells #[.int .u8 c,.int .i64 a,L] 82)).cell? ⟨w.heap.size,0,none⟩ = some (.int .u8 c):=by simp [go_sem]
 have HC:=hid (h.later hA BW)
 have c17:=HC.out.dead
 rw [hd] at c17
 have e5 : (c == 5) = false:=by simpa using h5
 have e6 : (c == 6) = false:=by simpa using h6
 clear h BW
 go_enter Tryz.func63,Tryz.ntmps63
 go_wp2_with fail
 refine (must_no _ _).mono ?_
 rintro e w2 ⟨rfl,rfl⟩
 exact ⟨rfl,.inr ⟨by decide,rfl,HC.out.bad⟩⟩
theorem visit73 (hA : EvA v w1) (hM : EvM v w1 m lo) (h : CI v w1 w s) {k : Nat} {o : Opn} (hk : Wk v s k o) {c a : Int} {la : Option Addr} {ln lc : Nat} {l : List Int} {el : Int} (h0 : 0 ≤ c) (h1 : c ≤ 255) (hhi : s.hi ≤ 1000000) (hsl : s.sh.length = v.n)
  (hl : c = 9 → SegJ w1 la ln lc l ∧ 0 < ln) (hS : ∀ b off,la = some ⟨b,off,none⟩ → ln ≠ 0 → ¬ v.S b) (hel : w1.cell? ⟨v.EL,o.pc.toNat,none⟩ = some (.int .i64 el)) (hES : ¬ v.S v.EL) (hd : s.dead = false ∨ c = 5 ∨ c = 6) :
  Calls Tryz.prog 63 #[.pointer (some ⟨v.C,0,none⟩),.agg #[.int .u8 c,.int .i64 a,.slice la ln lc]] w (Rowz v w1 s.pc (rwE m lo el (visS s) o c a l) (rwS m lo (visS s) o c a)):=by
 have BW:=below_new w (.cells #[.int .u8 c,.int .i64 a,.slice la ln lc] 82)
 have x0 : (w.alloc (.cells #[.int .u8 c,.int .i64 a,.slice la ln lc] 82)).cell? ⟨w.heap.size,0,none⟩ = some (.int .u8 c):=by simp [go_sem]
 have x1 : (w.alloc (.cells #[.int .u8 c,.int .i64 a,.slice la ln lc] 82)).cell? ⟨w.heap.size,1,none⟩ = some (.int .i64 a):=by simp [go_sem]
 have x2 : (w.alloc (.cells #[.int .u8 c,.int .i64 a,.slice la ln lc] 82)).cell? ⟨w.heap.size,2,none⟩ = some (.slice la ln lc):=by simp [go_sem]
 have HC:=hid (h.later hA BW)
 have hXl : v.C < w.heap.size ∧ v.SH < w.heap.size ∧ v.FL < w.heap.size:=by have:=hA.c; have:=hA.s; have:=hA.f; have:=h.kept.size; omega
 have HR:=hid (fun (W : World) (hW : CI v w1 W (visS s)) => row112 hA hM hW hk.vis (a:=a) (la:=la) (ln:=ln) (lc:=lc) (l:=l) (el:=el) h0 h1 hl hS (hW.kept.cell hel hES))
 generalize rwE m lo el (visS s) o c a l = E at *
 generalize rwS m lo (visS s) o c a = S' at *
 clear h BW hl hS hel
 have hX : w.heap.size ≠ v.C ∧ w.heap.size ≠ v.SH ∧ w.heap.size ≠ v.FL:=by omega
 by_cases hdd : s.dead = false
 ·have c17:=HC.out.dead
  rw [hdd] at c17
  go_enter Tryz.func63,Tryz.ntmps63
  go_wp2_with fail
  generalize w.alloc (.cells #[.int .u8 c,.int .i64 a,.slice la ln lc] 82) = W0 at *
  refine (must_yes _ _).mono ?_
  rintro e w2 ⟨rfl,hw2⟩
  obtain rfl:=hw2.symm
  have f17:=HC.out.free 17
  go_wp2_with fail
  have HC1:=hid (HC.out.putDead hA false)
  have y0:=put_cell (i:=17) (x:=.bool false) x0 hX.1
  have y1:=put_cell (i:=17) (x:=.bool false) x1 hX.1
  have y2:=put_cell (i:=17) (x:=.bool false) x2 hX.1
  clear c17 f17 x0 x1 x2 HC
  generalize W0.setCell ⟨v.C,17,none⟩ (.bool false) = W1 at *
  have c9:=HC1.out.shc
  have c16 : W1.cell? ⟨v.C,16,none⟩ = some (.int .i64 s.pc):=HC1.out.pc
  have c15 : W1.cell? ⟨v.C,15,none⟩ = some (.string s.st):=HC1.out.st
  have p0 : (0 : Int) ≤ (s.pc : Int):=by omega
  have p1 : (s.pc : Int) < (v.n : Int):=by have:=hk.pn; omega
  obtain ⟨u,hu⟩ : ∃ u,W1.cell? ⟨v.SH,s.pc,none⟩ = some u:=by
   rw [HC1.out.sh.cell s.pc hk.pn]
   exact ⟨_,List.getElem?_eq_getElem (by simp [hsl]; exact hk.pn)⟩
  have fs:=HC1.out.sh.free s.pc
  go_region
  have HC2:=hid (show CI v w1 (W1.setCell ⟨v.SH,s.pc,none⟩ (.string s.st)).drew _ from (HC1.out.putSh hA s.pc s.st).later hA (below_drewN _ 1))
  have z0 : (W1.setCell ⟨v.SH,s.pc,none⟩ (.string s.st)).drew.cell? ⟨w.heap.size,0,none⟩ = _:=later_cell (below_drewN _ 1) (put_cell (i:=s.pc) (x:=.string s.st) y0 hX.2.1)
  have z1 : (W1.setCell ⟨v.SH,s.pc,none⟩ (.string s.st)).drew.cell? ⟨w.heap.size,1,none⟩ = _:=later_cell (below_drewN _ 1) (put_cell (i:=s.pc) (x:=.string s.st) y1 hX.2.1)
  have z2 : (W1.setCell ⟨v.SH,s.pc,none⟩ (.string s.st)).drew.cell? ⟨w.heap.size,2,none⟩ = _:=later_cell (below_drewN _ 1) (put_cell (i:=s.pc) (x:=.string s.st) y2 hX.2.1)
  clear c9 c16 c15 hu fs y0 y1 y2 HC1
  go_wp2_with fail
  generalize (W1.setCell ⟨v.SH,s.pc,none⟩ (.string s.st)).drew = W2 at *
  have c12:=HC2.out.flc
  have c16 : W2.cell? ⟨v.C,16,none⟩ = some (.int .i64 s.pc):=HC2.out.pc
  have cf:=HC2.out.fl.cell s.pc hk.pn
  have ff:=HC2.out.fl.free s.pc
  go_region
  have HC3:=hid (show CI v w1 (W2.setCell ⟨v.FL,s.pc,none⟩ (.int .i64 (-1))).drew _ from (HC2.out.putFl hA s.pc (-1)).later hA (below_drewN _ 1))
  have y0 : (W2.setCell ⟨v.FL,s.pc,none⟩ (.int .i64 (-1))).drew.cell? ⟨w.heap.size,0,none⟩ = _:=later_cell (below_drewN _ 1) (put_cell (i:=s.pc) (x:=.int .i64 (-1)) z0 hX.2.2)
  have y1 : (W2.setCell ⟨v.FL,s.pc,none⟩ (.int .i64 (-1))).drew.cell? ⟨w.heap.size,1,none⟩ = _:=later_cell (below_drewN _ 1) (put_cell (i:=s.pc) (x:=.int .i64 (-1)) z1 hX.2.2)
  have y2 : (W2.setCell ⟨v.FL,s.pc,none⟩ (.int .i64 (-1))).drew.cell? ⟨w.heap.size,2,none⟩ = _:=later_cell (below_drewN _ 1) (put_cell (i:=s.pc) (x:=.int .i64 (-1)) z2 hX.2.2)
  clear c12 c16 cf ff z0 z1 z2 HC2
  go_wp2_with fail
  generalize (W2.setCell ⟨v.FL,s.pc,none⟩ (.int .i64 (-1))).drew = W3 at *
  have c13 : W3.cell? ⟨v.C,13,none⟩ = some (.int .i64 s.hi):=HC3.out.hi
  have c15 : W3.cell? ⟨v.C,15,none⟩ = some (.string s.st):=HC3.out.st
  have f13:=HC3.out.free 13
  go_region
  have hmax : ((max s.hi s.st.size : Nat) : Int) = max (s.hi : Int) (s.st.size : Int):=by omega
  have HC4:=hid (show CI v w1 (W3.setCell ⟨v.C,13,none⟩ (.int .i64 (max (s.hi : Int) (s.st.size : Int)))).drew (visS s) by
   rw [← hmax]; exact (HC3.out.putHi hA (max s.hi s.st.size)).later hA (below_drewN _ 1))
  have z0 : (W3.setCell ⟨v.C,13,none⟩ (.int .i64 (max (s.hi : Int) (s.st.size : Int)))).drew.cell? ⟨w.heap.size,0,none⟩ = _:=later_cell (below_drewN _ 1) (put_cell (i:=13) (x:=.int .i64 (max (s.hi : Int) (s.st.size : Int))) y0 hX.1)
  have z1 : (W3.setCell ⟨v.C,13,none⟩ (.int .i64 (max (s.hi : Int) (s.st.size : Int)))).drew.cell? ⟨w.heap.size,1,none⟩ = _:=later_cell (below_drewN _ 1) (put_cell (i:=13) (x:=.int .i64 (max (s.hi : Int) (s.st.size : Int))) y1 hX.1)
  have z2 : (W3.setCell ⟨v.C,13,none⟩ (.int .i64 (max (s.hi : Int) (s.st.size : Int)))).drew.cell? ⟨w.heap.size,2,none⟩ = _:=later_cell (below_drewN _ 1) (put_cell (i:=13) (x:=.int .i64 (max (s.hi : Int) (s.st.size : Int))) y2 hX.1)
  clear c13 c15 f13 y0 y1 y2 HC3 hmax
  go_wp2_with fail
  generalize (W3.setCell ⟨v.C,13,none⟩ (.int .i64 (max (s.hi : Int) (s.st.size : Int)))).drew = W4 at *
  refine (HR.out _ HC4.out).mono ?_
  rintro e w9 (⟨e0,rfl,hc⟩ | ⟨e0,rfl,hb⟩)
  ·have HC9:=hid hc
   clear hc
   go_wp2_with fail
   go_end0
   exact .inl ⟨e0,rfl,HC9.out⟩
  ·exact ⟨rfl,.inr ⟨e0,rfl,hb⟩⟩
 ·have hdt : s.dead = true:=by simpa using hdd
  rcases hd with hd | rfl | rfl
  ·exact absurd hd hdd
  ·have c17:=HC.out.dead
   rw [hdt] at c17
   go_enter Tryz.func63,Tryz.ntmps63
   go_wp2_with fail
   generalize w.alloc (.cells #[.int .u8 5,.int .i64 a,.slice la ln lc] 82) = W0 at *
   refine (must_yes _ _).mono ?_
   rintro e w2 ⟨rfl,hw2⟩
   obtain rfl:=hw2.symm
   have f17:=HC.out.free 17
   go_wp2_with fail
   have HC1:=hid (HC.out.putDead hA false)
   have y0:=put_cell (i:=17) (x:=.bool false) x0 hX.1
   have y1:=put_cell (i:=17) (x:=.bool false) x1 hX.1
   have y2:=put_cell (i:=17) (x:=.bool false) x2 hX.1
   clear c17 f17 x0 x1 x2 HC
   generalize W0.setCell ⟨v.C,17,none⟩ (.bool false) = W1 at *
   have c9:=HC1.out.shc
   have c16 : W1.cell? ⟨v.C,16,none⟩ = some (.int .i64 s.pc):=HC1.out.pc
   have c15 : W1.cell? ⟨v.C,15,none⟩ = some (.string s.st):=HC1.out.st
   have p0 : (0 : Int) ≤ (s.pc : Int):=by omega
   have p1 : (s.pc : Int) < (v.n : Int):=by have:=hk.pn; omega
   obtain ⟨u,hu⟩ : ∃ u,W1.cell? ⟨v.SH,s.pc,none⟩ = some u:=by
    rw [HC1.out.sh.cell s.pc hk.pn]
    exact ⟨_,List.getElem?_eq_getElem (by simp [hsl]; exact hk.pn)⟩
   have fs:=HC1.out.sh.free s.pc
   go_region
   have HC2:=hid (show CI v w1 (W1.setCell ⟨v.SH,s.pc,none⟩ (.string s.st)).drew _ from (HC1.out.putSh hA s.pc s.st).later hA (below_drewN _ 1))
   have z0 : (W1.setCell ⟨v.SH,s.pc,none⟩ (.string s.st)).drew.cell? ⟨w.heap.size,0,none⟩ = _:=later_cell (below_drewN _ 1) (put_cell (i:=s.pc) (x:=.string s.st) y0 hX.2.1)
   have z1 : (W1.setCell ⟨v.SH,s.pc,none⟩ (.string s.st)).drew.cell? ⟨w.heap.size,1,none⟩ = _:=later_cell (below_drewN _ 1) (put_cell (i:=s.pc) (x:=.string s.st) y1 hX.2.1)
   have z2 : (W1.setCell ⟨v.SH,s.pc,none⟩ (.string s.st)).drew.cell? ⟨w.heap.size,2,none⟩ = _:=later_cell (below_drewN _ 1) (put_cell (i:=s.pc) (x:=.string s.st) y2 hX.2.1)
   clear c9 c16 c15 hu fs y0 y1 y2 HC1
   go_wp2_with fail
   generalize (W1.setCell ⟨v.SH,s.pc,none⟩ (.string s.st)).drew = W2 at *
   have c12:=HC2.out.flc
   have c16 : W2.cell? ⟨v.C,16,none⟩ = some (.int .i64 s.pc):=HC2.out.pc
   have cf:=HC2.out.fl.cell s.pc hk.pn
   have ff:=HC2.out.fl.free s.pc
   go_region
   have HC3:=hid (show CI v w1 (W2.setCell ⟨v.FL,s.pc,none⟩ (.int .i64 (-1))).drew _ from (HC2.out.putFl hA s.pc (-1)).later hA (below_drewN _ 1))
   have y0 : (W2.setCell ⟨v.FL,s.pc,none⟩ (.int .i64 (-1))).drew.cell? ⟨w.heap.size,0,none⟩ = _:=later_cell (below_drewN _ 1) (put_cell (i:=s.pc) (x:=.int .i64 (-1)) z0 hX.2.2)
   have y1 : (W2.setCell ⟨v.FL,s.pc,none⟩ (.int .i64 (-1))).drew.cell? ⟨w.heap.size,1,none⟩ = _:=later_cell (below_drewN _ 1) (put_cell (i:=s.pc) (x:=.int .i64 (-1)) z1 hX.2.2)
   have y2 : (W2.setCell ⟨v.FL,s.pc,none⟩ (.int .i64 (-1))).drew.cell? ⟨w.heap.size,2,none⟩ = _:=later_cell (below_drewN _ 1) (put_cell (i:=s.pc) (x:=.int .i64 (-1)) z2 hX.2.2)
   clear c12 c16 cf ff z0 z1 z2 HC2
   go_wp2_with fail
   generalize (W2.setCell ⟨v.FL,s.pc,none⟩ (.int .i64 (-1))).drew = W3 at *
   have c13 : W3.cell? ⟨v.C,13,none⟩ = some (.int .i64 s.hi):=HC3.out.hi
   have c15 : W3.cell? ⟨v.C,15,none⟩ = some (.string s.st):=HC3.out.st
   have f13:=HC3.out.free 13
   go_region
   have hmax : ((max s.hi s.st.size : Nat) : Int) = max (s.hi : Int) (s.st.size : Int):=by omega
   have HC4:=hid (show CI v w1 (W3.setCell ⟨v.C,13,none⟩ (.int .i64 (max (s.hi : Int) (s.st.size : Int)))).drew (visS s) by
    rw [← hmax]; exact (HC3.out.putHi hA (max s.hi s.st.size)).later hA (below_drewN _ 1))
   have z0 : (W3.setCell ⟨v.C,13,none⟩ (.int .i64 (max (s.hi : Int) (s.st.size : Int)))).drew.cell? ⟨w.heap.size,0,none⟩ = _:=later_cell (below_drewN _ 1) (put_cell (i:=13) (x:=.int .i64 (max (s.hi : Int) (s.st.size : Int))) y0 hX.1)
   have z1 : (W3.setCell ⟨v.C,13,none⟩ (.int .i64 (max (s.hi : Int) (s.st.size : Int)))).drew.cell? ⟨w.heap.size,1,none⟩ = _:=later_cell (below_drewN _ 1) (put_cell (i:=13) (x:=.int .i64 (max (s.hi : Int) (s.st.size : Int))) y1 hX.1)
   have z2 : (W3.setCell ⟨v.C,13,none⟩ (.int .i64 (max (s.hi : Int) (s.st.size : Int)))).drew.cell? ⟨w.heap.size,2,none⟩ = _:=later_cell (below_drewN _ 1) (put_cell (i:=13) (x:=.int .i64 (max (s.hi : Int) (s.st.size : Int))) y2 hX.1)
   clear c13 c15 f13 y0 y1 y2 HC3 hmax
   go_wp2_with fail
   generalize (W3.setCell ⟨v.C,13,none⟩ (.int .i64 (max (s.hi : Int) (s.st.size : Int)))).drew = W4 at *
   refine (HR.out _ HC4.out).mono ?_
   rintro e w9 (⟨e0,rfl,hc⟩ | ⟨e0,rfl,hb⟩)
   ·have HC9:=hid hc
    clear hc
    go_wp2_with fail
    go_end0
    exact .inl ⟨e0,rfl,HC9.out⟩
   ·exact ⟨rfl,.inr ⟨e0,rfl,hb⟩⟩
  ·have c17:=HC.out.dead
   rw [hdt] at c17
   go_enter Tryz.func63,Tryz.ntmps63
   go_wp2_with fail
   generalize w.alloc (.cells #[.int .u8 6,.int .i64 a,.slice la ln lc] 82) = W0 at *
   refine (must_yes _ _).mono ?_
   rintro e w2 ⟨rfl,hw2⟩
   obtain rfl:=hw2.symm
   have f17:=HC.out.free 17
   go_wp2_with fail
   have HC1:=hid (HC.out.putDead hA false)
   have y0:=put_cell (i:=17) (x:=.bool false) x0 hX.1
   have y1:=put_cell (i:=17) (x:=.bool false) x1 hX.1
   have y2:=put_cell (i:=17) (x:=.bool false) x2 hX.1
   clear c17 f17 x0 x1 x2 HC
   generalize W0.setCell ⟨v.C,17,none⟩ (.bool false) = W1 at *
   have c9:=HC1.out.shc
   have c16 : W1.cell? ⟨v.C,16,none⟩ = some (.int .i64 s.pc):=HC1.out.pc
   have c15 : W1.cell? ⟨v.C,15,none⟩ = some (.string s.st):=HC1.out.st
   have p0 : (0 : Int) ≤ (s.pc : Int):=by omega
   have p1 : (s.pc : Int) < (v.n : Int):=by have:=hk.pn; omega
   obtain ⟨u,hu⟩ : ∃ u,W1.cell? ⟨v.SH,s.pc,none⟩ = some u:=by
    rw [HC1.out.sh.cell s.pc hk.pn]
    exact ⟨_,List.getElem?_eq_getElem (by simp [hsl]; exact hk.pn)⟩
   have fs:=HC1.out.sh.free s.pc
   go_region
   have HC2:=hid (show CI v w1 (W1.setCell ⟨v.SH,s.pc,none⟩ (.string s.st)).drew _ from (HC1.out.putSh hA s.pc s.st).later hA (below_drewN _ 1))
   have z0 : (W1.setCell ⟨v.SH,s.pc,none⟩ (.string s.st)).drew.cell? ⟨w.heap.size,0,none⟩ = _:=later_cell (below_drewN _ 1) (put_cell (i:=s.pc) (x:=.string s.st) y0 hX.2.1)
   have z1 : (W1.setCell ⟨v.SH,s.pc,none⟩ (.string s.st)).drew.cell? ⟨w.heap.size,1,none⟩ = _:=later_cell (below_drewN _ 1) (put_cell (i:=s.pc) (x:=.string s.st) y1 hX.2.1)
   have z2 : (W1.setCell ⟨v.SH,s.pc,none⟩ (.string s.st)).drew.cell? ⟨w.heap.size,2,none⟩ = _:=later_cell (below_drewN _ 1) (put_cell (i:=s.pc) (x:=.string s.st) y2 hX.2.1)
   clear c9 c16 c15 hu fs y0 y1 y2 HC1
   go_wp2_with fail
   generalize (W1.setCell ⟨v.SH,s.pc,none⟩ (.string s.st)).drew = W2 at *
   have c12:=HC2.out.flc
   have c16 : W2.cell? ⟨v.C,16,none⟩ = some (.int .i64 s.pc):=HC2.out.pc
   have cf:=HC2.out.fl.cell s.pc hk.pn
   have ff:=HC2.out.fl.free s.pc
   go_region
   have HC3:=hid (show CI v w1 (W2.setCell ⟨v.FL,s.pc,none⟩ (.int .i64 (-1))).drew _ from (HC2.out.putFl hA s.pc (-1)).later hA (below_drewN _ 1))
   have y0 : (W2.setCell ⟨v.FL,s.pc,none⟩ (.int .i64 (-1))).drew.cell? ⟨w.heap.size,0,none⟩ = _:=later_cell (below_drewN _ 1) (put_cell (i:=s.pc) (x:=.int .i64 (-1)) z0 hX.2.2)
   have y1 : (W2.setCell ⟨v.FL,s.pc,none⟩ (.int .i64 (-1))).drew.cell? ⟨w.heap.size,1,none⟩ = _:=later_cell (below_drewN _ 1) (put_cell (i:=s.pc) (x:=.int .i64 (-1)) z1 hX.2.2)
   have y2 : (W2.setCell ⟨v.FL,s.pc,none⟩ (.int .i64 (-1))).drew.cell? ⟨w.heap.size,2,none⟩ = _:=later_cell (below_drewN _ 1) (put_cell (i:=s.pc) (x:=.int .i64 (-1)) z2 hX.2.2)
   clear c12 c16 cf ff z0 z1 z2 HC2
   go_wp2_with fail
   generalize (W2.setCell ⟨v.FL,s.pc,none⟩ (.int .i64 (-1))).drew = W3 at *
   have c13 : W3.cell? ⟨v.C,13,none⟩ = some (.int .i64 s.hi):=HC3.out.hi
   have c15 : W3.cell? ⟨v.C,15,none⟩ = some (.string s.st):=HC3.out.st
   have f13:=HC3.out.free 13
   go_region
   have hmax : ((max s.hi s.st.size : Nat) : Int) = max (s.hi : Int) (s.st.size : Int):=by omega
   have HC4:=hid (show CI v w1 (W3.setCell ⟨v.C,13,none⟩ (.int .i64 (max (s.hi : Int) (s.st.size : Int)))).drew (visS s) by
    rw [← hmax]; exact (HC3.out.putHi hA (max s.hi s.st.size)).later hA (below_drewN _ 1))
   have z0 : (W3.setCell ⟨v.C,13,none⟩ (.int .i64 (max (s.hi : Int) (s.st.size : Int)))).drew.cell? ⟨w.heap.size,0,none⟩ = _:=later_cell (below_drewN _ 1) (put_cell (i:=13) (x:=.int .i64 (max (s.hi : Int) (s.st.size : Int))) y0 hX.1)
   have z1 : (W3.setCell ⟨v.C,13,none⟩ (.int .i64 (max (s.hi : Int) (s.st.size : Int)))).drew.cell? ⟨w.heap.size,1,none⟩ = _:=later_cell (below_drewN _ 1) (put_cell (i:=13) (x:=.int .i64 (max (s.hi : Int) (s.st.size : Int))) y1 hX.1)
   have z2 : (W3.setCell ⟨v.C,13,none⟩ (.int .i64 (max (s.hi : Int) (s.st.size : Int)))).drew.cell? ⟨w.heap.size,2,none⟩ = _:=later_cell (below_drewN _ 1) (put_cell (i:=13) (x:=.int .i64 (max (s.hi : Int) (s.st.size : Int))) y2 hX.1)
   clear c13 c15 f13 y0 y1 y2 HC3 hmax
   go_wp2_with fail
   generalize (W3.setCell ⟨v.C,13,none⟩ (.int .i64 (max (s.hi : Int) (s.st.size : Int)))).drew = W4 at *
   refine (HR.out _ HC4.out).mono ?_
   rintro e w9 (⟨e0,rfl,hc⟩ | ⟨e0,rfl,hb⟩)
   ·have HC9:=hid hc
    clear hc
    go_wp2_with fail
    go_end0
    exact .inl ⟨e0,rfl,HC9.out⟩
   ·exact ⟨rfl,.inr ⟨e0,rfl,hb⟩⟩
end
theorem caught83_nil (w : World) : Calls Tryz.prog 81 #[.nilIface] w fun e w' => e = .returned (.tuple #[.agg #[.int .i64 0,.int .i64 0],.bool false]) ∧ Below w.heap.size w w':=by
 have BN:=hid (below_new w (.cells #[.int .i64 0,.int .i64 0] 139))
 go_enter Tryz.func81,Tryz.ntmps81
 go_wp2_with fail
 refine bodyPost_ret (v:=.tuple #[.agg #[.int .i64 0,.int .i64 0],.bool false]) ?_ rfl ⟨rfl,BN.out⟩
 rw [results_cell_tmp rfl]
 go_simp
theorem caught83 (x p : Int) (w : World) : Calls Tryz.prog 81 #[.iface 139 (.agg #[.int .i64 x,.int .i64 p])] w fun e w' => e = .returned (.tuple #[.agg #[.int .i64 x,.int .i64 p],.bool true]) ∧ Below w.heap.size w w':=by
 have hta : ∀ (v : Value) (w : World),(Instr.typeAssert (.iface 139 v) 20 139 true).run Tryz.prog w = .ok (.tuple #[v,.bool true]) w:=fun _ _ => rfl
 go_enter Tryz.func81,Tryz.ntmps81
 go_wp2_with fail
 refine bodyPost_ret (v:=.tuple #[.agg #[.int .i64 x,.int .i64 p],.bool true]) ?_ rfl ⟨rfl,?_⟩
 ·rw [results_cell_tmp rfl]
  go_simp
 ·exact ((Below.refl _ w).alloc (Nat.le_refl _) _).alloc (by simp) _
theorem catch87 (x q : Int) (B C : Nat) (bv cv : Value) (w : World) (hb : w.cell? ⟨B,0,none⟩ = some bv) (hbf : w.frozen? ⟨B,0,none⟩ = false) (hc : w.cell? ⟨C,0,none⟩ = some cv) (hcf : w.frozen? ⟨C,0,none⟩ = false) (hBC : B ≠ C) :
  CallsD Tryz.prog 80 #[.pointer (some ⟨B,0,none⟩),.pointer (some ⟨C,0,none⟩)] (.panicking ({ v:=.iface 139 (.agg #[.int .i64 x,.int .i64 q]),recovered:=false } :: [])) w fun e u' w' =>
   e = .returned (.tuple #[]) ∧ u' = .panicking ({ v:=.iface 139 (.agg #[.int .i64 x,.int .i64 q]),recovered:=true } :: []) ∧ w'.cell? ⟨B,0,none⟩ = some (.slice none 0 0) ∧ w'.cell? ⟨C,0,none⟩ = some (.int .i64 x) ∧ Kept (fun k => k = B ∨ k = C) w w':=by
 have HC:=hid (caught83 x q w)
 have hBl : B < w.heap.size:=block_lt_of_cell hb
 have hCl : C < w.heap.size:=block_lt_of_cell hc
 refine callsD_of_wpS Tryz.func80 rfl fun c₀ cs hu => ?_
 apply wpS_seq
 apply wpS_region
 simp [wpOpsS,go_sem,recoverD,hu,Tryz.ntmps80,Exit.thenS]
 refine HC.out.mono ?_
 rintro e w1 ⟨rfl,hb1⟩
 have BN:=below_new w1 (.cells #[.int .i64 x,.int .i64 q] 139)
 have n0 : (w1.alloc (.cells #[.int .i64 x,.int .i64 q] 139)).cell? ⟨w1.heap.size,0,none⟩ = some (.int .i64 x):=by simp [go_sem]
 have y0:=(BN.cell (p:=⟨B,0,none⟩) (Nat.lt_of_lt_of_le hBl hb1.size)).trans ((hb1.cell (by exact hBl)).trans hb)
 have y1:=(BN.frozen (p:=⟨B,0,none⟩) (Nat.lt_of_lt_of_le hBl hb1.size)).trans ((hb1.frozen (by exact hBl)).trans hbf)
 have y2:=(BN.cell (p:=⟨C,0,none⟩) (Nat.lt_of_lt_of_le hCl hb1.size)).trans ((hb1.cell (by exact hCl)).trans hc)
 have y3:=(BN.frozen (p:=⟨C,0,none⟩) (Nat.lt_of_lt_of_le hCl hb1.size)).trans ((hb1.frozen (by exact hCl)).trans hcf)
 have K2:=hid ((kept_of (S:=fun k => k = B ∨ k = C) hb1).trans (kept_of BN))
 have hz1:=hb1.size
 have hB1 : B ≠ w1.heap.size:=by omega
 have hC1 : C ≠ w1.heap.size:=by omega
 simp [go_sem,Array.replicate]
 refine wpS_of_wp ?_
 clear HC hb hbf hc hcf BN
 go_wp2_with fail
 generalize w1.alloc (.cells #[.int .i64 x,.int .i64 q] 139) = W at *
 go_region_held3 (fun W => W.cell? ⟨w1.heap.size,0,none⟩ = some (.int .i64 x)) (first | assumption | (simp [go_sem]; assumption)) (first | fail)
 have z0:=World.cell?_setCell_same W ⟨B,0,none⟩ (.slice none 0 0) y0
 have z1 : (W.setCell ⟨B,0,none⟩ (.slice none 0 0)).cell? ⟨C,0,none⟩ = some cv:=by rw [World.cell?_setCell_other _ _ _ _ (by simp <;> omega)]; exact y2
 have z2:=World.cell?_setCell_same (W.setCell ⟨B,0,none⟩ (.slice none 0 0)) ⟨C,0,none⟩ (.int .i64 x) z1
 have z3 : ((W.setCell ⟨B,0,none⟩ (.slice none 0 0)).setCell ⟨C,0,none⟩ (.int .i64 x)).cell? ⟨B,0,none⟩ = some (.slice none 0 0):=by rw [World.cell?_setCell_other _ _ _ _ (by simp <;> omega)]; exact z0
 have hk:=(K2.out.then (kept_set W B 0 (.slice none 0 0)) (fun k _ h => .inl h)).then (kept_set _ C 0 (.int .i64 x)) (fun k _ h => .inr h)
 have hk2:=hk.trans (Kept.drewN _ _ 1)
 have HZ3:=hid z3
 have HZ2:=hid z2
 have HK2:=hid hk2
 clear z0 z1 z2 z3 hk hk2 K2 y0 y1 y2 y3 n0 hb1
 exact ⟨rfl,_,rfl,_,results_none rfl _ _ _,rfl,rfl,HZ3.out,HZ2.out,HK2.out⟩
theorem idle87 (B C : Nat) (w : World) :
  CallsD Tryz.prog 80 #[.pointer (some ⟨B,0,none⟩),.pointer (some ⟨C,0,none⟩)] .returning w fun e u' w' => e = .returned (.tuple #[]) ∧ u' = .returning ∧ Below w.heap.size w w':=by
 have HC:=hid (caught83_nil w)
 refine callsD_of_wpS Tryz.func80 rfl fun c₀ cs hu => ?_
 apply wpS_seq
 apply wpS_region
 simp [wpOpsS,go_sem,recoverD,hu,Tryz.ntmps80,Exit.thenS]
 refine HC.out.mono ?_
 rintro e w1 ⟨rfl,hb1⟩
 have BN:=hid (below_then hb1 (below_new w1 (.cells #[.int .i64 0,.int .i64 0] 139)))
 simp [go_sem,Array.replicate]
 refine wpS_of_wp ?_
 go_wp2_with fail
 cases c₀
 simp_all [bodyPostS,results,Tryz.results80]
 exact BN.out
end Go.Proofs.YtepcmfegggdjfaaGreatDoor
