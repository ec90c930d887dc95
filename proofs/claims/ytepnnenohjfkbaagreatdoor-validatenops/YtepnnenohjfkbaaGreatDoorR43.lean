/-
  Texts Yd Ye Yf Yh Yj.
-/
import Derived.Test.YtepnnenohjfkbaaGreatDoorR35
import Derived.Test.YtepnnenohjfkbaaGreatDoorR42
set_option linter.unusedVariables false
set_option maxRecDepth 100000
set_option maxHeartbeats 16000000
namespace Go.Proofs.YtepnnenohjfkbaaGreatDoor
open Go.RowKit
def Ltr (s : ByteArray) : Prop:=∀ c ∈ s.data.toList,c = 119 ∨ c = 108
theorem Ltr.nil : Ltr ⟨#[]⟩:=fun c h => by simp at h
theorem Ltr.app {a b : ByteArray} (ha : Ltr a) (hb : Ltr b) : Ltr (a ++ b):=fun c h => by
 rw [ByteArray.data_append,Array.toList_append,List.mem_append] at h
 exact h.elim (ha c) (hb c)
theorem Ltr.ext {a : ByteArray} (h : Ltr a) (i j : Nat) : Ltr (a.extract i j):=fun c hc => by
 rw [ByteArray.data_extract,Array.toList_extract] at hc
 exact h c (List.mem_of_mem_drop (List.mem_of_mem_take (by simpa [List.extract_eq_take_drop] using hc)))
theorem Ltr.lett {a : ByteArray} (h : Ltr a) {n : Nat} (hs : a.size ≤ n) : lett a n = true:=(lett_mem a n).2 ⟨h,hs⟩
theorem Ltr.of {a : ByteArray} {n : Nat} (h : Go.Proofs.YtepnnenohjfkbaaGreatDoor.lett a n = true) : Ltr a:=((lett_mem a n).1 h).1
structure LvO (o : Opn) : Prop where
 P : Ltr o.P
 R : Ltr o.R
 B : Ltr o.B
 sz : o.B.size + o.P.size ≤ 256
structure Lv (s : Cs) : Prop where
 st : Ltr s.st
 sz : s.st.size ≤ 256
 op : ∀ k,LvO (s.op.getD k dO)
theorem lvO_dO : LvO dO:=⟨.nil,.nil,.nil,by decide⟩
theorem pushV_ok {s t : ByteArray} : Ltr (pushV s t) ∧ (pushV s t).size ≤ 256:=by
 unfold pushV
 split
 ·rename_i h
  unfold pushE at h
  split at h
  ·rename_i hs
   unfold shp at hs
   rw [Bool.and_eq_true] at hs
   split at h
   ·cases h
   ·exact ⟨(Ltr.of hs.1).app (Ltr.of hs.2),by rw [ByteArray.size_append]; omega⟩
  ·cases h
 ·exact ⟨.nil,by decide⟩
theorem ext_le (a : ByteArray) (n : Nat) : (a.extract 0 n).size ≤ a.size:=by rw [ByteArray.size_extract]; omega
theorem lv_cs0 {R : ByteArray} (hR : Ltr R) (n : Nat) : Lv (cs0 R n):=by
 refine ⟨.nil,by show (0 : Nat) ≤ 256; omega,fun k => ?_⟩
 cases k with
 | zero => exact ⟨.nil,hR,.nil,by show (0 : Nat) + 0 ≤ 256; omega⟩
 | succ k => exact lvO_dO
theorem Lv.rw {s : Cs} (h : Lv s) {m : MM} (hT : ∀ a,Ltr (tyAt m a).1 ∧ Ltr (tyAt m a).2 ∧ (tyAt m a).1.size ≤ 8) (lo : List Int) {o : Opn} (ho : LvO o) (c a : Int) : Lv (rwS m lo s o c a):=by
 have ent : ∀ tk : ByteArray,Lv (entS s c tk (tyAt m a).1 (tyAt m a).2):=fun tk => by
  have e1:=ext_le s.st (s.st.size - tk.size)
  have e2:=ext_le (s.st.extract 0 (s.st.size - tk.size)) ((s.st.extract 0 (s.st.size - tk.size)).size - (tyAt m a).1.size)
  have hsz:=h.sz
  refine ⟨h.st.ext _ _,by show (s.st.extract 0 (s.st.size - tk.size)).size ≤ 256; omega,fun k => ?_⟩
  show LvO ((s.op ++ [(⟨(tyAt m a).1,(tyAt m a).2,entB s tk (tyAt m a).1,c,s.pc⟩ : Opn)]).getD k dO)
  by_cases hk : k < s.op.length
  ·rw [gd_app hk]; exact h.op k
  ·rw [gd_app' (by omega)]
   generalize k - s.op.length = q
   cases q with
   | zero =>
    refine ⟨(hT a).1,(hT a).2.1,(h.st.ext _ _).ext _ _,?_⟩
    show ((s.st.extract 0 (s.st.size - tk.size)).extract 0 ((s.st.extract 0 (s.st.size - tk.size)).size - (tyAt m a).1.size)).size + (tyAt m a).1.size ≤ 256
    have h8:=(hT a).2.2
    rw [ByteArray.size_extract]
    omega
   | succ q => exact lvO_dO
 unfold rwS
 split
 ·exact ent _
 ·split
  ·exact ent _
  ·split
   ·exact ⟨ho.B.app ho.P,by show (o.B ++ o.P).size ≤ 256; rw [ByteArray.size_append]; exact ho.sz,h.op⟩
   ·split
    ·refine ⟨h.st,h.sz,fun k => ?_⟩
     show LvO (s.op.dropLast.getD k dO)
     by_cases hk : k < s.op.length - 1
     ·rw [gd_drop hk]; exact h.op k
     ·rw [gd_drop' hk]; exact lvO_dO
    ·split
     ·exact ⟨pushV_ok.1,pushV_ok.2,h.op⟩
     ·split
      ·exact ⟨h.st.ext _ _,Nat.le_trans (ext_le _ _) h.sz,h.op⟩
      ·generalize efV m lo s o c a = E
       have key : ∀ u : ByteArray,Ltr u ∧ u.size ≤ 256 → Lv { takeS s E.1 with st:=u }:=fun u hu => ⟨hu.1,hu.2,h.op⟩
       unfold putS
       exact key _ pushV_ok
theorem Lv.vis {s : Cs} (h : Lv s) (j : Nat) : Lv (visS (atPc s j)):=⟨h.st,h.sz,h.op⟩
theorem Lv.top {s : Cs} (h : Lv s) : LvO (topO s):=h.op _
theorem lv_stA {m : MM} (hT : ∀ a,Ltr (tyAt m a).1 ∧ Ltr (tyAt m a).2 ∧ (tyAt m a).1.size ≤ 8) (lo : List Int) (xs : List Inx) {R : ByteArray} (hR : Ltr R) (n : Nat) : ∀ j,Lv (stA m lo xs R n j)
 | 0 => lv_cs0 hR n
 | j + 1 => ((lv_stA hT lo xs hR n j).vis j).rw hT lo (lv_stA hT lo xs hR n j).top _ _
theorem ofV_nop : (ofV 1).1.2.2.2.1 = ⟨#[]⟩ ∧ (ofV 1).1.2.2.2.2.1 = ⟨#[]⟩:=⟨by kernel_rfl,by kernel_rfl⟩
theorem efV_nop (m : MM) (lo : List Int) (s : Cs) (o : Opn) (a : Int) : efV m lo s o 1 a = (⟨#[]⟩,⟨#[]⟩) ∧ efE m lo s o 1 a = 0:=by
 constructor
 ·have e : efV m lo s o 1 a = ((ofV 1).1.2.2.2.1,(ofV 1).1.2.2.2.2.1):=rfl
  rw [e,ofV_nop.1,ofV_nop.2]
 ·rfl
theorem ext_all (a : ByteArray) : a.extract 0 (a.size - (ByteArray.mk #[]).size) = a:=by
 apply ba_ext
 rw [ByteArray.data_extract,Array.toList_extract]
 have : (ByteArray.mk #[]).size = 0:=rfl
 rw [this,Nat.sub_zero,ba_size,List.extract_eq_take_drop,List.drop_zero,Nat.sub_zero,List.take_length]
theorem app_nilB (a : ByteArray) : a ++ (ByteArray.mk #[]) = a:=by
 apply ba_ext
 rw [ba_app]
 simp
theorem nop_ok {s : Cs} (h : Lv s) {o : Opn} (m : MM) (lo : List Int) (el a : Int) (l : List Int) (hd : s.dead = false) : visE m lo el s o 1 a l = 0 ∧ (rwS m lo (visS s) o 1 a).st = s.st ∧ (rwS m lo (visS s) o 1 a).op = s.op ∧ (rwS m lo (visS s) o 1 a).dead = false ∧ (rwS m lo (visS s) o 1 a).hi = max s.hi s.st.size ∧ (rwS m lo (visS s) o 1 a).sh = s.sh.set s.pc s.st:=by
 have hE:=efV_nop m lo (visS s) o a
 have ht : (takeS (visS s) ⟨#[]⟩).st = s.st:=ext_all s.st
 have hp : pushE s.st ⟨#[]⟩ = 0:=by
  unfold pushE shp
  rw [h.st.lett h.sz,Ltr.nil.lett (by decide : (ByteArray.mk #[]).size ≤ 256)]
  have h0 : (ByteArray.mk #[]).size = 0:=rfl
  have:=h.sz
  rw [h0,if_pos (by rfl),if_neg (by omega)]
 have ha : askE (visS s) o ⟨#[]⟩ = 0:=by
  unfold askE topB shp
  have e1 : (visS s).st = s.st:=rfl
  rw [e1]
  have hs : (s.st.extract o.B.size s.st.size).size ≤ 256:=by rw [ByteArray.size_extract]; have:=h.sz; omega
  rw [(h.st.ext _ _).lett hs,Ltr.nil.lett (by decide : (ByteArray.mk #[]).size ≤ 256)]
  have he : ends (s.st.extract o.B.size s.st.size) ⟨#[]⟩ = true:=by
   unfold ends
   have h0 : (ByteArray.mk #[]).size = 0:=rfl
   rw [h0,Nat.sub_zero]
   simp [ba_toList]
  rw [he]; rfl
 have hv : pushV s.st ⟨#[]⟩ = s.st:=by unfold pushV; rw [if_pos hp,app_nilB]
 have hrw : rwS m lo (visS s) o 1 a = putS (takeS (visS s) ⟨#[]⟩) ⟨#[]⟩:=by
  have e : rwS m lo (visS s) o 1 a = putS (takeS (visS s) (efV m lo (visS s) o 1 a).1) (efV m lo (visS s) o 1 a).2:=rfl
  rw [e,hE.1]
 have key : ∀ u : ByteArray,({ takeS (visS s) ⟨#[]⟩ with st:=u } : Cs).op = s.op ∧ ({ takeS (visS s) ⟨#[]⟩ with st:=u } : Cs).dead = false ∧ ({ takeS (visS s) ⟨#[]⟩ with st:=u } : Cs).hi = max s.hi s.st.size ∧ ({ takeS (visS s) ⟨#[]⟩ with st:=u } : Cs).sh = s.sh.set s.pc s.st:=fun u => ⟨rfl,rfl,rfl,rfl⟩
 refine ⟨?_,?_,?_,?_,?_,?_⟩
 ·unfold visE
  rw [if_neg (fun q => by rw [hd] at q; cases q.1)]
  have e : rwE m lo el (visS s) o 1 a l = orE (efE m lo (visS s) o 1 a) (orE (askE (visS s) o (efV m lo (visS s) o 1 a).1) (pushE (takeS (visS s) (efV m lo (visS s) o 1 a).1).st (efV m lo (visS s) o 1 a).2)):=by
   unfold rwE
   rw [if_neg (by decide),if_neg (by decide),if_neg (by decide),if_neg (by decide),if_neg (by decide),if_neg (by decide),if_neg (by decide),if_neg (by decide),if_neg (by decide)]
  rw [e,hE.1,hE.2]
  show orE 0 (orE (askE (visS s) o ⟨#[]⟩) (pushE (takeS (visS s) ⟨#[]⟩).st ⟨#[]⟩)) = 0
  rw [ha,ht,hp]; rfl
 ·rw [hrw]
  show pushV (takeS (visS s) ⟨#[]⟩).st ⟨#[]⟩ = s.st
  rw [ht,hv]
 ·rw [hrw]; unfold putS; exact (key _).1
 ·rw [hrw]; unfold putS; exact (key _).2.1
 ·rw [hrw]; unfold putS; exact (key _).2.2.1
 ·rw [hrw]; unfold putS; exact (key _).2.2.2
def ddC (c : Int) (d : Bool) : Bool:=if c = 7 ∨ c = 9 ∨ c = 10 ∨ c = 0 then true else d
theorem rwS_keep (m : MM) (lo : List Int) (s : Cs) (o : Opn) (c a : Int) : (rwS m lo s o c a).sh = s.sh ∧ (rwS m lo s o c a).hi = s.hi ∧ (rwS m lo s o c a).dead = ddC c s.dead:=by
 unfold rwS ddC
 by_cases h1 : c = 2 ∨ c = 3
 ·rw [if_pos h1,if_neg (by omega)]; exact ⟨rfl,rfl,rfl⟩
 rw [if_neg h1]
 by_cases h2 : c = 4
 ·rw [if_pos h2,if_neg (by omega)]; exact ⟨rfl,rfl,rfl⟩
 rw [if_neg h2]
 by_cases h3 : c = 5
 ·rw [if_pos h3,if_neg (by omega)]; exact ⟨rfl,rfl,rfl⟩
 rw [if_neg h3]
 by_cases h4 : c = 6
 ·rw [if_pos h4,if_neg (by omega)]; exact ⟨rfl,rfl,rfl⟩
 rw [if_neg h4]
 by_cases h5 : c = 7 ∨ c = 9 ∨ c = 10 ∨ c = 0
 ·rw [if_pos h5,if_pos h5]; exact ⟨rfl,rfl,rfl⟩
 rw [if_neg h5,if_neg h5]
 by_cases h6 : c = 8
 ·rw [if_pos h6]; exact ⟨rfl,rfl,rfl⟩
 rw [if_neg h6]
 generalize efV m lo s o c a = E
 have key : ∀ u : ByteArray,({ takeS s E.1 with st:=u } : Cs).sh = s.sh ∧ ({ takeS s E.1 with st:=u } : Cs).hi = s.hi ∧ ({ takeS s E.1 with st:=u } : Cs).dead = s.dead:=fun u => ⟨rfl,rfl,rfl⟩
 unfold putS
 exact key _
structure RelA (p j : Nat) (s s' : Cs) : Prop where
 r : RelS p s s'
 dead : s'.dead = s.dead
 hi : max s'.hi s.st.size = max s.hi s.st.size
 sh : ∀ i,i < j → s'.sh[mv p i]? = s.sh[i]?
theorem RelS.vis {p : Nat} {s s' : Cs} (h : RelS p s s') (j q : Nat) : RelS p (visS (atPc s j)) (visS (atPc s' q)):=⟨h.st,h.len,h.o,h.pc⟩
theorem RelA.step {p j n : Nat} {s s' : Cs} (h : RelA p j s s') (hj : j < n) (hs : s.sh.length = n) (hs' : s'.sh.length = n + 1) (m : MM) (lo : List Int) (c a : Int) :
  RelA p (j + 1) (rwS m lo (visS (atPc s j)) (topO s) c a) (rwS m lo (visS (atPc s' (mv p j))) (topO s') c a):=by
 have k1:=rwS_keep m lo (visS (atPc s j)) (topO s) c a
 have k2:=rwS_keep m lo (visS (atPc s' (mv p j))) (topO s') c a
 have hlt : mv p j < n + 1:=by unfold mv; split <;> omega
 refine ⟨(h.r.vis j (mv p j)).rwS h.r.top m lo c a rfl,by rw [k1.2.2,k2.2.2]; rfl,?_,fun i hi => ?_⟩
 ·rw [k1.2.1,k2.2.1]
  show max (max s'.hi s'.st.size) _ = max (max s.hi s.st.size) _
  rw [h.r.st,h.hi]
 ·rw [k1.1,k2.1]
  show (s'.sh.set (mv p j) s'.st)[mv p i]? = (s.sh.set j s.st)[i]?
  by_cases e : i = j
  ·subst e
   rw [List.getElem?_set_self (by omega),List.getElem?_set_self (by omega),h.r.st]
  ·rw [List.getElem?_set_ne (fun q => e (mv_inj.1 q).symm),List.getElem?_set_ne (fun q => e q.symm)]
   exact h.sh i (by omega)
theorem RelA.nop {p n : Nat} {s s' : Cs} (h : RelA p p s s') (hp : p < n + 1) (hs' : s'.sh.length = n + 1) (hl : Lv s') (hd : s.dead = false) (m : MM) (lo : List Int) (a : Int) :
  RelA p p s (rwS m lo (visS (atPc s' p)) (topO s') 1 a) ∧ (rwS m lo (visS (atPc s' p)) (topO s') 1 a).sh[p]? = some s.st:=by
 have hd' : (atPc s' p).dead = false:=by show s'.dead = false; rw [h.dead,hd]
 have hl' : Lv (atPc s' p):=⟨hl.st,hl.sz,hl.op⟩
 obtain ⟨_,q2,q3,q4,q5,q6⟩:=nop_ok hl' (o:=topO s') m lo 0 a [] hd'
 have e1 : (atPc s' p).st = s'.st:=rfl
 have e2 : (atPc s' p).op = s'.op:=rfl
 rw [e1] at q2 q5 q6
 rw [e2] at q3
 refine ⟨⟨⟨by rw [q2]; exact h.r.st,by rw [q3]; exact h.r.len,by rw [q3]; exact h.r.o,by rw [q3]; exact h.r.pc⟩,by rw [q4,hd],?_,fun i hi => ?_⟩,?_⟩
 ·rw [q5,h.r.st]
  have e3 : (atPc s' p).hi = s'.hi:=rfl
  rw [e3]
  have:=h.hi
  omega
 ·rw [q6]
  show (s'.sh.set p s'.st)[mv p i]? = s.sh[i]?
  rw [List.getElem?_set_ne (by rw [mv_lo hi]; omega)]
  exact h.sh i hi
 ·rw [q6]
  show (s'.sh.set p s'.st)[p]? = some s.st
  rw [List.getElem?_set_self (by omega),h.r.st]
theorem sh_len (m : MM) (lo : List Int) (xs : List Inx) (R : ByteArray) (n : Nat) : ∀ j,(stA m lo xs R n j).sh.length = n
 | 0 => List.length_replicate
 | j + 1 => by
  show (rwS m lo (visS (atPc (stA m lo xs R n j) j)) _ _ _).sh.length = n
  rw [(rwS_keep m lo _ _ _ _).1]
  show ((stA m lo xs R n j).sh.set _ _).length = n
  rw [List.length_set]
  exact sh_len m lo xs R n j
structure InsX (p : Nat) (xs ys : List Inx) : Prop where
 c : ∀ j,(ys.getD (mv p j) dx).c = (xs.getD j dx).c
 a : ∀ j,(ys.getD (mv p j) dx).a = (xs.getD j dx).a
 l : ∀ j,(ys.getD (mv p j) dx).l = (xs.getD j dx).l
 nop : (ys.getD p dx).c = 1
theorem InsX.op {p : Nat} {xs ys : List Inx} (h : InsX p xs ys) : opF ys = insO (opF xs) p:=by
 funext i
 rcases mv_cases p i with rfl | ⟨j,rfl,_,_⟩
 ·rw [insO_at]; exact h.nop
 ·rw [insO_mv]; exact h.c j
section
variable {m : MM} {lo : List Int} {xs ys : List Inx} {R : ByteArray} {n p : Nat}
theorem rel_states (hX : InsX p xs ys) (hT : ∀ a,Ltr (tyAt m a).1 ∧ Ltr (tyAt m a).2 ∧ (tyAt m a).1.size ≤ 8) (hR : Ltr R) (hp : p < n) (hd : (stA m lo xs R n p).dead = false) :
  ∀ j,j ≤ n → RelA p j (stA m lo xs R n j) (stA m lo ys R (n + 1) (mv p j)) ∧ (j = p → (stA m lo ys R (n + 1) (mv p j)).sh[p]? = some (stA m lo xs R n j).st) ∧ (p < j → (stA m lo ys R (n + 1) (mv p j)).sh[p]? = (stA m lo xs R n j).sh[p]?):=by
 have nop : RelA p p (stA m lo xs R n p) (stA m lo ys R (n + 1) p) → RelA p p (stA m lo xs R n p) (stA m lo ys R (n + 1) (mv p p)) ∧ (stA m lo ys R (n + 1) (mv p p)).sh[p]? = some (stA m lo xs R n p).st:=fun h => by
  rw [mv_hi (Nat.le_refl p)]
  have e : stA m lo ys R (n + 1) (p + 1) = rwS m lo (visS (atPc (stA m lo ys R (n + 1) p) p)) (topO (stA m lo ys R (n + 1) p)) 1 (ys.getD p dx).a:=by
   show rwS m lo _ _ (ys.getD p dx).c _ = _
   rw [hX.nop]
  rw [e]
  exact h.nop (by omega) (sh_len m lo ys R (n + 1) p) (lv_stA hT lo ys hR (n + 1) p) hd m lo _
 intro j
 induction j with
 | zero =>
  intro _
  have h0 : RelA p 0 (stA m lo xs R n 0) (stA m lo ys R (n + 1) 0):=by
   refine ⟨⟨rfl,rfl,fun k => ⟨rfl,rfl,rfl,rfl⟩,fun k h0 hk => ?_⟩,rfl,rfl,fun i hi => absurd hi (by omega)⟩
   have : k < 1:=hk
   omega
  by_cases hp0 : p = 0
  ·subst hp0
   have:=nop h0
   exact ⟨this.1,fun _ => this.2,fun h => absurd h (by omega)⟩
  ·rw [mv_lo (by omega)]
   exact ⟨h0,fun h => absurd h.symm hp0,fun h => absurd h (by omega)⟩
 | succ j ih =>
  intro hj
  obtain ⟨hA,hN1,hN2⟩:=ih (by omega)
  have hst:=hA.step (n:=n) (by omega) (sh_len m lo xs R n j) (sh_len m lo ys R (n + 1) (mv p j)) m lo (xs.getD j dx).c (xs.getD j dx).a
  have e1 : stA m lo ys R (n + 1) (mv p j + 1) = rwS m lo (visS (atPc (stA m lo ys R (n + 1) (mv p j)) (mv p j))) (topO (stA m lo ys R (n + 1) (mv p j))) (xs.getD j dx).c (xs.getD j dx).a:=by
   show rwS m lo _ _ (ys.getD (mv p j) dx).c (ys.getD (mv p j) dx).a = _
   rw [hX.c,hX.a]
  have e2 : stA m lo xs R n (j + 1) = rwS m lo (visS (atPc (stA m lo xs R n j) j)) (topO (stA m lo xs R n j)) (xs.getD j dx).c (xs.getD j dx).a:=rfl
  have hst' : RelA p (j + 1) (stA m lo xs R n (j + 1)) (stA m lo ys R (n + 1) (mv p j + 1)):=by rw [e1,e2]; exact hst
  by_cases hq : j + 1 = p
  ·have e3 : mv p j + 1 = p:=by rw [mv_lo (by omega)]; exact hq
   rw [e3,hq] at hst'
   have:=nop hst'
   rw [hq]
   exact ⟨this.1,fun _ => this.2,fun h => absurd h (by omega)⟩
  ·have e3 : mv p j + 1 = mv p (j + 1):=by unfold mv; split <;> split <;> omega
   rw [← e3]
   refine ⟨hst',fun h => absurd h hq,fun h => ?_⟩
   rw [e1,e2,(rwS_keep m lo _ _ _ _).1,(rwS_keep m lo _ _ _ _).1]
   show ((stA m lo ys R (n + 1) (mv p j)).sh.set (mv p j) _)[p]? = ((stA m lo xs R n j).sh.set j (stA m lo xs R n j).st)[p]?
   rw [List.getElem?_set_ne (by rw [mv_hi (by omega)]; omega)]
   by_cases hjp : j = p
   ·subst hjp
    rw [hN1 rfl,List.getElem?_set_self (by rw [sh_len]; omega)]
   ·rw [List.getElem?_set_ne hjp]
    exact hN2 (by omega)
theorem rel_er (hX : InsX p xs ys) (hT : ∀ a,Ltr (tyAt m a).1 ∧ Ltr (tyAt m a).2 ∧ (tyAt m a).1.size ≤ 8) (hR : Ltr R) (hp : p < n) (hd : (stA m lo xs R n p).dead = false) (hG : Good (opF xs) n) {j : Nat} (hj : j < n) :
  erA m lo ys R (n + 1) (mv p j) = erA m lo xs R n j:=by
 have hA:=(rel_states hX hT hR hp hd j (by omega)).1
 have hI:=inv_stA m lo xs R n j (fun i hi => hG.2.1 i (by omega))
 unfold erA visE
 rw [hX.c,hX.a,hX.l]
 have e1 : (atPc (stA m lo ys R (n + 1) (mv p j)) (mv p j)).dead = (atPc (stA m lo xs R n j) j).dead:=hA.dead
 rw [e1]
 split
 ·rfl
 ·refine (hA.r.vis j (mv p j)).rwE hA.r.top (fun h4 => ?_) m lo _ _ _
  have hlen : 0 < (stA m lo xs R n j).op.length - 1:=by
   rcases Nat.eq_zero_or_pos ((stA m lo xs R n j).op.length - 1) with h | h
   ·exfalso
    have hb:=hI.body
    unfold topO at h4
    rw [h,hb] at h4
    exact absurd h4 (by decide)
   ·exact h
  obtain ⟨q,hq⟩:=hI.pcn ((stA m lo xs R n j).op.length - 1)
  have hpc:=hA.r.pc _ hlen (by omega)
  have t1 : (topO (stA m lo xs R n j)).pc = (q : Int):=hq
  have t2 : (topO (stA m lo ys R (n + 1) (mv p j))).pc = ((mv p q : Nat) : Int):=by
   unfold topO
   rw [hA.r.len]
   exact hpc.trans (by rw [hq,mv_nat])
  rw [t1,t2,Int.toNat_natCast,Int.toNat_natCast,hX.op]
  have e3 : n + 1 = mv p n:=(mv_hi (by omega)).symm
  rw [e3,elF_mv]
  exact mvI_none
theorem rel_er_nop (hX : InsX p xs ys) (hT : ∀ a,Ltr (tyAt m a).1 ∧ Ltr (tyAt m a).2 ∧ (tyAt m a).1.size ≤ 8) (hR : Ltr R) (hd : (stA m lo ys R (n + 1) p).dead = false) : erA m lo ys R (n + 1) p = 0:=by
 unfold erA
 rw [hX.nop]
 have hl:=lv_stA hT lo ys hR (n + 1) p
 have hl' : Lv (atPc (stA m lo ys R (n + 1) p) p):=⟨hl.st,hl.sz,hl.op⟩
 exact (nop_ok hl' m lo _ _ _ hd).1
end
theorem dead_next (m : MM) (lo : List Int) (xs : List Inx) (R : ByteArray) (n j : Nat) : (stA m lo xs R n (j + 1)).dead = ddC (xs.getD j dx).c false:=(rwS_keep m lo _ _ _ _).2.2
theorem dead_at (m : MM) (lo : List Int) (xs : List Inx) (R : ByteArray) (n p : Nat) (h : p = 0 ∨ ¬ ((xs.getD (p - 1) dx).c = 7 ∨ (xs.getD (p - 1) dx).c = 9 ∨ (xs.getD (p - 1) dx).c = 10 ∨ (xs.getD (p - 1) dx).c = 0)) : (stA m lo xs R n p).dead = false:=by
 cases p with
 | zero => rfl
 | succ p =>
  rw [dead_next]
  exact if_neg (h.resolve_left (by omega))
section
variable {m : MM} {lo : List Int} {xs ys : List Inx} {R : ByteArray} {n p : Nat}
theorem nop_end (hX : InsX p xs ys) (hT : ∀ a,Ltr (tyAt m a).1 ∧ Ltr (tyAt m a).2 ∧ (tyAt m a).1.size ≤ 8) (hR : Ltr R) (hp : p < n) (hG : Good (opF xs) n)
  (hb : p = 0 ∨ ¬ ((xs.getD (p - 1) dx).c = 7 ∨ (xs.getD (p - 1) dx).c = 9 ∨ (xs.getD (p - 1) dx).c = 10 ∨ (xs.getD (p - 1) dx).c = 0)) (he : ∀ j,j < n → erA m lo xs R n j = 0) :
  Good (opF ys) (n + 1) ∧ (∀ q,q < n + 1 → erA m lo ys R (n + 1) q = 0) ∧ (stA m lo ys R (n + 1) (n + 1)).hi = (stA m lo xs R n n).hi ∧
   (∀ i,i < n → (stA m lo ys R (n + 1) (n + 1)).sh[mv p i]? = (stA m lo xs R n n).sh[i]?) ∧ (stA m lo ys R (n + 1) (n + 1)).sh[p]? = (stA m lo xs R n n).sh[p]?:=by
 have hd:=dead_at m lo xs R n p hb
 have hb' : p = 0 ∨ ¬ ((ys.getD (p - 1) dx).c = 7 ∨ (ys.getD (p - 1) dx).c = 9 ∨ (ys.getD (p - 1) dx).c = 10 ∨ (ys.getD (p - 1) dx).c = 0):=by
  rcases Nat.eq_zero_or_pos p with h | h
  ·exact .inl h
  ·have e:=hX.c (p - 1)
   rw [mv_lo (by omega)] at e
   rw [e]; exact hb
 have hd':=dead_at m lo ys R (n + 1) p hb'
 have hmn : mv p n = n + 1:=mv_hi (by omega)
 have hS:=rel_states hX hT hR hp hd n (Nat.le_refl _)
 rw [hmn] at hS
 refine ⟨by rw [hX.op]; exact good_ins hG hp,fun q hq => ?_,?_,hS.1.sh,hS.2.2 hp⟩
 ·rcases mv_cases p q with rfl | ⟨j,rfl,_,_⟩
  ·exact rel_er_nop hX hT hR hd'
  ·have hj : j < n:=by
    unfold mv at hq
    split at hq <;> omega
   rw [rel_er hX hT hR hp hd hG hj]
   exact he j hj
 ·have h1:=(rel_states hX hT hR hp hd (n - 1) (by omega)).1
  have e0 : mv p (n - 1) = n:=by rw [mv_hi (by omega)]; omega
  rw [e0] at h1
  have e1 : (stA m lo ys R (n + 1) (n + 1)).hi = max (stA m lo ys R (n + 1) n).hi (stA m lo ys R (n + 1) n).st.size:=(rwS_keep m lo _ _ _ _).2.1
  have e2 : (stA m lo xs R n n).hi = max (stA m lo xs R n (n - 1)).hi (stA m lo xs R n (n - 1)).st.size:=by
   obtain ⟨k,rfl⟩ : ∃ k,n = k + 1:=⟨n - 1,by omega⟩
   exact (rwS_keep m lo _ _ _ _).2.1
  rw [e1,e2,h1.r.st]
  exact h1.hi
end
theorem ty_LL {m : MM} (h0 : chkMM m = 0) : ∀ a,Ltr (tyAt m a).1 ∧ Ltr (tyAt m a).2 ∧ (tyAt m a).1.size ≤ 8:=by
 intro a
 obtain ⟨h1,_,_,_⟩:=chkW_of h0
 unfold tyAt
 rw [List.getD_eq_getElem?_getD]
 cases e : m.types[a.toNat]? with
 | none => exact ⟨.nil,.nil,by decide⟩
 | some x =>
  have h:=chkSig_zero ((listE_zero h1).2 _ x e)
  exact ⟨Ltr.of h.2.1,Ltr.of h.2.2.2,h.1⟩
def insM (p : Nat) (xs : List InM) : List InM:=xs.take p ++ inn 1 0 :: xs.drop p
theorem insM_len {p : Nat} {xs : List InM} (hp : p ≤ xs.length) : (insM p xs).length = xs.length + 1:=by
 simp [insM]; omega
theorem insM_mv {p : Nat} {xs : List InM} (hp : p ≤ xs.length) (j : Nat) : (insM p xs)[mv p j]? = xs[j]?:=by
 unfold insM
 by_cases h : j < p
 ·rw [mv_lo h,List.getElem?_append_left (by simp; omega),List.getElem?_take_of_lt h]
 ·have hl : (xs.take p).length = p:=by simp; omega
  rw [mv_hi (by omega),List.getElem?_append_right (by omega),hl]
  have e : j + 1 - p = (j - p) + 1:=by omega
  rw [e,List.getElem?_cons_succ,List.getElem?_drop]
  congr 1; omega
theorem insM_at {p : Nat} {xs : List InM} (hp : p ≤ xs.length) : (insM p xs)[p]? = some (inn 1 0):=by
 unfold insM
 have hl : (xs.take p).length = p:=by simp; omega
 rw [List.getElem?_append_right (by omega),hl,Nat.sub_self,List.getElem?_cons_zero]
theorem insX_of {p : Nat} {xs : List InM} (hp : p ≤ xs.length) : InsX p (xs.map inx) ((insM p xs).map inx):=by
 have e : ∀ j,((insM p xs).map inx).getD (mv p j) dx = (xs.map inx).getD j dx:=fun j => by
  rw [List.getD_eq_getElem?_getD,List.getD_eq_getElem?_getD,List.getElem?_map,List.getElem?_map,insM_mv hp]
 refine ⟨fun j => by rw [e],fun j => by rw [e],fun j => by rw [e],?_⟩
 rw [List.getD_eq_getElem?_getD,List.getElem?_map,insM_at hp]
 rfl
theorem nop_fn {m m' : MM} (h0 : chkMM m = 0) (hM : SameM m m') {p n : Nat} {xs : List InM} (hn : xs.length = n) (hp : p < n) (lo : List Int) {Q : ByteArray} (hQ : Ltr Q) (hG : Good (opF (xs.map inx)) n)
  (hb : p = 0 ∨ ¬ (((xs.map inx).getD (p - 1) dx).c = 7 ∨ ((xs.map inx).getD (p - 1) dx).c = 9 ∨ ((xs.map inx).getD (p - 1) dx).c = 10 ∨ ((xs.map inx).getD (p - 1) dx).c = 0)) (he : ∀ j,j < n → erA m lo (xs.map inx) Q n j = 0) :
  Good (opF ((insM p xs).map inx)) (n + 1) ∧ (∀ q,q < n + 1 → erA m' lo ((insM p xs).map inx) Q (n + 1) q = 0) ∧ (stA m' lo ((insM p xs).map inx) Q (n + 1) (n + 1)).hi = (stA m lo (xs.map inx) Q n n).hi ∧
   (∀ i,i < n → (stA m' lo ((insM p xs).map inx) Q (n + 1) (n + 1)).sh[mv p i]? = (stA m lo (xs.map inx) Q n n).sh[i]?) ∧ (stA m' lo ((insM p xs).map inx) Q (n + 1) (n + 1)).sh[p]? = (stA m lo (xs.map inx) Q n n).sh[p]?:=by
 obtain ⟨q1,q2,q3,q4,q5⟩:=nop_end (insX_of (p:=p) (xs:=xs) (by omega)) (ty_LL h0) hQ hp hG hb he
 have hx : SameX ((insM p xs).map inx) ((insM p xs).map inx):=fun j => ⟨rfl,rfl,rfl⟩
 have es:=hM.stA hx lo Q (n + 1) (n + 1)
 refine ⟨q1,fun q hq => by rw [hM.erA hx]; exact q2 q hq,by rw [es]; exact q3,by rw [es]; exact q4,by rw [es]; exact q5⟩
def insL {α : Type} (p : Nat) (a : α) (xs : List α) : List α:=xs.take p ++ a :: xs.drop p
section
variable {α : Type} {p : Nat} {a : α} {xs : List α}
theorem insL_len (hp : p ≤ xs.length) : (insL p a xs).length = xs.length + 1:=by simp [insL]; omega
theorem insL_mv (hp : p ≤ xs.length) (j : Nat) : (insL p a xs)[mv p j]? = xs[j]?:=by
 unfold insL
 by_cases h : j < p
 ·rw [mv_lo h,List.getElem?_append_left (by simp; omega),List.getElem?_take_of_lt h]
 ·have hl : (xs.take p).length = p:=by simp; omega
  rw [mv_hi (by omega),List.getElem?_append_right (by omega),hl]
  have e : j + 1 - p = (j - p) + 1:=by omega
  rw [e,List.getElem?_cons_succ,List.getElem?_drop]
  congr 1; omega
theorem insL_at (hp : p ≤ xs.length) : (insL p a xs)[p]? = some a:=by
 unfold insL
 have hl : (xs.take p).length = p:=by simp; omega
 rw [List.getElem?_append_right (by omega),hl,Nat.sub_self,List.getElem?_cons_zero]
theorem insL_uniq {ys : List α} (hp : p < xs.length) (hl : ys.length = xs.length + 1) (h1 : ∀ i,i < xs.length → ys[mv p i]? = xs[i]?) (h2 : ys[p]? = some a) : ys = insL p a xs:=by
 apply List.ext_getElem?
 intro q
 rcases mv_cases p q with rfl | ⟨j,rfl,_,_⟩
 ·rw [h2,insL_at (by omega)]
 ·rw [insL_mv (by omega)]
  by_cases hj : j < xs.length
  ·exact h1 j hj
  ·rw [List.getElem?_eq_none (by rw [hl,mv_hi (by omega)]; omega),List.getElem?_eq_none (by omega)]
def cntK (p k : Nat) : Nat:=if k ≤ p then k else k + 1
def upto (p : Nat) (a : α) (xs : List α) (k : Nat) : List α:=(insL p a xs).take (cntK p k)
theorem upto_0 : upto p a xs 0 = []:=by simp [upto,cntK]
theorem upto_all (hp : p < xs.length) : upto p a xs xs.length = insL p a xs:=by
 unfold upto cntK
 rw [if_neg (by omega),← insL_len (a:=a) (by omega : p ≤ xs.length),List.take_length]
theorem take_snocX {l : List α} {k : Nat} {x : α} (h : l[k]? = some x) : l.take (k + 1) = l.take k ++ [x]:=by
 have hk:=(List.getElem?_eq_some_iff.1 h).1
 rw [List.take_succ_eq_append_getElem hk]
 rw [List.getElem?_eq_getElem hk] at h
 rw [Option.some.inj h]
theorem upto_ne (hp : p < xs.length) {k : Nat} {x : α} (hx : xs[k]? = some x) (hk : k ≠ p) : upto p a xs (k + 1) = upto p a xs k ++ [x]:=by
 have h:=insL_mv (a:=a) (by omega : p ≤ xs.length) k
 rw [hx] at h
 unfold upto
 by_cases hl : k < p
 ·rw [mv_lo hl] at h
  have e1 : cntK p (k + 1) = k + 1:=if_pos (by omega)
  have e2 : cntK p k = k:=if_pos (by omega)
  rw [e1,e2,take_snocX h]
 ·rw [mv_hi (by omega)] at h
  have e1 : cntK p (k + 1) = k + 1 + 1:=if_neg (by omega)
  have e2 : cntK p k = k + 1:=if_neg (by omega)
  rw [e1,e2,take_snocX h]
theorem upto_at (hp : p < xs.length) {x : α} (hx : xs[p]? = some x) : upto p a xs (p + 1) = upto p a xs p ++ [a] ++ [x]:=by
 have h:=insL_mv (a:=a) (by omega : p ≤ xs.length) p
 rw [hx,mv_hi (Nat.le_refl _)] at h
 unfold upto
 have e1 : cntK p (p + 1) = p + 1 + 1:=if_neg (by omega)
 have e2 : cntK p p = p:=if_pos (Nat.le_refl _)
 rw [e1,e2,take_snocX h,take_snocX (insL_at (a:=a) (by omega : p ≤ xs.length))]
end
end Go.Proofs.YtepnnenohjfkbaaGreatDoor
