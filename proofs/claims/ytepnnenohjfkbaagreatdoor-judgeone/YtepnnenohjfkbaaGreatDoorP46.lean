/-
  Texts Za Zb Zc Ka.
-/
import Derived.Test.YtepnnenohjfkbaaGreatDoorP36
import Derived.Test.YtepnnenohjfkbaaGreatDoorP39
import Derived.Test.YtepnnenohjfkbaaGreatDoorP44
set_option linter.unusedVariables false
set_option maxRecDepth 100000
set_option maxHeartbeats 16000000
namespace Go.Proofs.YtepnnenohjfkbaaGreatDoor
open Go.RowKit
def tkO (c : Int) : ByteArray:=if c = 4 then wT else nT
def dm (m : MM) (lo : List Int) (xs : List Inx) (R : ByteArray) (n t : Nat) : Opn :=
 ⟨(aH m (xs.getD t dx).a).1,(aH m (xs.getD t dx).a).2,i5 (stA m lo xs R n t) (tkO (opF xs t)) (aH m (xs.getD t dx).a).1,opF xs t,t⟩
def oW (R : ByteArray) : Opn:=⟨⟨#[]⟩,R,⟨#[]⟩,0,0⟩
theorem CQ (m : MM) (lo : List Int) (s : Cs) (o : Opn) {c : Int} (a : Int) (h : isO c = true) : rwS m lo s o c a = dJ s c (tkO c) (aH m a).1 (aH m a).2:=by
 have:=aV.1 h
 unfold rwS tkO
 by_cases h4 : c = 4
 ·rw [if_neg (by omega),if_pos h4,if_pos h4]
 ·rw [if_pos (by omega),if_neg h4]
theorem ou (m : MM) (lo : List Int) (s : Cs) (o : Opn) (a : Int) : rwS m lo s o 6 a = lW s:=rfl
theorem zU (m : MM) (lo : List Int) (s : Cs) (o : Opn) {c : Int} (a : Int) (h : isO c = false) (h6 : c ≠ 6) : (rwS m lo s o c a).op = s.op ∧ (rwS m lo s o c a).fl = s.fl:=by
 have:=gA h
 unfold rwS
 rw [if_neg (by omega),if_neg (by omega)]
 split
 ·exact ⟨rfl,rfl⟩
 ·split
  ·exact ⟨rfl,rfl⟩
  ·split
   ·exact ⟨rfl,rfl⟩
   ·generalize efV m lo s o c a = E;unfold jh bh;exact ⟨rfl,rfl⟩
section
variable {m : MM} {lo : List Int} {xs : List Inx} {R : ByteArray} {n : Nat}
theorem fk : ∀ j,Okp (opF xs) j → (stA m lo xs R n j).op = oW R :: (stk (opF xs) j).reverse.map (dm m lo xs R n)
 | 0,_ => rfl
 | j + 1,h => by
  have ih:=fk j (fun i hi => h i (by omega))
  have e : (stA m lo xs R n (j + 1)).op = (rwS m lo (bA (bG (stA m lo xs R n j) j)) (aA (stA m lo xs R n j)) (opF xs j) (xs.getD j dx).a).op:=rfl
  cases hO : isO (opF xs j) with
  | true =>
   rw [e,CQ m lo _ _ _ hO,dV hO]
   show (stA m lo xs R n j).op ++ [_] = _
   rw [ih,List.reverse_cons,List.map_append];rfl
  | false =>
   by_cases h6 : opF xs j = 6
   ·rw [e,h6,ou,gw h6]
    show (stA m lo xs R n j).op.dropLast = _
    rw [ih]
    have hne:=(h j (by omega)).2
    cases hs : stk (opF xs) j with
    | nil => exact absurd ⟨h6,hs⟩ hne
    | cons t r =>
     rw [List.reverse_cons,List.map_append,List.tail_cons,← List.cons_append];exact List.dropLast_concat
   ·rw [e,(zU m lo _ _ _ hO h6).1,Ch hO h6];exact ih
theorem dQ {j t : Nat} {r : List Nat} (h : Okp (opF xs) j) (hs : stk (opF xs) j = t :: r) : aA (stA m lo xs R n j) = dm m lo xs R n t:=by
 unfold aA;rw [fk j h,hs,List.reverse_cons,List.map_append,← List.cons_append,List.getD_eq_getElem?_getD]
 simp
theorem gi {j : Nat} (h : Okp (opF xs) j) (hs : stk (opF xs) j = []) : aA (stA m lo xs R n j) = oW R:=by
 unfold aA;rw [fk j h,hs];rfl
theorem De {j k t : Nat} (h : Okp (opF xs) j) (hs : (stk (opF xs) j)[k]? = some t) : bm (stA m lo xs R n j) (k : Int) = dm m lo xs R n t:=by
 have hk:=au hs;unfold bm;rw [fk j h,List.getD_eq_getElem?_getD,Int.toNat_natCast]
 simp only [List.length_cons,List.length_map,List.length_reverse,Nat.add_sub_cancel]
 obtain ⟨q,hq⟩ : ∃ q,(stk (opF xs) j).length - k = q + 1:=⟨(stk (opF xs) j).length - k - 1,by omega⟩
 rw [hq,List.getElem?_cons_succ,List.getElem?_map,List.getElem?_reverse (by omega),show (stk (opF xs) j).length - 1 - q = k by omega,hs]
 rfl
theorem mY {j : Nat} (h : Okp (opF xs) j) : bm (stA m lo xs R n j) ((stk (opF xs) j).length : Int) = oW R:=by
 unfold bm;rw [fk j h,List.getD_eq_getElem?_getD,Int.toNat_natCast]
 simp
theorem qa {j : Nat} (h : Okp (opF xs) j) : CC (stA m lo xs R n j) = oW R:=by
 unfold CC;rw [fk j h];rfl
theorem DR {j : Nat} (h : Okp (opF xs) j) : (stA m lo xs R n j).op.length = (stk (opF xs) j).length + 1:=by
 rw [fk j h]; simp
theorem vU : ∀ j i,i < j → j ≤ n → (stA m lo xs R n j).sh[i]? = some (stA m lo xs R n i).st
 | 0,i,h,_ => absurd h (by omega)
 | j + 1,i,h,hn => by
  have e : (stA m lo xs R n (j + 1)).sh = (stA m lo xs R n j).sh.set j (stA m lo xs R n j).st:=(Db m lo _ _ _ _).1;rw [e,List.getElem?_set]
  by_cases hi : j = i
  ·subst hi
   rw [if_pos rfl,if_pos (by rw [wh]; omega)]
  ·rw [if_neg hi]
   exact vU j i (by omega) (by omega)
end
abbrev bl (a : ByteArray) : List UInt8:=a.data.toList
theorem dR (s : ByteArray) (k : Nat) : bl (s.extract 0 k) = (bl s).take k:=by
 show (s.extract 0 k).data.toList = _
 rw [ByteArray.data_extract,Array.toList_extract,List.extract_eq_take_drop,List.drop_zero,Nat.sub_zero]
theorem iG (s : ByteArray) (k : Nat) : bl (s.extract k s.size) = (bl s).drop k:=by
 show (s.extract k s.size).data.toList = _
 rw [ByteArray.data_extract,Array.toList_extract,List.extract_eq_take_drop,dB,← List.length_drop,List.take_length]
theorem CE (a b : ByteArray) : bl (a ++ b) = bl a ++ bl b:=wR a b
theorem bM (a : ByteArray) : (bl a).length = a.size:=(dB a).symm
theorem xN (s : ByteArray) {a b : Nat} (h : b ≤ a) : (s.extract 0 a).extract 0 b = s.extract 0 b:=by
 apply dZ
 show bl _ = bl _
 rw [dR,dR,dR,List.take_take,Nat.min_eq_left h]
theorem iV {a s : ByteArray} {k : Nat} (h : bl a <+: bl s) (hk : a.size ≤ k) : bl a <+: bl (s.extract 0 k):=by
 rw [dR,List.prefix_take_iff]
 exact ⟨h,by rw [bM]; exact hk⟩
theorem nG {a s : ByteArray} (h : bl a <+: bl s) (t : ByteArray) : bl a <+: bl (s ++ t):=by
 rw [CE];exact h.trans (List.prefix_append _ _)
theorem xj (s : ByteArray) (k : Nat) : bl (s.extract 0 k) <+: bl s:=by
 rw [dR];exact List.take_prefix _ _
theorem kU {a b : ByteArray} (h : bl a <+: bl b) : a.size ≤ b.size:=by
 have:=h.length_le
 rwa [bM,bM] at this
theorem CL {s : Cs} {o : Opn} {t : ByteArray} (h : aO s o t = 0) (hb : o.B.size ≤ s.st.size) : o.B.size ≤ s.st.size - t.size ∧ t.size ≤ s.st.size:=by
 have:=Di h
 omega
theorem iE {s t : ByteArray} (h : aS s t = 0) : cK s t = s ++ t:=(mS h).1
section
variable {m : MM} {lo : List Int} {xs : List Inx} {R : ByteArray} {n : Nat}
theorem dw (hG : Good (opF xs) n) {j : Nat} (hj : j < n) : Okp (opF xs) j:=fun i hi => hG.2.1 i (by omega)
theorem sL {s : Cs} {o : Opn} {el c a : Int} {l : List Int} (hb : bl o.B <+: bl s.st) (hO : isO c = false) (h6 : c ≠ 6) (he : rwE m lo el s o c a l = 0) : bl o.B <+: bl (rwS m lo s o c a).st:=by
 have hno:=gA hO;have hle:=kU hb;unfold rwE at he
 rw [if_neg (by omega),if_neg (by omega)] at he
 by_cases h5 : c = 5
 ·subst h5;exact nG (List.prefix_refl _) _
 rw [if_neg h5,if_neg h6] at he
 have lv : aS o.B o.R = 0 → c = 7 ∨ c = 9 ∨ c = 10 ∨ c = 0 → bl o.B <+: bl (rwS m lo s o c a).st:=fun hp hc => by
  have e : rwS m lo s o c a = cu s o:=by
   unfold rwS
   rw [if_neg (by omega),if_neg (by omega),if_neg h5,if_neg h6,if_pos hc]
  rw [e]
  show bl o.B <+: bl (cK o.B o.R)
  rw [iE hp];exact nG (List.prefix_refl _) _
 by_cases h7 : c = 7
 ·rw [if_pos h7] at he;exact lv (aI (aI he).2).2 (.inl h7)
 rw [if_neg h7] at he
 by_cases h8 : c = 8
 ·subst h8;rw [if_pos rfl] at he
  have:=CL (aI (aI he).2).2 hle
  exact iV hb this.1
 rw [if_neg h8] at he
 by_cases h9 : c = 9
 ·rw [if_pos h9] at he;exact lv (aI (aI he).2).2 (.inr (.inl h9))
 rw [if_neg h9] at he
 by_cases h10 : c = 10
 ·rw [if_pos h10] at he;exact lv (aI he).2 (.inr (.inr (.inl h10)))
 rw [if_neg h10] at he
 by_cases h0 : c = 0
 ·rw [if_pos h0] at he;exact lv he (.inr (.inr (.inr h0)))
 rw [if_neg h0] at he
 have e : rwS m lo s o c a = jh (bh s (efV m lo s o c a).1) (efV m lo s o c a).2:=by
  unfold rwS
  rw [if_neg (by omega),if_neg (by omega),if_neg h5,if_neg h6,if_neg (by omega),if_neg h8]
 rw [e];generalize efV m lo s o c a = E at he;have h1:=aI (aI he).2
 show bl o.B <+: bl (cK (bh s E.1).st E.2)
 rw [iE h1.2];exact nG (iV hb (CL h1.1 hle).1) _
theorem vq (t : Nat) (hP : (aH m (xs.getD t dx).a).1.size + (tkO (opF xs t)).size ≤ (stA m lo xs R n t).st.size) :
  (dm m lo xs R n t).B = (stA m lo xs R n t).st.extract 0 ((stA m lo xs R n t).st.size - (tkO (opF xs t)).size - (aH m (xs.getD t dx).a).1.size) ∧
   (dm m lo xs R n t).B.size = (stA m lo xs R n t).st.size - (tkO (opF xs t)).size - (aH m (xs.getD t dx).a).1.size:=by
 have e : (dm m lo xs R n t).B = i5 (stA m lo xs R n t) (tkO (opF xs t)) (aH m (xs.getD t dx).a).1:=rfl
 have e2 : (dm m lo xs R n t).B = (stA m lo xs R n t).st.extract 0 ((stA m lo xs R n t).st.size - (tkO (opF xs t)).size - (aH m (xs.getD t dx).a).1.size):=by
  rw [e];unfold i5
  have h1 : ((stA m lo xs R n t).st.extract 0 ((stA m lo xs R n t).st.size - (tkO (opF xs t)).size)).size = (stA m lo xs R n t).st.size - (tkO (opF xs t)).size:=by
   rw [ByteArray.size_extract]; omega
  rw [h1]
  exact xN _ (by omega)
 refine ⟨e2,?_⟩
 rw [e2,ByteArray.size_extract]; omega
theorem ma {t : Nat} (hO : isO (opF xs t) = true) (he : erA m lo xs R n t = 0) : aO (stA m lo xs R n t) (aA (stA m lo xs R n t)) ((aH m (xs.getD t dx).a).1 ++ tkO (opF xs t)) = 0:=by
 have h:=ip he;have hc : (xs.getD t dx).c = opF xs t:=rfl;rw [hc] at h;have h3:=aV.1 hO;unfold rwE at h;unfold tkO
 by_cases h4 : opF xs t = 4
 ·rw [if_neg (by omega),if_pos h4] at h
  rw [if_pos h4];exact (aI (aI h).2).1
 ·rw [if_pos (by omega)] at h
  rw [if_neg h4];exact (aI (aI h).2).1
theorem wn (hG : Good (opF xs) n) (he : ∀ i,i < n → erA m lo xs R n i = 0) (j : Nat) : j < n →
  (∀ u ∈ stk (opF xs) j,bl (dm m lo xs R n u).B <+: bl (stA m lo xs R n j).st) ∧ (isO (opF xs j) = true → (∀ u ∈ stk (opF xs) j,bl (dm m lo xs R n u).B <+: bl (dm m lo xs R n j).B) ∧ (aH m (xs.getD j dx).a).1.size + (tkO (opF xs j)).size ≤ (stA m lo xs R n j).st.size):=by
 induction j using Nat.strongRecOn with
 | _ j ih =>
  intro hj;have hok:=dw hG hj;have tops : ∀ i,i ≤ j → (∀ u ∈ stk (opF xs) i,bl (dm m lo xs R n u).B <+: bl (stA m lo xs R n i).st) →
    bl (aA (stA m lo xs R n i)).B <+: bl (stA m lo xs R n i).st ∧ ∀ u ∈ stk (opF xs) i,bl (dm m lo xs R n u).B <+: bl (aA (stA m lo xs R n i)).B:=by
   intro i hi hQ
   rcases bH (opF xs) i with h0 | ⟨t,ht,hOt,hs⟩
   ·rw [gi (dw hG (by omega)) h0,h0]
    exact ⟨List.nil_prefix,fun u hu => absurd hu (by simp)⟩
   ·rw [dQ (dw hG (by omega)) hs]
    refine ⟨hQ t (by rw [hs]; simp),fun u hu => ?_⟩
    rw [hs] at hu
    rcases List.mem_cons.1 hu with rfl | hu
    ·exact List.prefix_refl _
    ·exact ((ih t (by omega) (by omega)).2 hOt).1 u hu
  have hQ : ∀ u ∈ stk (opF xs) j,bl (dm m lo xs R n u).B <+: bl (stA m lo xs R n j).st:=by
   cases j with
   | zero => intro u hu; exact absurd hu (by simp [stk])
   | succ k =>
    have hk:=ih k (by omega) (by omega)
    have hT:=tops k (by omega) hk.1
    have hz:=ip (he k (by omega))
    have hc : (xs.getD k dx).c = opF xs k:=rfl;rw [hc] at hz;have e : (stA m lo xs R n (k + 1)) = rwS m lo (bA (bG (stA m lo xs R n k) k)) (aA (stA m lo xs R n k)) (opF xs k) (xs.getD k dx).a:=rfl
    cases hO : isO (opF xs k) with
    | true =>
     have e2 : (stA m lo xs R n (k + 1)).st = (stA m lo xs R n k).st.extract 0 ((stA m lo xs R n k).st.size - (tkO (opF xs k)).size):=by
      rw [e,CQ m lo _ _ _ hO]; rfl
     have hB : bl (dm m lo xs R n k).B <+: bl (stA m lo xs R n (k + 1)).st:=by
      rw [e2];have hx:=vq k (hk.2 hO).2;rw [hx.1];refine iV (xj _ _) ?_
      rw [ByteArray.size_extract]; omega
     rw [dV hO];intro u hu
     rcases List.mem_cons.1 hu with rfl | hu
     ·exact hB
     ·exact ((hk.2 hO).1 u hu).trans hB
    | false =>
     by_cases h6 : opF xs k = 6
     ·have e2 : (stA m lo xs R n (k + 1)).st = (stA m lo xs R n k).st:=by rw [e,h6,ou]; rfl
      rw [e2,gw h6]
      exact fun u hu => hk.1 u (List.mem_of_mem_tail hu)
     ·rw [Ch hO h6,e]
      exact fun u hu => (hT.2 u hu).trans (sL (s:=bA (bG (stA m lo xs R n k) k)) hT.1 hO h6 hz)
  refine ⟨hQ,fun hO => ?_⟩
  have hT:=tops j (Nat.le_refl _) hQ;have ha:=CL (ma hO (he j hj)) (kU hT.1);rw [ByteArray.size_append] at ha
  refine ⟨fun u hu => ?_,ha.2⟩
  rw [(vq j ha.2).1];refine iV (hQ u hu) ?_
  have:=kU (hT.2 u hu)
  omega
theorem Dq (hG : Good (opF xs) n) (he : ∀ i,i < n → erA m lo xs R n i = 0) {j : Nat} (hj : j < n) : bl (aA (stA m lo xs R n j)).B <+: bl (stA m lo xs R n j).st:=by
 rcases bH (opF xs) j with h0 | ⟨t,ht,hOt,hs⟩
 ·rw [gi (dw hG hj) h0];exact List.nil_prefix
 ·rw [dQ (dw hG hj) hs]
  exact (wn hG he j hj).1 t (by rw [hs]; simp)
end
theorem cV {s t : ByteArray} : ends s t = true ↔ bl t <:+ bl s:=by
 unfold ends;rw [Bool.and_eq_true,decide_eq_true_eq,beq_iff_eq,aM,aM]
 show t.size ≤ s.size ∧ bl (s.extract (s.size - t.size) s.size) = bl t ↔ _
 rw [iG]
 constructor
 ·intro ⟨h1,h2⟩;rw [← h2];exact List.drop_suffix _ _
 ·intro h;have hl:=h.length_le;rw [bM,bM] at hl;refine ⟨hl,?_⟩
  have:=List.suffix_iff_eq_drop.1 h
  rw [bM,bM] at this;exact this.symm
theorem il {s : Cs} {o : Opn} {t : ByteArray} (h : aO s o t = 0) : bl t <:+ bl s.st:=by
 unfold aO at h
 split at h
 ·rename_i hb
  unfold kT at hb;rw [Bool.and_eq_true] at hb
  have:=cV.1 hb.2
  rw [iG] at this;exact this.trans (List.drop_suffix _ _)
 ·cases h
theorem DD {s : Cs} {o : Opn} (h : cU s o = 0) : s.st = o.B ++ o.R:=by
 unfold cU at h
 split at h
 ·rename_i hb
  rw [beq_iff_eq,aM,aM] at hb;exact dZ hb
 ·cases h
section
variable {m : MM} {lo : List Int} {xs : List Inx} {R : ByteArray} {n : Nat}
abbrev TyS (m : MM) : Prop:=∀ a,(aH m a).1.size ≤ 8 ∧ (aH m a).2.size ≤ 8
theorem Dl {t : Nat} (hO : isO (opF xs t) = true) : (stA m lo xs R n (t + 1)).st = (stA m lo xs R n t).st.extract 0 ((stA m lo xs R n t).st.size - (tkO (opF xs t)).size):=by
 have e : (stA m lo xs R n (t + 1)) = rwS m lo (bA (bG (stA m lo xs R n t) t)) (aA (stA m lo xs R n t)) (opF xs t) (xs.getD t dx).a:=rfl
 rw [e,CQ m lo _ _ _ hO]; rfl
theorem qP {j : Nat} (h6 : opF xs j = 6) : (stA m lo xs R n (j + 1)).st = (stA m lo xs R n j).st:=by
 have e : (stA m lo xs R n (j + 1)) = rwS m lo (bA (bG (stA m lo xs R n j) j)) (aA (stA m lo xs R n j)) (opF xs j) (xs.getD j dx).a:=rfl
 rw [e,h6,ou]; rfl
theorem kg {i : Nat} (he : erA m lo xs R n i = 0) : rwE m lo (elF (opF xs) n (aA (stA m lo xs R n i)).pc.toNat) (bA (bG (stA m lo xs R n i) i)) (aA (stA m lo xs R n i)) (opF xs i) (xs.getD i dx).a (xs.getD i dx).l = 0:=ip he
theorem qD {j : Nat} (h56 : opF xs j = 5 ∨ opF xs j = 6) (he : erA m lo xs R n j = 0) : (stA m lo xs R n j).st = (aA (stA m lo xs R n j)).B ++ (aA (stA m lo xs R n j)).R:=by
 have h:=kg he
 rcases h56 with h5 | h6
 ·rw [h5] at h;exact DD (s:=bA (bG (stA m lo xs R n j) j)) h
 ·rw [h6] at h;exact DD (s:=bA (bG (stA m lo xs R n j) j)) (aI h).1
theorem tT {j : Nat} (h5 : opF xs j = 5) : (stA m lo xs R n (j + 1)).st = (aA (stA m lo xs R n j)).B ++ (aA (stA m lo xs R n j)).P:=by
 have e : (stA m lo xs R n (j + 1)) = rwS m lo (bA (bG (stA m lo xs R n j) j)) (aA (stA m lo xs R n j)) (opF xs j) (xs.getD j dx).a:=rfl
 rw [e,h5]; rfl
theorem at_end (hG : Good (opF xs) n) (he : ∀ i,i < n → erA m lo xs R n i = 0) {t : Nat} (ht : t < n) (hO : isO (opF xs t) = true) :
  ∃ j : Nat,enF (opF xs) n t = j ∧ t < j ∧ j < n - 1 ∧ (stA m lo xs R n j).st = (dm m lo xs R n t).B ++ (aH m (xs.getD t dx).a).2 ∧ (stA m lo xs R n (j + 1)).st = (dm m lo xs R n t).B ++ (aH m (xs.getD t dx).a).2:=by
 obtain ⟨j,h1,h2,h3,h4,h5,_⟩:=Cx hG ht hO
 have e:=qD (.inr h4) (he j (by omega))
 rw [dQ (dw hG (by omega)) h5] at e
 exact ⟨j,h1,h2,h3,e,(qP h4).trans e⟩
theorem pJ : brg (oW R) = R:=rfl
end
theorem eQ {a b : ByteArray} : (a.toList == b.toList) = true ↔ a = b:=by
 rw [beq_iff_eq,aM,aM]
 exact ⟨dZ,fun h => h ▸ rfl⟩
theorem Ck {sh : Nat → ByteArray} {p : Nat} {t : ByteArray} : di sh [(p,t)] = true ↔ sh p = t:=by
 unfold di;rw [List.all_cons,List.all_nil,Bool.and_true,eQ]
theorem qA {sh : Nat → ByteArray} {p q : Nat} {t u : ByteArray} : di sh [(p,t),(q,u)] = true ↔ sh p = t ∧ sh q = u:=by
 unfold di;rw [List.all_cons,List.all_cons,List.all_nil,Bool.and_true,Bool.and_eq_true,eQ,eQ]
theorem pQ {s t : ByteArray} : rz s t = true ↔ bl t <+: bl s:=by
 unfold rz;rw [Bool.and_eq_true,decide_eq_true_eq,eQ]
 constructor
 ·intro ⟨h1,h2⟩;rw [← h2,dR];exact List.take_prefix _ _
 ·intro h;have hl:=h.length_le;rw [bM,bM] at hl;refine ⟨hl,dZ ?_⟩
  show bl _ = bl _
  rw [dR]
  have:=List.prefix_iff_eq_take.1 h
  rw [bM] at this;exact this.symm
theorem Ltr.suf {s t : ByteArray} (h : Ltr s) (ht : bl t <:+ bl s) : Ltr t:=fun c hc => h c (ht.subset hc)
theorem vz {t l : List UInt8} {k : Nat} (h : t <:+ l) (hk : k ≤ l.length - t.length) : t <:+ l.drop k:=by
 have e:=List.suffix_iff_eq_drop.1 h
 have : l.drop (l.length - t.length) = (l.drop k).drop (l.length - t.length - k):=by rw [List.drop_drop]; congr 1; omega
 rw [this] at e;rw [e];exact List.drop_suffix _ _
theorem sZ {s t : ByteArray} (h : bl t <:+ bl s) : t.size ≤ s.size:=by
 have:=h.length_le
 rwa [bM,bM] at this
theorem mW {s : Cs} {o : Opn} {t : ByteArray} (hs : Ltr s.st) (hz : s.st.size ≤ 256) : aO s o t = 0 ↔ bl t <:+ (bl s.st).drop o.B.size:=by
 constructor
 ·intro h;unfold aO at h
  split at h
  ·rename_i hb
   unfold kT at hb;rw [Bool.and_eq_true] at hb
   have:=cV.1 hb.2
   rwa [iG] at this
  ·cases h
 ·intro h;have h2 : bl t <:+ bl s.st:=h.trans (List.drop_suffix _ _);have hl:=sZ h2;unfold aO kT shp
  rw [(hs.ext _ _).lett (by rw [ByteArray.size_extract]; omega),(hs.suf h2).lett (by omega),cV.2 (by rw [iG]; exact h)]
  rfl
theorem tV {s : Cs} {o : Opn} {a b : ByteArray} (hs : Ltr s.st) (hz : s.st.size ≤ 256) (h : aO s o (a ++ b) = 0) : aO s o b = 0:=by
 rw [mW hs hz] at h ⊢;rw [CE] at h;exact (List.suffix_append _ _).trans h
theorem CX {a b : ByteArray} (h : Ltr (a ++ b)) (hz : (a ++ b).size ≤ 256) : aS a b = 0:=by
 rw [ByteArray.size_append] at hz
 have ha : Ltr a:=fun c hc => h c (by show c ∈ bl _; rw [CE]; exact List.mem_append_left _ hc)
 have hb : Ltr b:=fun c hc => h c (by show c ∈ bl _; rw [CE]; exact List.mem_append_right _ hc)
 unfold aS shp
 rw [ha.lett (by omega),hb.lett (by omega)]
 show (if 256 < a.size + b.size then (34 : Int) else 0) = 0
 rw [if_neg (by omega)]
theorem ki {s y t : ByteArray} (h : bl (y ++ t) <:+ bl s) : s.extract 0 (s.size - (y ++ t).size) ++ y = s.extract 0 (s.size - t.size):=by
 obtain ⟨r,hr⟩:=h;rw [CE] at hr
 have hl : s.size = r.length + y.size + t.size:=by
  rw [← bM,← hr]; simp; omega
 apply dZ
 show bl _ = bl _
 rw [CE,dR,dR,ByteArray.size_append,← hr,show s.size - (y.size + t.size) = r.length by omega,show s.size - t.size = (r ++ bl y).length by rw [List.length_append,bM]; omega,List.take_left,← List.append_assoc,List.take_left]
section
variable {m : MM} {R : ByteArray} {xs : List Inx} {sh : Nat → ByteArray} {i : Nat} {B : ByteArray}
theorem qH (hb : cz m R xs sh (top (stk (opF xs) i)) = (B,true)) {t : ByteArray} :
  (isV m R xs sh i t).2 = true ↔ bl t <:+ bl (sh i) ∧ bl B <+: bl ((sh i).extract 0 ((sh i).size - t.size)):=by
 unfold isV;rw [hb];dsimp only;rw [Bool.true_and,Bool.and_eq_true]
 constructor
 ·intro ⟨h1,h2⟩;rw [if_pos h1,pQ] at h2;exact ⟨cV.1 h1,h2⟩
 ·intro ⟨h1,h2⟩;rw [if_pos (cV.2 h1),pQ];exact ⟨cV.2 h1,h2⟩
theorem xA {t : ByteArray} (h : bl t <:+ bl (sh i)) : (isV m R xs sh i t).1 = (sh i).extract 0 ((sh i).size - t.size):=by
 unfold isV;dsimp only;rw [if_pos (cV.2 h)];rfl
theorem Dm (hb : cz m R xs sh (top (stk (opF xs) i)) = (B,true)) {x : Sg} :
  cT m R xs sh i x = true ↔ (bl x.1 <:+ bl (sh i) ∧ bl B <+: bl ((sh i).extract 0 ((sh i).size - x.1.size))) ∧ sh (i + 1) = (sh i).extract 0 ((sh i).size - x.1.size) ++ x.2:=by
 unfold cT;rw [Bool.and_eq_true,eQ,qH hb]
 constructor
 ·intro ⟨h1,h2⟩;rw [xA h1.1] at h2;exact ⟨h1,h2⟩
 ·intro ⟨h1,h2⟩;rw [xA h1.1];exact ⟨h1,h2⟩
theorem mq {s : Cs} {o : Opn} {t : ByteArray} (hs : Ltr s.st) (hz : s.st.size ≤ 256) (h1 : bl t <:+ bl s.st) (h2 : bl o.B <+: bl (s.st.extract 0 (s.st.size - t.size))) : aO s o t = 0:=by
 rw [mW hs hz]
 have:=kU h2
 rw [ByteArray.size_extract] at this
 exact vz h1 (by rw [bM,bM]; omega)
theorem mi {s : Cs} {o : Opn} {t : ByteArray} (hs : Ltr s.st) (hz : s.st.size ≤ 256) (hp : bl o.B <+: bl s.st) (h : aO s o t = 0) : bl t <:+ bl s.st ∧ bl o.B <+: bl (s.st.extract 0 (s.st.size - t.size)):=by
 have hl:=CL h (kU hp);exact ⟨il h,iV hp hl.1⟩
end
structure JH (m : MM) (lo : List Int) (xs : List Inx) (R : ByteArray) (n : Nat) : Prop where
 G : Good (opF xs) n
 LL : ∀ a,Ltr (aH m a).1 ∧ Ltr (aH m a).2 ∧ (aH m a).1.size ≤ 8
 T : TyS m
 RL : Ltr R
 R8 : R.size ≤ 8
 c : ∀ i,i < n → 0 ≤ opF xs i ∧ opF xs i ≤ 255
 l9 : ∀ i,i < n → opF xs i = 9 → (xs.getD i dx).l ≠ []
section
variable {m : MM} {lo : List Int} {xs : List Inx} {R : ByteArray} {n : Nat} {sh : Nat → ByteArray}
theorem wJ {c : Int} (h6 : c ≠ 16) (h7 : c ≠ 17) (s s' : Cs) (o o' : Opn) (a : Int) : efE m lo s o c a = efE m lo s' o' c a ∧ efV m lo s o c a = efV m lo s' o' c a:=by
 unfold efE efV
 simp only [if_neg h6,if_neg h7]
 exact ⟨trivial,trivial⟩
theorem gh (t : Nat) (h : aT m.tn (xs.getD t dx).a = 0) : bn m R xs t = (aH m (xs.getD t dx).a,true) ∧ fI m R xs t = (aH m (xs.getD t dx).a).1 ++ tkO (opF xs t):=by
 have e : bn m R xs t = (aH m (xs.getD t dx).a,true):=by
  unfold bn
  rw [if_neg (by omega),Int.toNat_natCast,if_pos h]
 refine ⟨e,?_⟩;unfold fI tkO;rw [e]
 by_cases h4 : opF xs t = 4
 ·rw [if_pos h4,if_pos h4]; rfl
 ·rw [if_neg h4,if_neg h4]; exact (vK _).symm
theorem yO {t : Nat} (h : (bn m R xs t).2 = true) : aT m.tn (xs.getD t dx).a = 0:=by
 unfold bn at h
 rw [if_neg (by omega),Int.toNat_natCast] at h
 split at h
 ·assumption
 ·cases h
theorem kR (el : Int) (s : Cs) (o : Opn) {c : Int} (a : Int) (l : List Int) (h : isO c = true) : rwE m lo el s o c a l = opE m s o a (tkO c):=by
 have:=aV.1 h
 unfold rwE tkO
 by_cases h4 : c = 4
 ·rw [if_neg (by omega),if_pos h4,if_pos h4]
 ·rw [if_pos (by omega),if_neg h4]
theorem Co {t : Nat} (hO : isO (opF xs t) = true) (he : erA m lo xs R n t = 0) : aT m.tn (xs.getD t dx).a = 0:=by
 have h:=kg he;rw [kR _ _ _ _ _ hO] at h;exact (aI h).1
theorem nE {t : Nat} (hO : isO (opF xs t) = true) (hs : sh t = (stA m lo xs R n t).st) (he : erA m lo xs R n t = 0) : cz m R xs sh t = ((dm m lo xs R n t).B,true):=by
 have hi:=gh (R:=R) t (Co hO he);have ha:=il (ma hO he);have hl:=sZ ha;rw [ByteArray.size_append] at hl;unfold cz
 rw [if_neg (by omega),Int.toNat_natCast,hi.1,hi.2,hs,if_pos (cV.2 ha),cV.2 ha,(vq t hl).1]
 unfold below
 rw [ByteArray.size_append,show (stA m lo xs R n t).st.size - (tkO (opF xs t)).size - (aH m (xs.getD t dx).a).1.size = (stA m lo xs R n t).st.size - ((aH m (xs.getD t dx).a).1.size + (tkO (opF xs t)).size) by omega]
 rfl
theorem ql (hG : Good (opF xs) n) {j : Nat} (hj : j < n) (he : ∀ i,i < j → erA m lo xs R n i = 0) (hs : ∀ i,i < j → sh i = (stA m lo xs R n i).st) :
  cz m R xs sh (top (stk (opF xs) j)) = ((aA (stA m lo xs R n j)).B,true) ∧ (bn m R xs (top (stk (opF xs) j))).1.2 = (aA (stA m lo xs R n j)).R:=by
 rcases bH (opF xs) j with h0 | ⟨t,ht,hOt,h0⟩
 ·rw [gi (dw hG hj) h0,h0];exact ⟨rfl,rfl⟩
 ·rw [dQ (dw hG hj) h0,h0];refine ⟨nE hOt (hs t ht) (he t ht),?_⟩
  show (bn m R xs (t : Int)).1.2 = _
  rw [(gh (R:=R) t (Co hOt (he t ht))).1];rfl
theorem o8 (hG : Good (opF xs) n) {j : Nat} (hj : j < n) (he : ∀ i,i < j → erA m lo xs R n i = 0) (a : Int) :
  ((ltV m R xs j a).2 = true ↔ bB (stA m lo xs R n j) a = 0) ∧ (bB (stA m lo xs R n j) a = 0 → (ltV m R xs j a).1 = brg (bm (stA m lo xs R n j) a)):=by
 have hok:=dw hG hj;have hl:=DR (m:=m) (lo:=lo) (R:=R) (n:=n) hok
 by_cases h0 : a < 0
 ·have e : (ltV m R xs j a).2 = false:=by
   unfold ltV dP;rw [if_pos h0]
  have e2 : bB (stA m lo xs R n j) a = 31:=by unfold bB; rw [hl,if_neg (by omega)]
  rw [e,e2]
  exact ⟨⟨fun h => (by cases h),fun h => (by cases h)⟩,fun h => (by cases h)⟩
 ·by_cases h1 : a ≤ (stk (opF xs) j).length
  ·have e : dP (opF xs) j a = ((eA (opF xs) j).getD a.toNat 0,true):=by
    unfold dP;rw [if_neg h0,if_pos h1]
   have e2 : bB (stA m lo xs R n j) a = 0:=by unfold bB; rw [hl,if_pos (by omega)]
   unfold ltV;rw [e,e2]
   refine ⟨⟨fun _ => rfl,fun _ => rfl⟩,fun _ => ?_⟩
   dsimp only
   obtain ⟨k,rfl⟩ : ∃ k : Nat,a = k:=⟨a.toNat,by omega⟩
   rw [Int.toNat_natCast]
   rcases Nat.lt_or_ge k (stk (opF xs) j).length with hk | hk
   ·have hs : (stk (opF xs) j)[k]? = some (stk (opF xs) j)[k]:=List.getElem?_eq_getElem hk;have hm:=CH (opF xs) j _ (List.getElem_mem hk);rw [mU hk,De hok hs];generalize (stk (opF xs) j)[k] = t at *;rw [(gh (R:=R) t (Co hm.2 (he t hm.1))).1];unfold brg dm
    by_cases h3 : opF xs t = 3
    ·rw [if_pos ⟨by omega,by rw [Int.toNat_natCast]; exact h3⟩,if_pos h3]
    ·rw [if_neg (fun h => h3 (by have:=h.2; rwa [Int.toNat_natCast] at this)),if_neg h3]
   ·have : k = (stk (opF xs) j).length:=by omega
    subst this
    rw [gj,mY hok,if_neg (fun h => h.1 rfl)]
    rfl
  ·have e : (ltV m R xs j a).2 = false:=by
    unfold ltV dP;rw [if_neg h0,if_neg h1]
   have e2 : bB (stA m lo xs R n j) a = 31:=by unfold bB; rw [hl,if_neg (by omega)]
   rw [e,e2]
   exact ⟨⟨fun h => (by cases h),fun h => (by cases h)⟩,fun h => (by cases h)⟩
theorem CJ (f : Int → ByteArray × Bool) (c : ByteArray) (a : Int) : ((aY f false c [a]).2 = true ↔ (f a).2 = true) ∧ ((f a).2 = true → (aY f false c [a]).1 = (f a).1):=by
 unfold aY
 cases h : (f a).2 with
 | false => exact ⟨⟨fun h => (by cases h),fun h => (by cases h)⟩,fun h => (by cases h)⟩
 | true =>
  rw [if_neg (by simp),if_neg (by simp)]
  exact ⟨⟨fun _ => rfl,fun _ => rfl⟩,fun _ => rfl⟩
theorem oD (f : Int → ByteArray × Bool) : ∀ (l : List Int) (c : ByteArray),((aY f true c l).2 = true ↔ ∀ z ∈ l,(f z).2 = true ∧ (f z).1 = c) ∧ ((aY f true c l).2 = true → (aY f true c l).1 = c)
 | [],c => ⟨⟨fun _ z h => (by cases h),fun _ => rfl⟩,fun _ => rfl⟩
 | z :: l,c => by
  have ih:=oD f l (f z).1;unfold aY
  cases h : (f z).2 with
  | false =>
   rw [if_pos rfl]
   refine ⟨⟨fun h => (by cases h),fun g => ?_⟩,fun h => (by cases h)⟩
   have:=(g z (List.mem_cons_self)).1
   rw [h] at this
   cases this
  | true =>
   rw [if_neg (by simp)]
   by_cases hc : (f z).1 = c
   ·rw [if_neg (fun h => by have:=h.2; rw [eQ.2 hc] at this; cases this)]
    rw [hc] at ih ⊢
    refine ⟨ih.1.trans ⟨fun g y hy => ?_,fun g y hy => g y (List.mem_cons_of_mem _ hy)⟩,ih.2⟩
    rcases List.mem_cons.1 hy with rfl | hy
    ·exact ⟨h,hc⟩
    ·exact g y hy
   ·rw [if_pos ⟨rfl,by cases hb : ((f z).1.toList == c.toList) with | false => rfl | true => exact absurd (eQ.1 hb) hc⟩]
    exact ⟨⟨fun h => (by cases h),fun g => absurd (g z (List.mem_cons_self)).2 hc⟩,fun h => (by cases h)⟩
theorem oV (f : Int → ByteArray × Bool) (c : ByteArray) {l : List Int} (hl : l ≠ []) : ((aY f false c l).2 = true ↔ ∀ z ∈ l,(f z).2 = true ∧ (f z).1 = (f (l.getD 0 0)).1) ∧ ((aY f false c l).2 = true → (aY f false c l).1 = (f (l.getD 0 0)).1):=by
 cases l with
 | nil => exact absurd rfl hl
 | cons z l =>
  have ih:=oD f l (f z).1
  show ((aY f false c (z :: l)).2 = true ↔ ∀ y ∈ z :: l,(f y).2 = true ∧ (f y).1 = (f z).1) ∧ _
  unfold aY
  cases h : (f z).2 with
  | false =>
   rw [if_pos rfl]
   refine ⟨⟨fun h => (by cases h),fun g => ?_⟩,fun h => (by cases h)⟩
   have:=(g z (List.mem_cons_self)).1
   rw [h] at this
   cases this
  | true =>
   rw [if_neg (by simp),if_neg (by simp)]
   refine ⟨ih.1.trans ⟨fun g y hy => ?_,fun g y hy => g y (List.mem_cons_of_mem _ hy)⟩,ih.2⟩
   rcases List.mem_cons.1 hy with rfl | hy
   ·exact ⟨h,rfl⟩
   ·exact g y hy
theorem qp {s : Cs} {l : List Int} : ed s l = 0 ↔ ∀ z ∈ l,bB s z = 0 ∧ brg (bm s z) = brg (bm s (l.getD 0 0)):=by
 unfold ed
 by_cases h1 : (l.all fun n => bB s n == 0) = true
 ·rw [if_pos h1];have a1:=List.all_eq_true.1 h1
  by_cases h2 : (l.all fun n => (brg (bm s n)).toList == (brg (bm s (l.getD 0 0))).toList) = true
  ·rw [if_pos h2];have a2:=List.all_eq_true.1 h2
   exact ⟨fun _ z hz => ⟨beq_iff_eq.1 (a1 z hz),eQ.1 (a2 z hz)⟩,fun _ => rfl⟩
  ·rw [if_neg h2]
   refine ⟨fun h => (by cases h),fun g => absurd (List.all_eq_true.2 fun z hz => ?_) h2⟩
   exact eQ.2 (g z hz).2
 ·rw [if_neg h1]
  refine ⟨fun h => (by cases h),fun g => absurd (List.all_eq_true.2 fun z hz => ?_) h1⟩
  exact beq_iff_eq.2 (g z hz).1
theorem kI {s : ByteArray} (h : Ltr s) (h1 : s.size = 1) : s = ⟨#[119]⟩ ∨ s = ⟨#[108]⟩:=by
 rw [← bM] at h1;obtain ⟨c,hc⟩:=List.length_eq_one_iff.1 h1
 rcases h c (by show c ∈ bl s; rw [hc]; simp) with rfl | rfl
 ·exact .inl (dZ hc)
 ·exact .inr (dZ hc)
theorem vZ {X r : ByteArray} {p : List UInt8} {y : UInt8} (h : bl X = p ++ y :: bl r) : X.extract (X.size - 1 - r.size) (X.size - 1 - r.size + 1) = ⟨#[y]⟩:=by
 have hl : X.size = p.length + 1 + r.size:=by
  rw [← bM,h,List.length_append,List.length_cons,bM]; omega
 apply dZ
 show (X.extract _ _).data.toList = [y]
 rw [ByteArray.data_extract,Array.toList_extract,List.extract_eq_take_drop,show X.data.toList = p ++ y :: bl r from h,show X.size - 1 - r.size = p.length by omega,List.drop_left,show p.length + 1 - p.length = 1 by omega]
 rfl
end
end Go.Proofs.YtepnnenohjfkbaaGreatDoor
