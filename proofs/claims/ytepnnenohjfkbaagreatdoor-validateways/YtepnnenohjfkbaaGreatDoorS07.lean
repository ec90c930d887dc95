/-
  Texts Zc Zd.
-/
import Derived.ArgAppend
import Derived.Below
import Derived.BigQuiet
import Derived.Deep.AppendLies
import Derived.Deep.CutRange
import Derived.Deep.OwnRows
import Derived.Deep.QuietTactic
import Derived.Deep.RegionHeld3
import Derived.Deep.RegionWith
import Derived.Defers
import Derived.Ground.Names2Prog
import Derived.Handy
import Derived.KernelRfl
import Derived.Laws.AppendOwnNone
import Derived.Laws.BitsAllLaws
import Derived.Laws.BytesArg
import Derived.Lib.Bytealg
import Derived.Lib.CutLaws
import Derived.Lib.SlBytesConst
import Derived.LoopIn
import Derived.LoopNIn
import Derived.OwnWalkIn
import Derived.RangeFuncBox
import Derived.RangeFuncCalls
import Derived.RangeFuncLeaves
import Derived.RangeFuncWrites
import Derived.Recover
import Derived.RegionDies
import Derived.RowKit
import Derived.Shelf.Abstract
import Derived.Shelf.LaysM
import Derived.Shelf.RegionOpen
import Derived.Shelf.Slices.Cells
import Derived.Shelf.Slices.CompactI
import Derived.Shelf.Slices.In.SortNone
import Derived.Shelf.Sort.Plain
import Derived.Shelf.Strings.Search1
import Derived.Shelf.Strings.Search2
import Derived.Shelf.Strings.Search3
import Derived.Shelf.Strings.Shaped
import Derived.Shelf.Unicode.DecodeSlow
import Derived.Sort.OwnSortedInts
import Derived.TacticsInMore
import Derived.Test.YtepnnenohjfkbaaGreatDoorProg
import Derived.WalkKit
import Derived.WalkLawsBesides
import Derived.WalkMore
import Derived.WalkSpells
import Derived.Test.YtepnnenohjfkbaaGreatDoorR33
import Derived.Test.YtepnnenohjfkbaaGreatDoorS00
import Derived.Test.YtepnnenohjfkbaaGreatDoorS01
import Derived.Test.YtepnnenohjfkbaaGreatDoorS05
import Derived.Test.YtepnnenohjfkbaaGreatDoorS06
set_option linter.unusedVariables false
set_option maxRecDepth 100000
set_option maxHeartbeats 16000000
namespace Go.Proofs.YtepnnenohjfkbaaGreatDoor
open Go.RowKit
theorem ends_iff {s t : ByteArray} : ends s t = true ↔ bl t <:+ bl s:=by
 unfold ends
 rw [Bool.and_eq_true,decide_eq_true_eq,beq_iff_eq,ba_toList,ba_toList]
 show t.size ≤ s.size ∧ bl (s.extract (s.size - t.size) s.size) = bl t ↔ _
 rw [bl_drop]
 constructor
 ·intro ⟨h1,h2⟩
  rw [← h2]
  exact List.drop_suffix _ _
 ·intro h
  have hl:=h.length_le
  rw [bl_len,bl_len] at hl
  refine ⟨hl,?_⟩
  have:=List.suffix_iff_eq_drop.1 h
  rw [bl_len,bl_len] at this
  exact this.symm
theorem ask_ends {s : Cs} {o : Opn} {t : ByteArray} (h : askE s o t = 0) : bl t <:+ bl s.st:=by
 unfold askE at h
 split at h
 ·rename_i hb
  unfold topB at hb
  rw [Bool.and_eq_true] at hb
  have:=ends_iff.1 hb.2
  rw [bl_drop] at this
  exact this.trans (List.drop_suffix _ _)
 ·cases h
theorem suf_w {s x : ByteArray} (h : bl (x ++ wT) <:+ bl s) : bl wT <:+ bl s ∧ bl x <:+ bl (s.extract 0 (s.size - 1)):=by
 rw [bl_app] at h
 refine ⟨(List.suffix_append _ _).trans h,?_⟩
 obtain ⟨r,hr⟩:=h
 rw [bl_take,← bl_len,← hr]
 have e : bl wT = [119]:=rfl
 rw [e,← List.append_assoc,List.length_append,List.length_singleton,Nat.add_sub_cancel,List.take_left]
 exact List.suffix_append _ _
theorem lef_eq {s : Cs} {o : Opn} (h : lefE s o = 0) : s.st = o.B ++ o.R:=by
 unfold lefE at h
 split at h
 ·rename_i hb
  rw [beq_iff_eq,ba_toList,ba_toList] at hb
  exact ba_ext hb
 ·cases h
section
variable {m : MM} {lo : List Int} {xs : List Inx} {R : ByteArray} {n : Nat}
abbrev TyS (m : MM) : Prop:=∀ a,(tyAt m a).1.size ≤ 8 ∧ (tyAt m a).2.size ≤ 8
theorem efV_put (hT : TyS m) (s : Cs) (o : Opn) {c : Int} (a : Int) (h0 : 0 ≤ c) (h1 : c ≤ 255) : (efV m lo s o c a).2.size ≤ 8:=by
 unfold efV
 split
 ·exact (hT _).2
 ·split
  ·exact (hT _).2
  ·split
   ·exact Nat.zero_le _
   ·split
    ·exact Nat.le_trans (letV_le s o 1) (by omega)
    ·split
     ·exact Nat.le_trans (hldR_le c _ (ltr_le _)) (by omega)
     ·split
      ·exact Nat.le_trans (hldR_le c _ (ltr_le _)) (by omega)
      ·exact (of_le h0 h1).2
theorem st_open {t : Nat} (hO : isO (opF xs t) = true) : (stA m lo xs R n (t + 1)).st = (stA m lo xs R n t).st.extract 0 ((stA m lo xs R n t).st.size - (tkO (opF xs t)).size):=by
 have e : (stA m lo xs R n (t + 1)) = rwS m lo (visS (atPc (stA m lo xs R n t) t)) (topO (stA m lo xs R n t)) (opF xs t) (xs.getD t dx).a:=rfl
 rw [e,rwS_open m lo _ _ _ hO]; rfl
theorem st_end {j : Nat} (h6 : opF xs j = 6) : (stA m lo xs R n (j + 1)).st = (stA m lo xs R n j).st:=by
 have e : (stA m lo xs R n (j + 1)) = rwS m lo (visS (atPc (stA m lo xs R n j) j)) (topO (stA m lo xs R n j)) (opF xs j) (xs.getD j dx).a:=rfl
 rw [e,h6,rwS_end]; rfl
theorem rw_zero {i : Nat} (he : erA m lo xs R n i = 0) : rwE m lo (elF (opF xs) n (topO (stA m lo xs R n i)).pc.toNat) (visS (atPc (stA m lo xs R n i) i)) (topO (stA m lo xs R n i)) (opF xs i) (xs.getD i dx).a (xs.getD i dx).l = 0:=erA_zero he
theorem st_lef {j : Nat} (h56 : opF xs j = 5 ∨ opF xs j = 6) (he : erA m lo xs R n j = 0) : (stA m lo xs R n j).st = (topO (stA m lo xs R n j)).B ++ (topO (stA m lo xs R n j)).R:=by
 have h:=rw_zero he
 rcases h56 with h5 | h6
 ·rw [h5] at h
  exact lef_eq (s:=visS (atPc (stA m lo xs R n j) j)) h
 ·rw [h6] at h
  exact lef_eq (s:=visS (atPc (stA m lo xs R n j) j)) (orE_zero h).1
theorem st_else {j : Nat} (h5 : opF xs j = 5) : (stA m lo xs R n (j + 1)).st = (topO (stA m lo xs R n j)).B ++ (topO (stA m lo xs R n j)).P:=by
 have e : (stA m lo xs R n (j + 1)) = rwS m lo (visS (atPc (stA m lo xs R n j) j)) (topO (stA m lo xs R n j)) (opF xs j) (xs.getD j dx).a:=rfl
 rw [e,h5]; rfl
theorem at_end (hG : Good (opF xs) n) (he : ∀ i,i < n → erA m lo xs R n i = 0) {t : Nat} (ht : t < n) (hO : isO (opF xs t) = true) :
  ∃ j : Nat,enF (opF xs) n t = j ∧ t < j ∧ j < n - 1 ∧ (stA m lo xs R n j).st = (opnAt m lo xs R n t).B ++ (tyAt m (xs.getD t dx).a).2 ∧ (stA m lo xs R n (j + 1)).st = (opnAt m lo xs R n t).B ++ (tyAt m (xs.getD t dx).a).2:=by
 obtain ⟨j,h1,h2,h3,h4,h5,_⟩:=good_open hG ht hO
 have e:=st_lef (.inr h4) (he j (by omega))
 rw [topO_of (okp_lt hG (by omega)) h5] at e
 exact ⟨j,h1,h2,h3,e,(st_end h4).trans e⟩
theorem plc_ok (hG : Good (opF xs) n) (he : ∀ i,i < n → erA m lo xs R n i = 0) (hT : TyS m) {i t : Nat} (hi : i < n) (ht : t ∈ stk (opF xs) i) :
  ∃ k : Nat,plc (opF xs) n (t : Int) = k ∧ k < n ∧ (stA m lo xs R n k).st.size ≤ (stA m lo xs R n i).st.size + 8:=by
 obtain ⟨hti,hO⟩:=stk_mem _ _ _ ht
 have hb:=pre_le ((pre_main hG he i hi).1 t ht)
 have hm:=((pre_main hG he t (by omega)).2 hO).2
 have hB:=(opn_B t hm).2
 have h8:=hT (xs.getD t dx).a
 unfold plc
 rw [if_neg (by omega),Int.toNat_natCast]
 obtain ⟨j,h1,h2,h3,h4,h5⟩:=at_end hG he (show t < n by omega) hO
 by_cases h : opF xs t = 3
 ·rw [if_pos h]
  refine ⟨t + 1,by omega,by omega,?_⟩
  rw [st_open hO,ByteArray.size_extract]
  omega
 ·rw [if_neg h,h1]
  refine ⟨j + 1,by omega,by omega,?_⟩
  rw [h5,ByteArray.size_append]
  omega
theorem brn_ok (hG : Good (opF xs) n) (he : ∀ i,i < n → erA m lo xs R n i = 0) (hT : TyS m) {i : Nat} (hi : i < n) {a z : Int} (hz : z ∈ brn (opF xs) n i a) :
  (z = n ∧ labO (stA m lo xs R n i) a = bodyR R) ∨ ∃ k : Nat,z = k ∧ k < n ∧ (stA m lo xs R n k).st.size ≤ (stA m lo xs R n i).st.size + 8:=by
 unfold brn at hz
 split at hz
 ·rename_i ha
  rw [labs_length] at ha
  obtain ⟨k,rfl⟩ : ∃ k : Nat,a = k:=⟨a.toNat,by omega⟩
  rw [Int.toNat_natCast,List.mem_singleton] at hz
  by_cases hk : k < (stk (opF xs) i).length
  ·have e : (labz (opF xs) i).getD k (-1) = ((stk (opF xs) i)[k] : Nat):=by
    unfold labz
    rw [List.getD_eq_getElem?_getD,List.getElem?_append_left (by simp; omega),List.getElem?_map,List.getElem?_eq_getElem hk]
    rfl
   rw [e] at hz
   obtain ⟨q,h1,h2,h3⟩:=plc_ok hG he hT hi (List.getElem_mem hk)
   exact .inr ⟨q,hz.trans h1,h2,h3⟩
  ·have hk' : k = (stk (opF xs) i).length:=by omega
   subst hk'
   have e : (labz (opF xs) i).getD (stk (opF xs) i).length (-1) = -1:=by
    unfold labz
    rw [List.getD_eq_getElem?_getD,List.getElem?_append_right (by simp)]
    simp
   rw [e] at hz
   exact .inl ⟨hz,labO_of_body (okp_lt hG hi)⟩
 ·cases hz
def Outz (c : Int) (s R : ByteArray) : Prop:=if c = 8 ∨ c = 9 then ends s wT = true ∧ ends (s.extract 0 (s.size - 1)) R = true else ends s R = true
theorem brg_body : brg (bodyR R) = R:=rfl
theorem way_ok (hG : Good (opF xs) n) (he : ∀ i,i < n → erA m lo xs R n i = 0) (hT : TyS m) {i : Nat} (hi : i < n) (h0 : 0 ≤ opF xs i) (h1 : opF xs i ≤ 255) {z : Int} (hz : z ∈ pls (opF xs) n i (opF xs i) (xs.getD i dx).a (xs.getD i dx).l) :
  (z = n ∧ Outz (opF xs i) (stA m lo xs R n i).st R) ∨ ∃ k : Nat,z = k ∧ k < n ∧ (stA m lo xs R n k).st.size ≤ (stA m lo xs R n i).st.size + 8:=by
 have hr:=rw_zero (he i hi)
 have hok:=okp_lt hG hi
 have hp:=pre_main hG he i hi
 have e : (stA m lo xs R n (i + 1)) = rwS m lo (visS (atPc (stA m lo xs R n i) i)) (topO (stA m lo xs R n i)) (opF xs i) (xs.getD i dx).a:=rfl
 have lab : ∀ a,labO (visS (atPc (stA m lo xs R n i) i)) a = labO (stA m lo xs R n i) a:=fun a => rfl
 have bod : bodyO (visS (atPc (stA m lo xs R n i) i)) = bodyR R:=bodyO_of hok
 generalize hc : opF xs i = c at *
 unfold pls at hz
 by_cases c0 : c = 0
 ·rw [if_pos c0] at hz; cases hz
 rw [if_neg c0] at hz
 by_cases c4 : c = 4
 ·rw [if_pos c4] at hz
  have hO : isO (opF xs i) = true:=isO_iff.2 (by omega)
  have hlt:=good_last hG hi (by omega)
  have hB:=(opn_B i (by rw [hc]; exact (hp.2 (by rw [← hc]; exact hO)).2)).2
  have h8:=hT (xs.getD i dx).a
  have hm:=(hp.2 (by rw [← hc]; exact hO)).2
  rw [hc] at hB
  right
  rcases List.mem_cons.1 hz with rfl | hz
  ·refine ⟨i + 1,by omega,by omega,?_⟩
   rw [st_open hO,ByteArray.size_extract]; omega
  ·rw [List.mem_singleton] at hz
   unfold oth at hz
   rcases (iv_of hG.2.1).els i with h2 | ⟨j,h2,h3,h4,h5,h6,h7,_⟩
   ·rw [if_pos (by rw [good_el hG]; exact h2)] at hz
    obtain ⟨j,q1,q2,q3,q4,_⟩:=at_end hG he hi hO
    refine ⟨j,by rw [hz,q1],by omega,?_⟩
    rw [q4,ByteArray.size_append]; omega
   ·rw [good_el hG,h2,if_neg (by omega)] at hz
    refine ⟨j + 1,by omega,by omega,?_⟩
    rw [st_else h6,topO_of (okp_lt hG (by omega)) h7,ByteArray.size_append]
    have : (opnAt m lo xs R n i).P = (tyAt m (xs.getD i dx).a).1:=rfl
    rw [this]; omega
 rw [if_neg c4] at hz
 by_cases c5 : c = 5
 ·rw [if_pos c5,List.mem_singleton] at hz
  right
  have hlt:=good_last hG hi (by omega)
  obtain ⟨t,q1,q2,q3,q4⟩:=er_else (by omega) (hG.2.1 i hlt).1
  have hO : isO (opF xs t) = true:=isO_iff.2 (by omega)
  have hel : elF (opF xs) n t = i:=by
   obtain ⟨t',a1,a2⟩:=(iv_of hG.2.1).elp i hlt (by omega)
   rcases (iv_of hG.2.1).els t' with h2 | ⟨j,h2,h3,h4,h5,h6,h7,_⟩
   ·omega
   ·have : j = i:=by omega
    subst this
    rw [h7] at q1
    have : t' = t:=by injection q1
    subst this
    rw [good_el hG]; exact a2
  obtain ⟨j,b1,b2,b3,b4,_⟩:=at_end hG he (show t < n by omega) hO
  have hen : enF (opF xs) n i = enF (opF xs) n t:=by
   rcases good_els (i:=t) hG with h2 | ⟨j',h2,_,_,_,_,h7⟩
   ·omega
   ·have : j' = i:=by omega
    subst this
    exact h7
  refine ⟨j,by rw [hz,hen,b1],by omega,?_⟩
  have hs:=st_lef (.inl (by omega)) (he i hi)
  rw [topO_of hok q1] at hs
  rw [b4,hs]
  show ((opnAt m lo xs R n t).B ++ (tyAt m (xs.getD t dx).a).2).size ≤ ((opnAt m lo xs R n t).B ++ (tyAt m (xs.getD t dx).a).2).size + 8
  omega
 rw [if_neg c5] at hz
 by_cases c8 : c = 8
 ·rw [if_pos c8] at hz
  subst c8
  have ha:=(orE_zero (orE_zero hr).2).1
  rcases List.mem_cons.1 hz with rfl | hz
  ·right
   have hlt:=good_last hG hi (by omega)
   refine ⟨i + 1,by omega,by omega,?_⟩
   rw [e]
   show ((stA m lo xs R n i).st.extract 0 _).size ≤ _
   rw [ByteArray.size_extract]; omega
  ·rcases brn_ok hG he hT hi hz with ⟨h2,h3⟩ | h2
   ·rw [lab,h3,brg_body] at ha
    have:=suf_w (ask_ends ha)
    exact .inl ⟨h2,by unfold Outz; rw [if_pos (.inl rfl)]; exact ⟨ends_iff.2 this.1,ends_iff.2 this.2⟩⟩
   ·exact .inr h2
 rw [if_neg c8] at hz
 by_cases c7 : c = 7
 ·rw [if_pos c7] at hz
  subst c7
  have ha:=(orE_zero (orE_zero hr).2).1
  rcases brn_ok hG he hT hi hz with ⟨h2,h3⟩ | h2
  ·rw [lab,h3,brg_body] at ha
   exact .inl ⟨h2,by unfold Outz; rw [if_neg (by decide)]; exact ends_iff.2 (ask_ends ha)⟩
  ·exact .inr h2
 rw [if_neg c7] at hz
 by_cases c9 : c = 9
 ·rw [if_pos c9] at hz
  subst c9
  obtain ⟨hcom,hr2⟩:=orE_zero hr
  have ha:=(orE_zero hr2).1
  obtain ⟨a,hal,hza⟩:=List.mem_flatMap.1 hz
  rcases brn_ok hG he hT hi hza with ⟨h2,h3⟩ | h2
  ·unfold comE at hcom
   split at hcom
   ·split at hcom
    ·rename_i hall
     have:=List.all_eq_true.1 hall a hal
     rw [beq_iff_eq,ba_toList,ba_toList,lab,h3,brg_body] at this
     have hx:=ba_ext this
     rw [← hx] at ha
     have:=suf_w (ask_ends ha)
     exact .inl ⟨h2,by unfold Outz; rw [if_pos (.inr rfl)]; exact ⟨ends_iff.2 this.1,ends_iff.2 this.2⟩⟩
    ·cases hcom
   ·cases hcom
  ·exact .inr h2
 rw [if_neg c9] at hz
 have hout : Outz c (stA m lo xs R n i).st R ↔ ends (stA m lo xs R n i).st R = true:=by unfold Outz; rw [if_neg (by omega)]
 by_cases c10 : c = 10
 ·rw [if_pos c10,List.mem_singleton] at hz
  left
  refine ⟨hz,hout.2 ?_⟩
  subst c10
  have ha:=(orE_zero hr).1
  rw [bod,brg_body] at ha
  exact ends_iff.2 (ask_ends ha)
 rw [if_neg c10,List.mem_singleton] at hz
 by_cases hl : i = n - 1
 ·left
  refine ⟨by rw [hz]; omega,hout.2 ?_⟩
  subst hl
  have hs:=st_lef (.inr hG.2.2.2.1) (he _ hi)
  rw [topO_body hok hG.2.2.2.2] at hs
  rw [hs,ends_iff,bl_app]
  exact List.suffix_append _ _
 ·right
  refine ⟨i + 1,by omega,by omega,?_⟩
  cases hO : isO c with
  | true =>
   rw [st_open (by rw [hc]; exact hO),ByteArray.size_extract]; omega
  | false =>
   by_cases c6 : c = 6
   ·rw [st_end (by rw [hc]; exact c6)]; omega
   ·have hno:=isO_not hO
    have e2 : rwS m lo (visS (atPc (stA m lo xs R n i) i)) (topO (stA m lo xs R n i)) c (xs.getD i dx).a = putS (takeS (visS (atPc (stA m lo xs R n i) i)) (efV m lo (visS (atPc (stA m lo xs R n i) i)) (topO (stA m lo xs R n i)) c (xs.getD i dx).a).1) (efV m lo (visS (atPc (stA m lo xs R n i) i)) (topO (stA m lo xs R n i)) c (xs.getD i dx).a).2:=by
     unfold rwS
     rw [if_neg (by omega),if_neg (by omega),if_neg c5,if_neg c6,if_neg (by omega),if_neg c8]
    have h8:=efV_put (lo:=lo) hT (visS (atPc (stA m lo xs R n i) i)) (topO (stA m lo xs R n i)) (xs.getD i dx).a h0 h1
    unfold rwE at hr
    rw [if_neg (by omega),if_neg c4,if_neg c5,if_neg c6,if_neg c7,if_neg c8,if_neg c9,if_neg c10,if_neg c0] at hr
    rw [e,e2]
    generalize efV m lo (visS (atPc (stA m lo xs R n i) i)) (topO (stA m lo xs R n i)) c (xs.getD i dx).a = E at *
    have h3:=(orE_zero (orE_zero hr).2).2
    show (pushV (takeS (visS (atPc (stA m lo xs R n i) i)) E.1).st E.2).size ≤ _
    rw [push_eq h3,ByteArray.size_append]
    show ((stA m lo xs R n i).st.extract 0 _).size + _ ≤ _
    rw [ByteArray.size_extract]; omega
end
def refR : List RefRow → Int → RefRow
 | [],_ => zeroRow
 | x :: r,c => if c = x.1 then x else refR r c
theorem refLook_eq (c : Int) : ∀ l : List RefRow,(refLook l c).1 = rv (refR l c)
 | [] => rfl
 | x :: r => by
  unfold refLook refR
  split
  ·rfl
  ·exact refLook_eq c r
theorem plain_all : ((List.range 256).all fun k => !(refR refTab (k : Int)).2.2.2.2.2 || ((refR refTab (k : Int)).2.2.2.1.data.toList == (ofV (k : Int)).1.2.2.2.1.data.toList && (refR refTab (k : Int)).2.2.2.2.1.data.toList == (ofV (k : Int)).1.2.2.2.2.1.data.toList && (decide (k = 1) || decide (22 < k)))) = true:=by kernel_rfl
theorem plain_of {c : Int} (h0 : 0 ≤ c) (h1 : c ≤ 255) (h : (refR refTab c).2.2.2.2.2 = true) : (refR refTab c).2.2.2.1 = (ofV c).1.2.2.2.1 ∧ (refR refTab c).2.2.2.2.1 = (ofV c).1.2.2.2.2.1 ∧ (c = 1 ∨ 22 < c):=by
 obtain ⟨k,rfl⟩ : ∃ k : Nat,c = k:=⟨c.toNat,by omega⟩
 have:=List.all_eq_true.1 plain_all k (by simp; omega)
 rw [h] at this
 simp only [Bool.not_true,Bool.false_or,Bool.and_eq_true,Bool.or_eq_true,decide_eq_true_eq,beq_iff_eq] at this
 exact ⟨ba_ext this.1.1,ba_ext this.1.2,by omega⟩
section
variable {m : MM} {lo : List Int} {xs : List Inx} {R : ByteArray} {n : Nat}
theorem plain_ok (hG : Good (opF xs) n) (he : ∀ i,i < n → erA m lo xs R n i = 0) {i : Nat} (hi : i < n) (h0 : 0 ≤ opF xs i) (h1 : opF xs i ≤ 255) (hp : (refR refTab (opF xs i)).2.2.2.2.2 = true) :
  ends (stA m lo xs R n i).st (refR refTab (opF xs i)).2.2.2.1 = true ∧ i + 1 < n ∧
   (stA m lo xs R n (i + 1)).st = (stA m lo xs R n i).st.extract 0 ((stA m lo xs R n i).st.size - (refR refTab (opF xs i)).2.2.2.1.size) ++ (refR refTab (opF xs i)).2.2.2.2.1:=by
 obtain ⟨e1,e2,e3⟩:=plain_of h0 h1 hp
 have hr:=rw_zero (he i hi)
 have e : (stA m lo xs R n (i + 1)) = rwS m lo (visS (atPc (stA m lo xs R n i) i)) (topO (stA m lo xs R n i)) (opF xs i) (xs.getD i dx).a:=rfl
 have hlt:=good_last hG hi (by omega)
 rw [e1,e2,e]
 clear e1 e2 hp e
 generalize opF xs i = c at *
 have eV : efV m lo (visS (atPc (stA m lo xs R n i) i)) (topO (stA m lo xs R n i)) c (xs.getD i dx).a = ((ofV c).1.2.2.2.1,(ofV c).1.2.2.2.2.1):=by
  unfold efV
  rw [if_neg (by omega),if_neg (by omega),if_neg (by omega),if_neg (by omega),if_neg (by omega),if_neg (by omega)]
 unfold rwE at hr
 unfold rwS
 rw [if_neg (by omega),if_neg (by omega),if_neg (by omega),if_neg (by omega),if_neg (by omega),if_neg (by omega),if_neg (by omega),if_neg (by omega),if_neg (by omega)] at hr
 rw [if_neg (by omega),if_neg (by omega),if_neg (by omega),if_neg (by omega),if_neg (by omega),if_neg (by omega)]
 rw [eV] at hr ⊢
 generalize (ofV c).1.2.2.2.1 = p at *
 generalize (ofV c).1.2.2.2.2.1 = q at *
 obtain ⟨h2,h3⟩:=orE_zero (orE_zero hr).2
 refine ⟨ends_iff.2 (ask_ends h2),by omega,?_⟩
 show pushV _ _ = _
 rw [push_eq h3]
 rfl
theorem floor_ok (hG : Good (opF xs) n) (he : ∀ i,i < n → erA m lo xs R n i = 0) {i t : Nat} {r : List Nat} (hi : i < n) (hs : stk (opF xs) i = t :: r) :
  ∃ k : Nat,(stA m lo xs R n n).fl t = k ∧ k ≤ (stA m lo xs R n t).st.size ∧ bl ((stA m lo xs R n t).st.extract 0 k) <+: bl (stA m lo xs R n i).st:=by
 obtain ⟨h1,h2,_⟩:=stk_head hs
 have hm:=(pre_main hG he t (by omega)).2 h2
 have hB:=opn_B t hm.2
 refine ⟨(opnAt m lo xs R n t).B.size,fl_all n t (by omega) h2,by omega,?_⟩
 rw [hB.2,← hB.1]
 exact (pre_main hG he i hi).1 t (by rw [hs]; simp)
end
theorem begins14 (s t : ByteArray) (w : World) (hs : s.size ≤ 1000000) (h : bl t <+: bl s) : Calls Tryz.prog 14 #[.string s,.string t] w fun e w' => e = .returned (.bool true) ∧ w' = w:=by
 have hle:=pre_le h
 have he : (s.extract 0 t.size).toList = t.toList:=by
  rw [ba_toList,ba_toList]
  show bl _ = bl _
  rw [bl_take,← bl_len]
  exact (List.prefix_iff_eq_take.1 h).symm
 have e2 : s.extract 0 t.size = t:=by
  apply ba_ext
  rw [← ba_toList,← ba_toList]; exact he
 have g1 : ((t.size : Int) ≤ (s.size : Int)):=by omega
 go_enter Tryz.func14,Tryz.ntmps14
 go_wp2
 go_ret
 exact ⟨rfl,rfl⟩
end Go.Proofs.YtepnnenohjfkbaaGreatDoor
