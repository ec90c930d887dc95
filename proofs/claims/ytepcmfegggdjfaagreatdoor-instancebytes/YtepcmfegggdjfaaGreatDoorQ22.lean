/-
  Texts Sc Wl.
-/
import Derived.Test.YtepcmfegggdjfaaGreatDoorQ07
import Derived.Test.YtepcmfegggdjfaaGreatDoorQ12
import Derived.Test.YtepcmfegggdjfaaGreatDoorQ19
import Derived.Test.YtepcmfegggdjfaaGreatDoorQ21
set_option linter.unusedVariables false
set_option maxRecDepth 100000
set_option maxHeartbeats 16000000
namespace Go.Proofs.YtepcmfegggdjfaaGreatDoor
open Go.RowKit
def touchT (ah : List DaM) (v : Int) : Bool:=match ah.getLast? with | none => false | some y => decide (v ≤ y.1 + (y.2.2.length : Int))
def chkDaT (room : Int) (ah : List DaM) (x : DaM) : Int :=
 if x.1 < 0 ∨ room < x.1 then 17 else if touchT ah x.1 = true then 18 else if room - x.1 < (x.2.2.length : Int) then 13 else if x.2.2.length = 0 then 17 else 0
def encDaT (x : DaM) : List Int:=uvar x.1 ++ (uvar x.2.2.length ++ x.2.2)
theorem encDaT_le {room : Int} {ah : List DaM} {x : DaM} (hr : room ≤ 262144) (h : chkDaT room ah x = 0) : (encDaT x).length ≤ 300000:=by
 unfold chkDaT at h
 split at h
 ·cases h
 ·split at h
  ·cases h
  ·split at h
   ·cases h
   ·have a:=uvar_len x.1
    have b:=uvar_len x.2.2.length
    simp only [encDaT,List.length_append]
    omega
theorem touch_eq {xs : List DaM} {ys : List (Int × SL)} {j : Nat} (hj : j ≤ xs.length) (hl : ys.length = j) (h : ∀ (i : Nat) y,ys[i]? = some y → ∃ x,xs[i]? = some x ∧ okDa x y) (v : Int) : touchM ys v = touchT (xs.take j) v:=by
 unfold touchM touchT
 rcases Nat.eq_zero_or_pos j with h0 | h0
 ·subst h0
  have : ys = []:=List.eq_nil_of_length_eq_zero hl
  subst this
  simp
 ·obtain ⟨y,hy⟩ : ∃ y,ys[j - 1]? = some y:=⟨_,List.getElem?_eq_getElem (by omega)⟩
  obtain ⟨x,hx,hok⟩:=h (j - 1) y hy
  have e1 : ys.getLast? = some y:=by rw [List.getLast?_eq_getElem?,hl]; exact hy
  have e2 : (xs.take j).getLast? = some x:=by
   rw [List.getLast?_eq_getElem?,List.length_take]
   have e : min j xs.length - 1 = j - 1:=by omega
   rw [e,List.getElem?_take_of_lt (by omega)]
   exact hx
  rw [e1,e2]
  simp only [hok.1,hok.2]
structure DaOk (w : World) (R g : Nat) (x : DaM) : Prop where
 r0 : -9223372036854775808 ≤ x.1
 r1 : x.1 < 9223372036854775808
 seg : Seg w x.2.1.1 x.2.1.2.1 x.2.1.2.2 x.2.2
 ne : ∀ b off c,nz x.2.1.2.1 x.2.1.1 = some ⟨b,off,c⟩ → b ≠ R ∧ b ≠ g
 lt : ∀ b off c,nz x.2.1.2.1 x.2.1.1 = some ⟨b,off,c⟩ → b < w.heap.size
theorem each_exports (R g cap : Nat) (bs : List Int) (n : Nat) (A : Nat) (w : World) (O : Nat) (fa : Option Addr) (fn fc : Nat) (xs : List Ex) (h : Wr w R g cap bs) (hb : bs.length + 300000000000 ≤ 1099511627776) (hn : n ≤ 1000) (hA : w.cell? ⟨A,0,none⟩ = some (cW R)) (hAR : A ≠ R) (hAg : A ≠ g) (hO : w.cell? ⟨O,5,none⟩ = some (.slice fa fn fc)) (hOR : O ≠ R) (hOg : O ≠ g) (hfn : fn ≤ 100000) (hr : ∀ (j : Nat) x,xs[j]? = some x → -9223372036854775808 ≤ x.2 ∧ x.2 < 9223372036854775808) (hl : xs.length = n) (e : Ex → List Int) (k : Nat) (he : ∀ (i : Nat) y,xs[i]? = some y → i < k → e y = (encEx) y) (hall : ∀ (i : Nat) y,xs[i]? = some y → i < k → (fun (ah : List Ex) x => chkEx fn ah x) (xs.take i) y = 0)
  (j : Nat) (x : Ex) (hx : xs[j]? = some x) (hjk : j < k) : EachEx R g w 116 #[.pointer (some ⟨A,0,none⟩),.pointer (some ⟨O,0,none⟩)] bs n xs e (fun x y => y = x) j x:=by
 intro ys W g1 cap1 aa ac hyl hys hst hwr hrow hab
 have hlt:=lt_of_get hx
 have hchk:=hall j x hx hjk
 try simp only at hchk
 have henc:=he j x hx hjk
 have hlen : ((xs.take j).flatMap e).length ≤ j * 100:=by
  have:=flat_le e 100 (xs.take j) (fun i y hi => by
   have hij : i < j:=by have:=lt_of_get hi; simp at this; omega
   rw [List.getElem?_take_of_lt hij] at hi
   rw [he i y hi (by omega)]
   have hc:=hall i y hi (by omega)
   have hs32 : (y).1.size ≤ 32:=by
    simp only at hc
    unfold chkEx at hc
    split at hc
    ·cases hc
    ·omega
   have a1:=encT_le (y).1 32 hs32
   have a2:=uvar_len (y).2
   simp only [encEx,List.length_append]
   omega)
  rw [List.length_take] at this
  have e1 : min j xs.length = j:=by omega
  rwa [e1] at this
 have hu:=uvar_len (n : Int)
 have hbb : (bs ++ uvar n ++ (xs.take j).flatMap e).length ≤ bs.length + 10 + 1000 * 100:=by
  rw [List.length_append,List.length_append]
  have : j * 100 ≤ 1000 * 100:=Nat.mul_le_mul_right _ (by omega)
  omega
 have hrx:=hr j x hx
 have hye:=ok_eq (by omega) hys
 rw [hyl] at hye
 refine (clo148_yes R g1 cap1 _ x aa j ac A O fa fn fc W hwr (hst.cell hA hAR hAg) (hst.cell hO hOR hOg) (fun y => y = x) (bs ++ uvar n ++ (xs.take j).flatMap e ++ e x) (fun W2 hb2 => ?_)).mono ?_
 ·refine (exp149_yes R g1 cap1 _ x.1 x.2 fn aa j ac ys W2 (hwr.later hb2) (by omega) hyl (by omega) (ownS_keep hrow (fun B hB => hb2.block B (lt_of_ownS hrow hB))) (fun b hb' => ⟨by have q1:=(hab b hb').1; have q2:=h.lt; omega,(hab b hb').2⟩) hrx.1 hrx.2 (by omega) (by omega) (by rw [hye]; exact hchk)).mono ?_
  rintro e' w' ⟨he',g',cap',hw',hs'⟩
  refine ⟨x,he',rfl,g',cap',?_,hs'⟩
  rw [henc]
  exact hw'
 ·rintro e' w' ⟨y,he',hy,g',cap',hw',hs'⟩
  exact ⟨y,he',hy,g',cap',hw',hs'⟩
theorem exports_yes (R g cap : Nat) (bs : List Int) (ha : Option Addr) (n hc : Nat) (A : Nat) (w : World) (O : Nat) (fa : Option Addr) (fn fc : Nat) (xs : List Ex) (h : Wr w R g cap bs) (hb : bs.length + 300000000000 ≤ 1099511627776) (hA : w.cell? ⟨A,0,none⟩ = some (cW R)) (hAR : A ≠ R) (hAg : A ≠ g) (hO : w.cell? ⟨O,5,none⟩ = some (.slice fa fn fc)) (hOR : O ≠ R) (hOg : O ≠ g) (hfn : fn ≤ 100000) (hr : ∀ (j : Nat) x,xs[j]? = some x → -9223372036854775808 ≤ x.2 ∧ x.2 < 9223372036854775808) (hmem : AtEx w ha n xs) (hne : ∀ b off c,ha = some ⟨b,off,c⟩ → b ≠ R ∧ b ≠ g) (hx : listE (fun (ah : List Ex) x => chkEx fn ah x) 64 xs = 0) :
  Calls Tryz.prog 115 #[cW R,.slice ha n hc,.int .i64 64,.func (.func 116) #[] #[.pointer (some ⟨A,0,none⟩),.pointer (some ⟨O,0,none⟩)]] w fun e w' => ∃ (aa : Option Addr) (ac : Nat) (ys : List Ex),e = .returned (.slice aa n ac) ∧ ys.length = n ∧ (∀ (i : Nat) y,ys[i]? = some y → ∃ x,xs[i]? = some x ∧ (fun x y => y = x) x y) ∧ ∃ g' cap',Wr w' R g' cap' (bs ++ (uvar n ++ xs.flatMap (encEx))) ∧ Stp R g g' w w':=by
 have hl:=hmem.1
 unfold listE at hx
 split at hx
 ·cases hx
 rename_i hm
 have hall:=firstE_all (fun (ah : List Ex) x => chkEx fn ah x) xs [] hx
 have hall' : ∀ (i : Nat) y,xs[i]? = some y → (fun (ah : List Ex) x => chkEx fn ah x) (xs.take i) y = 0:=fun i y hi => hall i y hi
 refine (list147_yes R g cap bs ha n hc 64 116 _ w xs (encEx) (fun x y => y = x) 100 h (by omega) (by omega) hmem hne (fun _ _ => rfl) (fun j x hj => by
   have hc:=hall' j x hj
   have hs32 : (x).1.size ≤ 32:=by
    simp only at hc
    unfold chkEx at hc
    split at hc
    ·cases hc
    ·omega
   have a1:=encT_le (x).1 32 hs32
   have a2:=uvar_len (x).2
   simp only [encEx,List.length_append]
   omega) (by omega) (by omega)
  (fun j x hj => each_exports R g cap bs n A w O fa fn fc xs h hb (by omega) hA hAR hAg hO hOR hOg hfn hr hl (encEx) (j + 1) (fun _ _ _ _ => rfl) (fun i y hi _ => hall' i y hi) j x hj (by omega))).mono ?_
 rintro e w' ⟨aa,ac,ys,he,hyl,hys,hrow,g',cap',hab,hw',hs'⟩
 exact ⟨aa,ac,ys,he,hyl,hys,g',cap',by simpa [List.append_assoc] using hw',hs'⟩
theorem exports_no (R g cap : Nat) (bs : List Int) (ha : Option Addr) (n hc : Nat) (A : Nat) (w : World) (O : Nat) (fa : Option Addr) (fn fc : Nat) (xs : List Ex) (h : Wr w R g cap bs) (hb : bs.length + 300000000000 ≤ 1099511627776) (hA : w.cell? ⟨A,0,none⟩ = some (cW R)) (hAR : A ≠ R) (hAg : A ≠ g) (hO : w.cell? ⟨O,5,none⟩ = some (.slice fa fn fc)) (hOR : O ≠ R) (hOg : O ≠ g) (hfn : fn ≤ 100000) (hr : ∀ (j : Nat) x,xs[j]? = some x → -9223372036854775808 ≤ x.2 ∧ x.2 < 9223372036854775808) (hmem : AtEx w ha n xs) (hne : ∀ b off c,ha = some ⟨b,off,c⟩ → b ≠ R ∧ b ≠ g) (hx : listE (fun (ah : List Ex) x => chkEx fn ah x) 64 xs ≠ 0) :
  Calls Tryz.prog 115 #[cW R,.slice ha n hc,.int .i64 64,.func (.func 116) #[] #[.pointer (some ⟨A,0,none⟩),.pointer (some ⟨O,0,none⟩)]] w (Throws R g (listE (fun (ah : List Ex) x => chkEx fn ah x) 64 xs) w):=by
 have hl:=hmem.1
 unfold listE at hx ⊢
 by_cases hm : (64 : Int) < xs.length
 ·rw [if_pos hm]
  exact list147_many R g cap bs ha n hc 64 _ w h (by omega)
 rw [if_neg hm] at hx ⊢
 obtain ⟨k,x,h1,h2,h3,h4⟩:=firstE_some (fun (ah : List Ex) x => chkEx fn ah x) xs [] hx
 have hall:=firstE_all (fun (ah : List Ex) x => chkEx fn ah x) (xs.take k) [] h2
 have hall' : ∀ (i : Nat) y,xs[i]? = some y → i < k → (fun (ah : List Ex) x => chkEx fn ah x) (xs.take i) y = 0:=fun i y hi hik => by
  have hh:=hall i y (by rw [List.getElem?_take_of_lt hik]; exact hi)
  have e : (xs.take k).take i = xs.take i:=by rw [List.take_take]; congr 1; omega
  try simp only [List.nil_append,e] at hh
  exact hh
 rw [h4]
 try simp only [List.nil_append] at h3 ⊢
 obtain ⟨E,hE⟩ : ∃ E : Ex → List Int,E = fun y => if ((encEx) y).length ≤ 100 then (encEx) y else []:=⟨_,rfl⟩
 have hEl : ∀ y,(E y).length ≤ 100:=fun y => by
  rw [hE]
  show (if ((encEx) y).length ≤ 100 then (encEx) y else []).length ≤ 100
  split
  ·assumption
  ·simp
 have hEe : ∀ (i : Nat) z,xs[i]? = some z → i < k → E z = (encEx) z:=fun i z hi hik => by
  have hc:=hall' i z hi hik
  have hq : ((encEx) z).length ≤ 100:=by
   have hs32 : (z).1.size ≤ 32:=by
    simp only at hc
    unfold chkEx at hc
    split at hc
    ·cases hc
    ·omega
   have a1:=encT_le (z).1 32 hs32
   have a2:=uvar_len (z).2
   simp only [encEx,List.length_append]
   omega
  rw [hE]
  exact if_pos hq
 refine list147_no R g cap bs ha n hc 64 116 _ w xs E (fun x y => y = x) 100 h (by omega) (by omega) hmem hne (fun _ _ => rfl) (fun j y hj => hEl y) (by omega) (by omega) k x _ h1
  (fun j y hj hjk => each_exports R g cap bs n A w O fa fn fc xs h hb (by omega) hA hAR hAg hO hOR hOg hfn hr hl E k hEe hall' j y hj hjk) ?_
 intro ys W g1 cap1 aa ac hyl hys hst hwr hrow hab
 have hlt:=lt_of_get h1
 have hu:=uvar_len (n : Int)
 have hbb : (bs ++ uvar n ++ (xs.take k).flatMap E).length ≤ bs.length + 10 + 1000 * 100:=by
  have hf:=flat_le E 100 (xs.take k) (fun i y _ => hEl y)
  rw [List.length_take] at hf
  have e1 : min k xs.length = k:=by omega
  rw [e1] at hf
  rw [List.length_append,List.length_append]
  have : k * 100 ≤ 1000 * 100:=Nat.mul_le_mul_right _ (by omega)
  omega
 have hrx:=hr k x h1
 have hye:=ok_eq (by omega) hys
 rw [hyl] at hye
 refine clo148_no R g1 cap1 _ x aa k ac A O fa fn fc W hwr (hst.cell hA hAR hAg) (hst.cell hO hOR hOg) _ (fun W2 hb2 => ?_)
 rw [← hye] at h3 ⊢
 exact exp149_no R g1 cap1 _ x.1 x.2 fn aa k ac ys W2 (hwr.later hb2) (by omega) (by omega) hyl (by omega) (ownS_keep hrow (fun B hB => hb2.block B (lt_of_ownS hrow hB))) hrx.1 hrx.2 (by omega) (by omega) h3
theorem each_data (R g cap : Nat) (bs : List Int) (n : Nat) (A : Nat) (w : World) (O : Nat) (fi : Int) (xs : List DaM) (h : Wr w R g cap bs) (hb : bs.length + 300000000000 ≤ 1099511627776) (hn : n ≤ 1000) (hA : w.cell? ⟨A,0,none⟩ = some (cW R)) (hAR : A ≠ R) (hAg : A ≠ g) (hO : w.cell? ⟨O,3,none⟩ = some (.int .i64 fi)) (hOR : O ≠ R) (hOg : O ≠ g) (hf0 : 0 ≤ fi) (hf1 : fi ≤ 64) (hr : ∀ (j : Nat) x,xs[j]? = some x → DaOk w R g x) (hl : xs.length = n) (e : DaM → List Int) (k : Nat) (he : ∀ (i : Nat) y,xs[i]? = some y → i < k → e y = (encDaT) y) (hall : ∀ (i : Nat) y,xs[i]? = some y → i < k → (fun (ah : List DaM) x => chkDaT (fi * 4096) ah x) (xs.take i) y = 0)
  (j : Nat) (x : DaM) (hx : xs[j]? = some x) (hjk : j < k) : EachDa R g w 113 #[.pointer (some ⟨A,0,none⟩),.pointer (some ⟨O,0,none⟩)] bs n xs e (okDa) j x:=by
 intro ys W g1 cap1 aa ac hyl hys hst hwr hrow hab
 have hlt:=lt_of_get hx
 have hchk:=hall j x hx hjk
 try simp only at hchk
 have henc:=he j x hx hjk
 have hlen : ((xs.take j).flatMap e).length ≤ j * 300000:=by
  have:=flat_le e 300000 (xs.take j) (fun i y hi => by
   have hij : i < j:=by have:=lt_of_get hi; simp at this; omega
   rw [List.getElem?_take_of_lt hij] at hi
   rw [he i y hi (by omega)]
   have hc:=hall i y hi (by omega)
   exact encDaT_le (by omega) hc)
  rw [List.length_take] at this
  have e1 : min j xs.length = j:=by omega
  rwa [e1] at this
 have hu:=uvar_len (n : Int)
 have hbb : (bs ++ uvar n ++ (xs.take j).flatMap e).length ≤ bs.length + 10 + 1000 * 300000:=by
  rw [List.length_append,List.length_append]
  have : j * 300000 ≤ 1000 * 300000:=Nat.mul_le_mul_right _ (by omega)
  omega
 have hrx:=hr j x hx
 have hti:=touch_eq (by omega) hyl hys
 have hys' : ∀ y ∈ ys,0 ≤ y.1 ∧ y.1 ≤ 1099511627776 ∧ y.2.2.1 ≤ 1099511627776:=fun y hy => by
  obtain ⟨i,hi,rfl⟩:=List.getElem_of_mem hy
  obtain ⟨x',hx',hok⟩:=hys i _ (List.getElem?_eq_getElem hi)
  have hcx:=hall i x' hx' (by omega)
  simp only at hcx
  unfold chkDaT at hcx
  split at hcx
  ·cases hcx
  ·split at hcx
   ·cases hcx
   ·split at hcx
    ·cases hcx
    ·rw [hok.1,hok.2]; omega
 have hc2 : (0 ≤ x.1 ∧ x.1 ≤ fi * 4096) ∧ touchT (xs.take j) x.1 = false ∧ (x.2.2.length : Int) ≤ fi * 4096 - x.1 ∧ x.2.2.length ≠ 0:=by
  unfold chkDaT at hchk
  split at hchk
  ·cases hchk
  ·split at hchk
   ·cases hchk
   ·split at hchk
    ·cases hchk
    ·split at hchk
     ·cases hchk
     ·rename_i q1 q2 q3 q4
      exact ⟨⟨by omega,by omega⟩,by simpa using q2,by omega,q4⟩
 refine (clo145_yes R g1 cap1 _ x aa j ac A O fi W hwr (hst.cell hA hAR hAg) (hst.cell hO hOR hOg) hf0 hf1 (fun y => okDa x y) (bs ++ uvar n ++ (xs.take j).flatMap e ++ e x) (fun W2 hb2 => ?_)).mono ?_
 ·refine (data146_yes R g1 cap1 _ x.1 (fi * 4096) x.2.1.1 x.2.1.2.1 x.2.1.2.2 x.2.2 aa j ac ys W2 (hwr.later hb2) (by omega) (by omega) (by omega) hc2.1.1 hc2.1.2 hyl (by omega) hys' (ownS_keep hrow (fun B hB => hb2.block B (lt_of_ownS hrow hB))) (by rw [hti]; exact hc2.2.1)
   ((hrx.seg.kept' hst.k (fun b off c hb' => by have:=hrx.ne b off c hb'; simp; omega)).later hb2 (Nat.le_refl _)) (fun b off c hb' => ⟨(hrx.ne b off c hb').1,hst.ne (hrx.lt b off c hb') (hrx.ne b off c hb').2⟩) hc2.2.2.1 hc2.2.2.2).mono ?_
  rintro e' w' ⟨y,he',hy,g',cap',hw',hs'⟩
  refine ⟨y,he',hy,g',cap',?_,hs'⟩
  rw [henc]
  exact hw'
 ·rintro e' w' ⟨y,he',hy,g',cap',hw',hs'⟩
  exact ⟨y,he',hy,g',cap',hw',hs'⟩
theorem data_yes (R g cap : Nat) (bs : List Int) (ha : Option Addr) (n hc : Nat) (A : Nat) (w : World) (O : Nat) (fi : Int) (xs : List DaM) (h : Wr w R g cap bs) (hb : bs.length + 300000000000 ≤ 1099511627776) (hA : w.cell? ⟨A,0,none⟩ = some (cW R)) (hAR : A ≠ R) (hAg : A ≠ g) (hO : w.cell? ⟨O,3,none⟩ = some (.int .i64 fi)) (hOR : O ≠ R) (hOg : O ≠ g) (hf0 : 0 ≤ fi) (hf1 : fi ≤ 64) (hr : ∀ (j : Nat) x,xs[j]? = some x → DaOk w R g x) (hmem : AtDa w ha n xs) (hne : ∀ b off c,ha = some ⟨b,off,c⟩ → b ≠ R ∧ b ≠ g) (hx : listE (fun (ah : List DaM) x => chkDaT (fi * 4096) ah x) 64 xs = 0) :
  Calls Tryz.prog 112 #[cW R,.slice ha n hc,.int .i64 64,.func (.func 113) #[] #[.pointer (some ⟨A,0,none⟩),.pointer (some ⟨O,0,none⟩)]] w fun e w' => ∃ (aa : Option Addr) (ac : Nat) (ys : List (Int × SL)),e = .returned (.slice aa n ac) ∧ ys.length = n ∧ (∀ (i : Nat) y,ys[i]? = some y → ∃ x,xs[i]? = some x ∧ (okDa) x y) ∧ ∃ g' cap',Wr w' R g' cap' (bs ++ (uvar n ++ xs.flatMap (encDaT))) ∧ Stp R g g' w w':=by
 have hl:=hmem.1
 unfold listE at hx
 split at hx
 ·cases hx
 rename_i hm
 have hall:=firstE_all (fun (ah : List DaM) x => chkDaT (fi * 4096) ah x) xs [] hx
 have hall' : ∀ (i : Nat) y,xs[i]? = some y → (fun (ah : List DaM) x => chkDaT (fi * 4096) ah x) (xs.take i) y = 0:=fun i y hi => hall i y hi
 refine (list144_yes R g cap bs ha n hc 64 113 _ w xs (encDaT) (okDa) 300000 h (by omega) (by omega) hmem hne (fun _ _ => rfl) (fun j x hj => by
   have hc:=hall' j x hj
   exact encDaT_le (by omega) hc) (by omega) (by omega)
  (fun j x hj => each_data R g cap bs n A w O fi xs h hb (by omega) hA hAR hAg hO hOR hOg hf0 hf1 hr hl (encDaT) (j + 1) (fun _ _ _ _ => rfl) (fun i y hi _ => hall' i y hi) j x hj (by omega))).mono ?_
 rintro e w' ⟨aa,ac,ys,he,hyl,hys,hrow,g',cap',hab,hw',hs'⟩
 exact ⟨aa,ac,ys,he,hyl,hys,g',cap',by simpa [List.append_assoc] using hw',hs'⟩
theorem data_no (R g cap : Nat) (bs : List Int) (ha : Option Addr) (n hc : Nat) (A : Nat) (w : World) (O : Nat) (fi : Int) (xs : List DaM) (h : Wr w R g cap bs) (hb : bs.length + 300000000000 ≤ 1099511627776) (hA : w.cell? ⟨A,0,none⟩ = some (cW R)) (hAR : A ≠ R) (hAg : A ≠ g) (hO : w.cell? ⟨O,3,none⟩ = some (.int .i64 fi)) (hOR : O ≠ R) (hOg : O ≠ g) (hf0 : 0 ≤ fi) (hf1 : fi ≤ 64) (hr : ∀ (j : Nat) x,xs[j]? = some x → DaOk w R g x) (hmem : AtDa w ha n xs) (hne : ∀ b off c,ha = some ⟨b,off,c⟩ → b ≠ R ∧ b ≠ g) (hx : listE (fun (ah : List DaM) x => chkDaT (fi * 4096) ah x) 64 xs ≠ 0) :
  Calls Tryz.prog 112 #[cW R,.slice ha n hc,.int .i64 64,.func (.func 113) #[] #[.pointer (some ⟨A,0,none⟩),.pointer (some ⟨O,0,none⟩)]] w (Throws R g (listE (fun (ah : List DaM) x => chkDaT (fi * 4096) ah x) 64 xs) w):=by
 have hl:=hmem.1
 unfold listE at hx ⊢
 by_cases hm : (64 : Int) < xs.length
 ·rw [if_pos hm]
  exact list144_many R g cap bs ha n hc 64 _ w h (by omega)
 rw [if_neg hm] at hx ⊢
 obtain ⟨k,x,h1,h2,h3,h4⟩:=firstE_some (fun (ah : List DaM) x => chkDaT (fi * 4096) ah x) xs [] hx
 have hall:=firstE_all (fun (ah : List DaM) x => chkDaT (fi * 4096) ah x) (xs.take k) [] h2
 have hall' : ∀ (i : Nat) y,xs[i]? = some y → i < k → (fun (ah : List DaM) x => chkDaT (fi * 4096) ah x) (xs.take i) y = 0:=fun i y hi hik => by
  have hh:=hall i y (by rw [List.getElem?_take_of_lt hik]; exact hi)
  have e : (xs.take k).take i = xs.take i:=by rw [List.take_take]; congr 1; omega
  try simp only [List.nil_append,e] at hh
  exact hh
 rw [h4]
 try simp only [List.nil_append] at h3 ⊢
 obtain ⟨E,hE⟩ : ∃ E : DaM → List Int,E = fun y => if ((encDaT) y).length ≤ 300000 then (encDaT) y else []:=⟨_,rfl⟩
 have hEl : ∀ y,(E y).length ≤ 300000:=fun y => by
  rw [hE]
  show (if ((encDaT) y).length ≤ 300000 then (encDaT) y else []).length ≤ 300000
  split
  ·assumption
  ·simp
 have hEe : ∀ (i : Nat) z,xs[i]? = some z → i < k → E z = (encDaT) z:=fun i z hi hik => by
  have hc:=hall' i z hi hik
  have hq : ((encDaT) z).length ≤ 300000:=by
   exact encDaT_le (by omega) hc
  rw [hE]
  exact if_pos hq
 refine list144_no R g cap bs ha n hc 64 113 _ w xs E (okDa) 300000 h (by omega) (by omega) hmem hne (fun _ _ => rfl) (fun j y hj => hEl y) (by omega) (by omega) k x _ h1
  (fun j y hj hjk => each_data R g cap bs n A w O fi xs h hb (by omega) hA hAR hAg hO hOR hOg hf0 hf1 hr hl E k hEe hall' j y hj hjk) ?_
 intro ys W g1 cap1 aa ac hyl hys hst hwr hrow hab
 have hlt:=lt_of_get h1
 have hu:=uvar_len (n : Int)
 have hbb : (bs ++ uvar n ++ (xs.take k).flatMap E).length ≤ bs.length + 10 + 1000 * 300000:=by
  have hf:=flat_le E 300000 (xs.take k) (fun i y _ => hEl y)
  rw [List.length_take] at hf
  have e1 : min k xs.length = k:=by omega
  rw [e1] at hf
  rw [List.length_append,List.length_append]
  have : k * 300000 ≤ 1000 * 300000:=Nat.mul_le_mul_right _ (by omega)
  omega
 have hrx:=hr k x h1
 have hti:=touch_eq (by omega) hyl hys
 have hys' : ∀ y ∈ ys,0 ≤ y.1 ∧ y.1 ≤ 1099511627776 ∧ y.2.2.1 ≤ 1099511627776:=fun y hy => by
  obtain ⟨i,hi,rfl⟩:=List.getElem_of_mem hy
  obtain ⟨x',hx',hok⟩:=hys i _ (List.getElem?_eq_getElem hi)
  have hcx:=hall' i x' hx' (by omega)
  simp only at hcx
  unfold chkDaT at hcx
  split at hcx
  ·cases hcx
  ·split at hcx
   ·cases hcx
   ·split at hcx
    ·cases hcx
    ·rw [hok.1,hok.2]; omega
 have heq : chkDaT (fi * 4096) (xs.take k) x = chkDaM (fi * 4096) ys x.1 x.2.2.length:=by
  unfold chkDaT chkDaM
  rw [hti]
 rw [heq] at h3 ⊢
 refine clo145_no R g1 cap1 _ x aa k ac A O fi W hwr (hst.cell hA hAR hAg) (hst.cell hO hOR hOg) hf0 hf1 _ (fun W2 hb2 => ?_)
 exact data146_no R g1 cap1 _ x.1 (fi * 4096) x.2.1.1 x.2.1.2.1 x.2.1.2.2 x.2.2 aa k ac ys W2 (hwr.later hb2) (by omega) (by omega) (by omega) hrx.r0 hrx.r1 hyl (by omega) hys' (ownS_keep hrow (fun B hB => hb2.block B (lt_of_ownS hrow hB)))
   ((hrx.seg.kept' hst.k (fun b off c hb' => by have:=hrx.ne b off c hb'; simp; omega)).later hb2 (Nat.le_refl _)) (fun b off c hb' => ⟨(hrx.ne b off c hb').1,hst.ne (hrx.lt b off c hb') (hrx.ne b off c hb').2⟩) h3
structure StpL (R L g g' : Nat) (w w' : World) : Prop where
 k : Kept (fun k => k = R ∨ k = g ∨ k = L) w w'
 m : g' = g ∨ w.heap.size ≤ g'
theorem Stp.toL {R L g g' : Nat} {w w' : World} (h : Stp R g g' w w') : StpL R L g g' w w':=⟨h.k.mono (fun k hk => by omega),h.m⟩
theorem StpL.trans {R L g g' g'' : Nat} {w w1 w2 : World} (h : StpL R L g g' w w1) (h' : StpL R L g' g'' w1 w2) : StpL R L g g'' w w2:=by
 refine ⟨h.k.then h'.k (fun k hk ht => ?_),?_⟩
 ·rcases ht with rfl | rfl | rfl
  ·exact .inl rfl
  ·rcases h.m with h | h
   ·exact .inr (.inl h)
   ·omega
  ·exact .inr (.inr rfl)
 ·rcases h'.m with rfl | h2
  ·exact h.m
  ·exact .inr (Nat.le_trans h.k.size h2)
theorem StpL.of_below {R L g : Nat} {w w' : World} (h : Below w.heap.size w w') : StpL R L g g w w':=(Stp.of_below h).toL
theorem StpL.size {R L g g' : Nat} {w w' : World} (h : StpL R L g g' w w') : w.heap.size ≤ w'.heap.size:=h.k.size
theorem StpL.block {R L g g' : Nat} {w w' : World} (h : StpL R L g g' w w') {b : Nat} (hb : b < w.heap.size) (h1 : b ≠ R) (h2 : b ≠ g) (h3 : b ≠ L) : w'.heap[b]? = w.heap[b]?:=h.k.block b hb (by simp [h1,h2,h3])
theorem StpL.cell {R L g g' : Nat} {w w' : World} (h : StpL R L g g' w w') {b o : Nat} {v : Value} (hc : w.cell? ⟨b,o,none⟩ = some v) (h1 : b ≠ R) (h2 : b ≠ g) (h3 : b ≠ L) : w'.cell? ⟨b,o,none⟩ = some v:=h.k.cell hc (by simp [h1,h2,h3])
theorem StpL.ne {R L g g' b : Nat} {w w' : World} (h : StpL R L g g' w w') (hb : b < w.heap.size) (hn : b ≠ g) : b ≠ g':=by
 rcases h.m with rfl | h
 ·exact hn
 ·omega
theorem StpL.throw {R L g g1 : Nat} {w W w5 : World} (h : StpL R L g g1 w W) (hk : Kept (fun k => k = R ∨ k = g1) W w5) : Kept (fun k => k = R ∨ k = g ∨ k = L) w w5:=by
 refine h.k.then hk (fun k hkl hh => ?_)
 rcases hh with rfl | rfl
 ·exact .inl rfl
 ·rcases h.m with h | h
  ·exact .inr (.inl h)
  ·omega
section
variable (R g cap : Nat) (bs : List Int) (ty : Int) (lo : ByteArray) (ca : Option Addr) (cn cc : Nat) (aa : Option Addr) (an ac : Nat) (A O L : Nat) (ta : Option Addr) (tn tc : Nat) (left : Int) (w : World)
theorem clo142_no (h : Wr w R g cap bs) (hA : w.cell? ⟨A,0,none⟩ = some (cW R)) (hO : w.cell? ⟨O,0,none⟩ = some (.slice ta tn tc)) (hL : w.cell? ⟨L,0,none⟩ = some (.int .i64 left)) (er : Int)
  (hcall : ∀ W,Below w.heap.size w W → Calls Tryz.prog 111 #[cW R,.agg #[.int .i64 ty,.string lo,.slice ca cn cc],.slice ta tn tc,.int .i64 left] W (Throws R g er W)) :
  Calls Tryz.prog 110 #[.agg #[.int .i64 ty,.string lo,.slice ca cn cc],.slice aa an ac,.pointer (some ⟨A,0,none⟩),.pointer (some ⟨O,0,none⟩),.pointer (some ⟨L,0,none⟩)] w (Throws R g er w):=by
 obtain ⟨B0,z0,x0,x1⟩:=two_new w (.cells #[.int .i64 ty,.string lo,.slice ca cn cc] 61) (.cells #[.int .i64 0,.string ⟨#[]⟩,.slice none 0 0] 61)
 have hRl:=h.lt
 have hgl:=h.g_lt
 have hA1:=(B0.cell (by exact block_lt_of_cell hA)).trans hA
 have hO1:=(B0.cell (p:=⟨O,0,none⟩) (by exact block_lt_of_cell hO)).trans hO
 have hL1:=(B0.cell (p:=⟨L,0,none⟩) (by exact block_lt_of_cell hL)).trans hL
 have HC:=hid (hcall _ B0)
 obtain ⟨W1,hW1⟩ : ∃ W1,(w.alloc (.cells #[.int .i64 ty,.string lo,.slice ca cn cc] 61)).alloc (.cells #[.int .i64 0,.string ⟨#[]⟩,.slice none 0 0] 61) = W1:=⟨_,rfl⟩
 rw [hW1] at B0 z0 x0 x1 hA1 HC hO1 hL1
 have BW:=hid B0
 obtain ⟨a0,a1,a2,_,_,_⟩:=three_cells x0
 clear h B0 hA hcall hO hL
 go_enter Tryz.func110,Tryz.ntmps110
 go_wp2_with fail
 refine HC.out.mono ?_
 rintro e w2 ⟨⟨q,rfl⟩,hk2⟩
 exact ⟨rfl,⟨q,rfl⟩,(kept_of BW.out).trans hk2⟩
theorem clo142_yes (h : Wr w R g cap bs) (hA : w.cell? ⟨A,0,none⟩ = some (cW R)) (hO : w.cell? ⟨O,0,none⟩ = some (.slice ta tn tc)) (hL : w.cell? ⟨L,0,none⟩ = some (.int .i64 left)) (hLf : w.frozen? ⟨L,0,none⟩ = false) (hLR : L ≠ R) (hLg : L ≠ g) (hl0 : (cn : Int) ≤ left) (hl1 : left ≤ 100000) (new : List Int)
  (hcall : ∀ W,Below w.heap.size w W → Calls Tryz.prog 111 #[cW R,.agg #[.int .i64 ty,.string lo,.slice ca cn cc],.slice ta tn tc,.int .i64 left] W (fun e w' => ∃ (fa : Option Addr) (fc : Nat),e = .returned (.agg #[.int .i64 ty,.string lo,.slice fa cn fc]) ∧ ∃ g' cap',Wr w' R g' cap' new ∧ Stp R g g' W w')) :
  Calls Tryz.prog 110 #[.agg #[.int .i64 ty,.string lo,.slice ca cn cc],.slice aa an ac,.pointer (some ⟨A,0,none⟩),.pointer (some ⟨O,0,none⟩),.pointer (some ⟨L,0,none⟩)] w
   (fun e w' => ∃ (fa : Option Addr) (fc : Nat),e = .returned (.agg #[.int .i64 ty,.string lo,.slice fa cn fc]) ∧ w'.cell? ⟨L,0,none⟩ = some (.int .i64 (left - cn)) ∧ w'.frozen? ⟨L,0,none⟩ = false ∧ ∃ g' cap',Wr w' R g' cap' new ∧ Kept (fun k => k = R ∨ k = g ∨ k = L) w w' ∧ (g' = g ∨ w.heap.size ≤ g')):=by
 obtain ⟨B0,z0,x0,x1⟩:=two_new w (.cells #[.int .i64 ty,.string lo,.slice ca cn cc] 61) (.cells #[.int .i64 0,.string ⟨#[]⟩,.slice none 0 0] 61)
 have hRl:=h.lt
 have hgl:=h.g_lt
 have hLl:=block_lt_of_cell hL
 have hA1:=(B0.cell (by exact block_lt_of_cell hA)).trans hA
 have hO1:=(B0.cell (p:=⟨O,0,none⟩) (by exact block_lt_of_cell hO)).trans hO
 have hL1:=(B0.cell (p:=⟨L,0,none⟩) (by exact hLl)).trans hL
 have hLf1:=(B0.frozen (p:=⟨L,0,none⟩) (by exact hLl)).trans hLf
 have HC:=hid (hcall _ B0)
 obtain ⟨W1,hW1⟩ : ∃ W1,(w.alloc (.cells #[.int .i64 ty,.string lo,.slice ca cn cc] 61)).alloc (.cells #[.int .i64 0,.string ⟨#[]⟩,.slice none 0 0] 61) = W1:=⟨_,rfl⟩
 rw [hW1] at B0 z0 x0 x1 hA1 HC hO1 hL1 hLf1
 have BW:=hid B0
 obtain ⟨a0,a1,a2,_,_,_⟩:=three_cells x0
 have hsub : wrap64 (left - (cn : Int)) = left - cn:=by unfold wrap64; omega
 clear h B0 hA hcall hO hL hLf
 go_enter Tryz.func110,Tryz.ntmps110
 go_wp2_with fail
 refine HC.out.mono ?_
 rintro e w5 ⟨fa,fc,rfl,g',cap',hw5,hs5⟩
 have q1:=(hs5.block (b:=w.heap.size + 1) (by omega) (by omega) (by omega)).trans x1
 have n1 : w.heap.size + 1 ≠ g':=hs5.ne (by omega) (by omega)
 have nL : L ≠ g':=hs5.ne (by omega) hLg
 have l1:=hs5.cell (b:=L) hL1 hLR hLg
 have l2:=(frozen_of_block (hs5.block (b:=L) (by omega) hLR hLg) 0).trans hLf1
 have z5:=hs5.size
 have W5:=hid hw5
 have S5:=hid ((Stp.of_below BW.out).trans hs5)
 have BN:=hid (below_new w5 (.cells #[.int .i64 ty,.string lo,.slice fa cn fc] 61))
 have q2:=(BN.out.block (w.heap.size + 1) (by omega)).trans q1
 have l3:=(BN.out.cell (p:=⟨L,0,none⟩) (by exact block_lt_of_cell l1)).trans l1
 have l4:=(BN.out.frozen (p:=⟨L,0,none⟩) (by exact block_lt_of_cell l1)).trans l2
 have nb:=(MapKept.heap_alloc w5 (.cells #[.int .i64 ty,.string lo,.slice fa cn fc] 61)).1
 obtain ⟨k0,k1,k2,k3,k4,k5⟩:=three_cells q2
 obtain ⟨j0,j1,j2,_,_,_⟩:=three_cells nb
 clear hw5 hs5 x0 x1 q1 HC hL1 hLf1 l1 l2
 have hz6 : (w5.alloc (.cells #[.int .i64 ty,.string lo,.slice fa cn fc] 61)).heap.size = w5.heap.size + 1:=by simp
 go_wp2_with fail
 refine bodyPost_ret (v:=.agg #[.int .i64 ty,.string lo,.slice fa cn fc]) ?_ rfl ⟨fa,fc,rfl,?_,?_,g',cap',?_,?_,S5.out.m⟩
 ·rw [results_cell1 rfl]
  go_simp
 ·rw [World.cell?_setCell_other _ _ _ _ (by simp),World.cell?_setCell_other _ _ _ _ (by simp),World.cell?_setCell_other _ _ _ _ (by simp)]
  exact World.cell?_setCell_same _ _ _ l3
 ·simp only [World.frozen?_setCell]
  exact l4
 ·exact ((((W5.out.later BN.out).set (b:=L) hLR nL).set (b:=w.heap.size + 1) (by omega) n1).set (b:=w.heap.size + 1) (by omega) n1).set (b:=w.heap.size + 1) (by omega) n1
 ·have hk:=(S5.out.k.mono (T:=fun k => k = R ∨ k = g ∨ k = L) (fun k hk => by omega)).trans (kept_of BN.out)
  have hk2:=hk.then (kept_set _ L 0 (.int .i64 (left - cn))) (fun k _ h => by omega)
  exact ((hk2.then (kept_set _ (w.heap.size + 1) 0 _) (fun k _ h => by omega)).then (kept_set _ (w.heap.size + 1) 1 _) (fun k _ h => by omega)).then (kept_set _ (w.heap.size + 1) 2 _) (fun k _ h => by omega)
end
end Go.Proofs.YtepcmfegggdjfaaGreatDoor
