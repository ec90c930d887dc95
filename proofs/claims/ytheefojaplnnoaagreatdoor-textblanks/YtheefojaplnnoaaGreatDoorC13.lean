/-
  Texts Sa Sb.
-/
import Derived.Test.YtheefojaplnnoaaGreatDoorC00
import Derived.Test.YtheefojaplnnoaaGreatDoorC06
import Derived.Test.YtheefojaplnnoaaGreatDoorC07
import Derived.Test.YtheefojaplnnoaaGreatDoorC08
import Derived.Test.YtheefojaplnnoaaGreatDoorC12
set_option linter.unusedVariables false
set_option maxRecDepth 100000
set_option maxHeartbeats 16000000
namespace Go.Proofs.YtheefojaplnnoaaGreatDoor
open Go.RowKit
theorem Ds {w : World} {b i : Nat} {cs : Array Value} {t : TypeId} {v : Value} (h : w.heap[b]? = some (.cells cs t)) (hi : i < cs.size) : (w.setCell ⟨b,i,none⟩ v).heap[b]? = some (.cells (cs.setIfInBounds i v) t):=by
 have hb : b < w.heap.size:=by
  rcases Nat.lt_or_ge b w.heap.size with hl | hl
  ·exact hl
  ·rw [Array.getElem?_eq_none hl] at h; cases h
 have hg : w.heap[b] = .cells cs t:=by rw [Array.getElem?_eq_getElem hb] at h; simpa using h
 simp [World.setCell,hb,Array.getElem_modify,hg]
theorem av {w : World} {b : Nat} {v0 v1 v2 v3 v4 v5 v6 v7 : Value} {t : TypeId} (h : w.heap[b]? = some (.cells #[v0,v1,v2,v3,v4,v5,v6,v7] t)) :
  (w.cell? ⟨b,0,none⟩ = some v0 ∧ w.cell? ⟨b,1,none⟩ = some v1 ∧ w.cell? ⟨b,2,none⟩ = some v2 ∧ w.cell? ⟨b,3,none⟩ = some v3 ∧ w.cell? ⟨b,4,none⟩ = some v4 ∧ w.cell? ⟨b,5,none⟩ = some v5 ∧ w.cell? ⟨b,6,none⟩ = some v6 ∧ w.cell? ⟨b,7,none⟩ = some v7) ∧
  (w.frozen? ⟨b,0,none⟩ = false ∧ w.frozen? ⟨b,1,none⟩ = false ∧ w.frozen? ⟨b,2,none⟩ = false ∧ w.frozen? ⟨b,3,none⟩ = false ∧ w.frozen? ⟨b,4,none⟩ = false ∧ w.frozen? ⟨b,5,none⟩ = false ∧ w.frozen? ⟨b,6,none⟩ = false ∧ w.frozen? ⟨b,7,none⟩ = false):=by
 simp [World.cell?,World.frozen?,h]
theorem wO {α : Type} {xs ys : List α} (hl : ys.length ≤ xs.length) (h : ∀ (i : Nat) y,ys[i]? = some y → ∃ x,xs[i]? = some x ∧ y = x) : ys = xs.take ys.length:=by
 apply List.ext_getElem?
 intro i
 by_cases hi : i < ys.length
 ·rw [List.getElem?_take_of_lt hi];obtain ⟨x,h1,h2⟩:=h i ys[i] (aD hi);rw [aD hi,h1,h2]
 ·rw [List.getElem?_eq_none ae,List.getElem?_eq_none aL]
theorem qg {w : World} {aa : Option Addr} {j ac : Nat} {ys : List Sg} (hl : ys.length = j) (hj : j ≤ 1099511627776) (h : w.ownsRow 0 73 2 (.slice aa j ac) j (ys.flatMap gL)) : cf w aa j ys:=by
 refine ⟨hl,hj,?_⟩
 rcases Nat.eq_zero_or_pos j with h0 | h0
 ·exact .inl h0
 ·right;obtain ⟨y,hy⟩ : ∃ y,ys[0]? = some y:=⟨_,aD ae⟩
  obtain ⟨B,hB,_⟩:=iV (oc:=gL) (t:=0) (u:=.string y.1) (fun _ => rfl) h hy rfl
  refine ⟨B,0,hB,fun i x hi => ?_⟩
  obtain ⟨B1,hB1,c1⟩:=iV (oc:=gL) (t:=0) (u:=.string x.1) (fun _ => rfl) h hi rfl
  obtain ⟨B2,hB2,c2⟩:=iV (oc:=gL) (t:=1) (u:=.string x.2) (fun _ => rfl) h hi rfl
  rw [hB] at hB1 hB2
  simp at hB1 hB2
  subst hB1 hB2
  exact ⟨by simpa using c1,by simpa using c2⟩
section
variable (R g cap : Nat) (bs : List Int) (ha : Option Addr) (n hc : Nat) (A : Nat) (w : World)
theorem vq (xs : List Sg) (h : Wr w R g cap bs) (hb : bs.length + 300000000000 ≤ 1099511627776) (hn : n ≤ 100000) (hA : w.cell? ⟨A,0,none⟩ = some (cW R)) (hAR : A ≠ R) (hAg : A ≠ g) (hl : xs.length = n) (enc : Sg → List Int) (k : Nat) (henc : ∀ (i : Nat) y,xs[i]? = some y → i < k → enc y = bQ y) (hall : ∀ (i : Nat) y,xs[i]? = some y → i < k → dF (xs.take i) y = 0)
  (j : Nat) (x : Sg) (hx : xs[j]? = some x) (hjk : j < k) : rW R g w 132 #[.pointer (some ⟨A,0,none⟩)] bs n xs enc (fun x y => y = x) j x:=by
 intro ys W g1 cap1 aa ac hyl hys hst hwr hrow hab;have hlt:=aF hx;have hye:=wO ae hys;rw [hyl] at hye;have hchk:=hall j x hx hjk;have hok:=fW hchk
 have hlen : ((xs.take j).flatMap enc).length ≤ j * 36:=by
  have:=dw enc 36 (xs.take j) (fun i y hi => by
   have hij : i < j:=lW;rw [List.getElem?_take_of_lt hij] at hi;rw [henc i y hi ae]
   have:=fW (hall i y hi ae)
   exact iO y this.1 this.2.2.1)
  exact AQ
 have hu:=aC (n : Int);have hRs:=hst.size
 refine (zk R g1 cap1 _ x aa j ac A W hwr (hst.cell hA hAR hAg) (fun y => y = x) (bs ++ au n ++ (xs.take j).flatMap enc ++ enc x) (fun W2 hb2 => ?_)).mono ?_
 ·have hsig:=(qg hyl ae hrow).later hb2;rw [hye] at hsig
  refine (zn R g1 cap1 _ x.1 x.2 aa j ac (xs.take j) W2 (hwr.later hb2) pz hsig (fun b off c hbb => ⟨?_,(hab _ hbb).2⟩) hchk).mono ?_
  ·have h1:=(hab _ hbb).1;have h2:=h.lt
   simp only at h1
   omega
  ·rintro e w' ⟨he,g',cap',hw',hs'⟩;refine ⟨x,he,rfl,g',cap',?_,hs'⟩;rw [henc j x hx hjk];exact hw'
 ·rintro e w' ⟨y,he,hy,g',cap',hw',hs'⟩;exact ⟨y,he,hy,g',cap',hw',hs'⟩
theorem CZ (xs : List Sg) (h : Wr w R g cap bs) (hb : bs.length + 300000000000 ≤ 1099511627776) (hA : w.cell? ⟨A,0,none⟩ = some (cW R)) (hAR : A ≠ R) (hAg : A ≠ g) (hmem : gJ w ha n xs) (hne : ∀ b off c,ha = some ⟨b,off,c⟩ → b ≠ R ∧ b ≠ g) (hx : bI dF 64 xs = 0) :
  Calls Tryz.prog 131 #[cW R,.slice ha n hc,.int .i64 64,.func (.func 132) #[] #[.pointer (some ⟨A,0,none⟩)]] w fun e w' => ∃ (aa : Option Addr) (ac : Nat),e = .returned (.slice aa n ac) ∧ cf w' aa n xs ∧ ∃ g' cap',(∀ b,aa = some b → w.heap.size ≤ b.block ∧ b.block ≠ g' ∧ b.block < w'.heap.size) ∧ Wr w' R g' cap' (bs ++ (au n ++ xs.flatMap bQ)) ∧ Stp R g g' w w':=by
 have hl:=hmem.1;unfold bI at hx
 split at hx
 ·cases hx
 rename_i hm
 have hall:=bo dF xs [] hx
 have hall' : ∀ (i : Nat) y,xs[i]? = some y → dF (xs.take i) y = 0:=fun i y hi => by simpa using hall i y hi
 refine (xg R g cap bs ha n hc 64 132 _ w xs bQ (fun x y => y = x) 36 h ae ae hmem hne (fun _ _ => rfl) (fun j x hj => by have:=fW (hall' j x hj); exact iO x this.1 this.2.2.1) ae ae
  (fun j x hj => vq R g cap bs n A w xs h hb ae hA hAR hAg hl bQ (j + 1) (fun _ _ _ _ => rfl) (fun i y hi _ => hall' i y hi) j x hj ae)).mono ?_
 rintro e w' ⟨aa,ac,ys,he,hyl,hys,hrow,g',cap',hab,hw',hs'⟩;have hye:=wO ae hys;rw [hyl,List.take_of_length_le ae] at hye;subst hye
 exact ⟨aa,ac,he,qg hyl ae hrow,g',cap',fun b hb' => ⟨(hab b hb').1,(hab b hb').2,ax hrow (rE hrow hb')⟩,uq,hs'⟩
theorem Gy (xs : List Sg) (h : Wr w R g cap bs) (hb : bs.length + 300000000000 ≤ 1099511627776) (hA : w.cell? ⟨A,0,none⟩ = some (cW R)) (hAR : A ≠ R) (hAg : A ≠ g) (hmem : gJ w ha n xs) (hne : ∀ b off c,ha = some ⟨b,off,c⟩ → b ≠ R ∧ b ≠ g) (hx : bI dF 64 xs ≠ 0) :
  Calls Tryz.prog 131 #[cW R,.slice ha n hc,.int .i64 64,.func (.func 132) #[] #[.pointer (some ⟨A,0,none⟩)]] w (aJ R g (bI dF 64 xs) w):=by
 have hl:=hmem.1;unfold bI at hx ⊢
 by_cases hm : (64 : Int) < xs.length
 ·rw [if_pos hm];exact tL R g cap bs ha n hc 64 _ w h ae
 rw [if_neg hm] at hx ⊢;obtain ⟨k,x,h1,h2,h3,h4⟩:=dG dF xs [] hx;have hall:=bo dF (xs.take k) [] h2
 have hall' : ∀ (i : Nat) y,xs[i]? = some y → i < k → dF (xs.take i) y = 0:=fun i y hi hik => by
  have:=hall i y yX
  rw [List.take_take] at this;have e : min i k = i:=ae;rw [e] at this;exact bX
 rw [h4]
 simp only [List.nil_append] at h3 h4 ⊢
 refine yN R g cap bs ha n hc 64 132 _ w xs (fun y => if y.1.size ≤ 8 ∧ y.2.size ≤ 8 then bQ y else []) (fun x y => y = x) 36 h ae ae hmem hne (fun _ _ => rfl) (fun j y hj => ?_) ae ae k x _ h1
  (fun j y hj hjk => vq R g cap bs n A w xs h hb ae hA hAR hAg hl _ k (fun i z hi hik => ?_) hall' j y hj hjk) ?_
 ·show (if y.1.size ≤ 8 ∧ y.2.size ≤ 8 then bQ y else []).length ≤ 36
  split
  ·rename_i hh; exact iO y hh.1 hh.2
  ·simp
 ·have:=fW (hall' i z hi hik)
  exact if_pos ⟨this.1,this.2.2.1⟩
 ·intro ys W g1 cap1 aa ac hyl hys hst hwr hrow hab;have hlt:=aF h1;have hye:=wO ae hys;rw [hyl] at hye
  refine CH R g1 cap1 _ x aa k ac A W hwr (hst.cell hA hAR hAg) _ (fun W2 hb2 => ?_)
  have hsig:=(qg hyl ae hrow).later hb2;rw [hye] at hsig
  have hbb2 : ((xs.take k).flatMap (fun y => if y.1.size ≤ 8 ∧ y.2.size ≤ 8 then bQ y else [])).length ≤ k * 36:=by
   have:=dw (fun y : Sg => if y.1.size ≤ 8 ∧ y.2.size ≤ 8 then bQ y else []) 36 (xs.take k) (fun i y hi => by
    show (if y.1.size ≤ 8 ∧ y.2.size ≤ 8 then bQ y else []).length ≤ 36
    split
    ·rename_i hh; exact iO y hh.1 hh.2
    ·simp)
   rw [List.length_take] at this;have e : min k xs.length = k:=ae
   rwa [e] at this
  have hu:=aC (n : Int)
  exact CO R g1 cap1 _ x.1 x.2 aa k ac (xs.take k) W2 (hwr.later hb2) pz hsig (fun b off c hbb => ⟨by have q1:=(hab _ hbb).1; have q2:=h.lt; simp only at q1; omega,(hab _ hbb).2⟩) h3
end
theorem p8 (R g cap : Nat) (bs : List Int) (n : Nat) (A : Nat) (w : World) (O : Nat) (ta : Option Addr) (tn tc : Nat) (xs : List Int) (h : Wr w R g cap bs) (hb : bs.length + 300000000000 ≤ 1099511627776) (hn : n ≤ 1000) (hA : w.cell? ⟨A,0,none⟩ = some (cW R)) (hAR : A ≠ R) (hAg : A ≠ g) (hO : w.cell? ⟨O,0,none⟩ = some (.slice ta tn tc)) (hOR : O ≠ R) (hOg : O ≠ g) (htn : tn ≤ 100000) (hr : ∀ (j : Nat) x,xs[j]? = some x → -9223372036854775808 ≤ x ∧ x < 9223372036854775808) (hl : xs.length = n) (e : Int → List Int) (k : Nat) (he : ∀ (i : Nat) y,xs[i]? = some y → i < k → e y = (fun x => au x) y) (hall : ∀ (i : Nat) y,xs[i]? = some y → i < k → (fun (_ : List Int) x => dJ tn x) (xs.take i) y = 0)
  (j : Nat) (x : Int) (hx : xs[j]? = some x) (hjk : j < k) : yu R g w 135 #[.pointer (some ⟨A,0,none⟩),.pointer (some ⟨O,0,none⟩)] bs n xs e (fun x y => y = x) j x:=by
 intro ys W g1 cap1 aa ac hyl hys hst hwr hrow hab;have hlt:=aF hx;have hchk:=hall j x hx hjk
 try simp only at hchk
 have henc:=he j x hx hjk
 have hlen : ((xs.take j).flatMap e).length ≤ j * 10:=by
  have:=dw e 10 (xs.take j) (fun i y hi => by
   have hij : i < j:=lW;rw [List.getElem?_take_of_lt hij] at hi;rw [he i y hi ae];have hc:=hall i y hi ae;exact (aC y).2)
  exact mQ
 have hu:=aC (n : Int)
 have hbb : (bs ++ au n ++ (xs.take j).flatMap e).length ≤ bs.length + 10 + 1000 * 10:=by
  rw [List.length_append,List.length_append];have : j * 10 ≤ 1000 * 10:=Nat.mul_le_mul_right _ ae;omega
 have hc' : 0 ≤ x ∧ x < tn:=by
  unfold dJ at hchk
  split at hchk
  ·cases hchk
  ·omega
 refine (zE R g1 cap1 _ x aa j ac A O ta tn tc W hwr ae (hst.cell hA hAR hAg) (hst.cell hO hOR hOg) hc'.1 hc'.2 htn).mono ?_;exact uu
theorem DI (R g cap : Nat) (bs : List Int) (ha : Option Addr) (n hc : Nat) (A : Nat) (w : World) (O : Nat) (ta : Option Addr) (tn tc : Nat) (xs : List Int) (h : Wr w R g cap bs) (hb : bs.length + 300000000000 ≤ 1099511627776) (hA : w.cell? ⟨A,0,none⟩ = some (cW R)) (hAR : A ≠ R) (hAg : A ≠ g) (hO : w.cell? ⟨O,0,none⟩ = some (.slice ta tn tc)) (hOR : O ≠ R) (hOg : O ≠ g) (htn : tn ≤ 100000) (hr : ∀ (j : Nat) x,xs[j]? = some x → -9223372036854775808 ≤ x ∧ x < 9223372036854775808) (hmem : jY w ha n xs) (hne : ∀ b off c,ha = some ⟨b,off,c⟩ → b ≠ R ∧ b ≠ g) (hx : bI (fun (_ : List Int) x => dJ tn x) 32 xs = 0) :
  Calls Tryz.prog 134 #[cW R,.slice ha n hc,.int .i64 32,.func (.func 135) #[] #[.pointer (some ⟨A,0,none⟩),.pointer (some ⟨O,0,none⟩)]] w fun e w' => ∃ (aa : Option Addr) (ac : Nat) (ys : List Int),e = .returned (.slice aa n ac) ∧ ys.length = n ∧ (∀ (i : Nat) y,ys[i]? = some y → ∃ x,xs[i]? = some x ∧ (fun x y => y = x) x y) ∧ ∃ g' cap',Wr w' R g' cap' (bs ++ (au n ++ xs.flatMap (fun x => au x))) ∧ Stp R g g' w w':=by
 have hl:=hmem.1;unfold bI at hx
 split at hx
 ·cases hx
 rename_i hm
 have hall:=bo (fun (_ : List Int) x => dJ tn x) xs [] hx
 have hall' : ∀ (i : Nat) y,xs[i]? = some y → (fun (_ : List Int) x => dJ tn x) (xs.take i) y = 0:=fun i y hi => hall i y hi
 refine (vw R g cap bs ha n hc 32 135 _ w xs (fun x => au x) (fun x y => y = x) 10 h ae ae hmem hne (fun _ _ => rfl) (fun j x hj => by
   have hc:=hall' j x hj;exact (aC x).2) ae ae
  (fun j x hj => p8 R g cap bs n A w O ta tn tc xs h hb ae hA hAR hAg hO hOR hOg htn hr hl (fun x => au x) (j + 1) (fun _ _ _ _ => rfl) (fun i y hi _ => hall' i y hi) j x hj ae)).mono ?_
 exact uo
theorem H8 (R g cap : Nat) (bs : List Int) (ha : Option Addr) (n hc : Nat) (A : Nat) (w : World) (O : Nat) (ta : Option Addr) (tn tc : Nat) (xs : List Int) (h : Wr w R g cap bs) (hb : bs.length + 300000000000 ≤ 1099511627776) (hA : w.cell? ⟨A,0,none⟩ = some (cW R)) (hAR : A ≠ R) (hAg : A ≠ g) (hO : w.cell? ⟨O,0,none⟩ = some (.slice ta tn tc)) (hOR : O ≠ R) (hOg : O ≠ g) (htn : tn ≤ 100000) (hr : ∀ (j : Nat) x,xs[j]? = some x → -9223372036854775808 ≤ x ∧ x < 9223372036854775808) (hmem : jY w ha n xs) (hne : ∀ b off c,ha = some ⟨b,off,c⟩ → b ≠ R ∧ b ≠ g) (hx : bI (fun (_ : List Int) x => dJ tn x) 32 xs ≠ 0) :
  Calls Tryz.prog 134 #[cW R,.slice ha n hc,.int .i64 32,.func (.func 135) #[] #[.pointer (some ⟨A,0,none⟩),.pointer (some ⟨O,0,none⟩)]] w (aJ R g (bI (fun (_ : List Int) x => dJ tn x) 32 xs) w):=by
 have hl:=hmem.1;unfold bI at hx ⊢
 by_cases hm : (32 : Int) < xs.length
 ·rw [if_pos hm];exact rU R g cap bs ha n hc 32 _ w h ae
 rw [if_neg hm] at hx ⊢
 obtain ⟨k,x,h1,h2,h3,h4⟩:=dG (fun (_ : List Int) x => dJ tn x) xs [] hx
 have hall:=bo (fun (_ : List Int) x => dJ tn x) (xs.take k) [] h2
 have hall' : ∀ (i : Nat) y,xs[i]? = some y → i < k → (fun (_ : List Int) x => dJ tn x) (xs.take i) y = 0:=fun i y hi hik => by
  exact rM
 rw [h4];try simp only [List.nil_append] at h3 ⊢
 obtain ⟨E,hE⟩ : ∃ E : Int → List Int,E = fun y => if ((fun x => au x) y).length ≤ 10 then (fun x => au x) y else []:=⟨_,rfl⟩
 have hEl : ∀ y,(E y).length ≤ 10:=fun y => by
  rw [hE]
  show (if ((fun x => au x) y).length ≤ 10 then (fun x => au x) y else []).length ≤ 10
  split
  ·assumption
  ·simp
 have hEe : ∀ (i : Nat) z,xs[i]? = some z → i < k → E z = (fun x => au x) z:=fun i z hi hik => by
  have hc:=hall' i z hi hik
  have hq : ((fun x => au x) z).length ≤ 10:=by
   exact (aC z).2
  rw [hE];exact if_pos hq
 refine yA R g cap bs ha n hc 32 135 _ w xs E (fun x y => y = x) 10 h ae ae hmem hne (fun _ _ => rfl) (fun j y hj => hEl y) ae ae k x _ h1
  (fun j y hj hjk => p8 R g cap bs n A w O ta tn tc xs h hb ae hA hAR hAg hO hOR hOg htn hr hl E k hEe hall' j y hj hjk) ?_
 intro ys W g1 cap1 aa ac hyl hys hst hwr hrow hab;have hlt:=aF h1;have hu:=aC (n : Int)
 have hbb : (bs ++ au n ++ (xs.take k).flatMap E).length ≤ bs.length + 10 + 1000 * 10:=by
  have hf:=dw E 10 (xs.take k) (fun i y _ => hEl y)
  rw [List.length_take] at hf;have e1 : min k xs.length = k:=ae;rw [e1] at hf;rw [List.length_append,List.length_append];have : k * 10 ≤ 1000 * 10:=Nat.mul_le_mul_right _ ae;omega
 have hbad : x < 0 ∨ (tn : Int) ≤ x:=by
  unfold dJ at h3
  by_cases hq : x < 0 ∨ (tn : Int) ≤ x
  ·exact hq
  ·rw [if_neg hq] at h3; exact absurd rfl h3
 have hq30 : dJ tn x = 30:=by unfold dJ; rw [if_pos hbad]
 rw [hq30];exact CU R g1 cap1 _ x aa k ac A O ta tn tc W hwr (hst.cell hA hAR hAg) (hst.cell hO hOR hOg) (hr k x h1).1 (hr k x h1).2 hbad htn
theorem mq (R g cap : Nat) (bs : List Int) (n : Nat) (A : Nat) (w : World) (xs : List Gl) (h : Wr w R g cap bs) (hb : bs.length + 300000000000 ≤ 1099511627776) (hn : n ≤ 1000) (hA : w.cell? ⟨A,0,none⟩ = some (cW R)) (hAR : A ≠ R) (hAg : A ≠ g) (hr : ∀ (j : Nat) x,xs[j]? = some x → 0 ≤ x.1 ∧ x.1 ≤ 255 ∧ 0 ≤ x.2.2 ∧ x.2.2 < 18446744073709551616) (hl : xs.length = n) (e : Gl → List Int) (k : Nat) (he : ∀ (i : Nat) y,xs[i]? = some y → i < k → e y = (dt) y) (hall : ∀ (i : Nat) y,xs[i]? = some y → i < k → (fun (_ : List Gl) x => iz x) (xs.take i) y = 0)
  (j : Nat) (x : Gl) (hx : xs[j]? = some x) (hjk : j < k) : zy R g w 138 #[.pointer (some ⟨A,0,none⟩)] bs n xs e (fun x y => y = x) j x:=by
 intro ys W g1 cap1 aa ac hyl hys hst hwr hrow hab;have hlt:=aF hx;have hchk:=hall j x hx hjk
 try simp only at hchk
 have henc:=he j x hx hjk
 have hlen : ((xs.take j).flatMap e).length ≤ j * 12:=by
  have:=dw e 12 (xs.take j) (fun i y hi => by
   have hij : i < j:=lW;rw [List.getElem?_take_of_lt hij] at hi;rw [he i y hi ae];have hc:=hall i y hi ae;exact mF y)
  exact mQ
 have hu:=aC (n : Int)
 have hbb : (bs ++ au n ++ (xs.take j).flatMap e).length ≤ bs.length + 10 + 1000 * 12:=by
  rw [List.length_append,List.length_append];have : j * 12 ≤ 1000 * 12:=Nat.mul_le_mul_right _ ae;omega
 have hrx:=hr j x hx
 have hc' : isL x.1 = true ∧ fP x.2.2 x.1 = true:=by
  unfold iz at hchk
  split at hchk
  ·cases hchk
  ·split at hchk
   ·cases hchk
   ·simp_all
 have hv : x.1 = 119 → x.2.2 < 4294967296:=fun h119 => by
  have:=hc'.2
  rw [h119] at this
  simpa [fP] using this
 refine (x9 R g1 cap1 _ x aa j ac A W hwr (hst.cell hA hAR hAg) (fun y => y = x) (bs ++ au n ++ (xs.take j).flatMap e ++ e x) (fun W2 hb2 => ?_)).mono ?_
 ·refine (vI R g1 cap1 _ x.1 x.2.2 x.2.1 W2 (hwr.later hb2) ae hrx.1 hrx.2.1 hrx.2.2.1 hrx.2.2.2 hc'.1 hv).mono ?_;exact uu
 ·exact tS
theorem wm (R g cap : Nat) (bs : List Int) (ha : Option Addr) (n hc : Nat) (A : Nat) (w : World) (xs : List Gl) (h : Wr w R g cap bs) (hb : bs.length + 300000000000 ≤ 1099511627776) (hA : w.cell? ⟨A,0,none⟩ = some (cW R)) (hAR : A ≠ R) (hAg : A ≠ g) (hr : ∀ (j : Nat) x,xs[j]? = some x → 0 ≤ x.1 ∧ x.1 ≤ 255 ∧ 0 ≤ x.2.2 ∧ x.2.2 < 18446744073709551616) (hmem : nS w ha n xs) (hne : ∀ b off c,ha = some ⟨b,off,c⟩ → b ≠ R ∧ b ≠ g) (hx : bI (fun (_ : List Gl) x => iz x) 64 xs = 0) :
  Calls Tryz.prog 137 #[cW R,.slice ha n hc,.int .i64 64,.func (.func 138) #[] #[.pointer (some ⟨A,0,none⟩)]] w fun e w' => ∃ (aa : Option Addr) (ac : Nat) (ys : List Gl),e = .returned (.slice aa n ac) ∧ ys.length = n ∧ (∀ (i : Nat) y,ys[i]? = some y → ∃ x,xs[i]? = some x ∧ (fun x y => y = x) x y) ∧ ∃ g' cap',Wr w' R g' cap' (bs ++ (au n ++ xs.flatMap (dt))) ∧ Stp R g g' w w':=by
 have hl:=hmem.1;unfold bI at hx
 split at hx
 ·cases hx
 rename_i hm
 have hall:=bo (fun (_ : List Gl) x => iz x) xs [] hx
 have hall' : ∀ (i : Nat) y,xs[i]? = some y → (fun (_ : List Gl) x => iz x) (xs.take i) y = 0:=fun i y hi => hall i y hi
 refine (wI R g cap bs ha n hc 64 138 _ w xs (dt) (fun x y => y = x) 12 h ae ae hmem hne (fun _ _ => rfl) (fun j x hj => by
   have hc:=hall' j x hj;exact mF x) ae ae
  (fun j x hj => mq R g cap bs n A w xs h hb ae hA hAR hAg hr hl (dt) (j + 1) (fun _ _ _ _ => rfl) (fun i y hi _ => hall' i y hi) j x hj ae)).mono ?_
 exact uo
theorem yo (R g cap : Nat) (bs : List Int) (ha : Option Addr) (n hc : Nat) (A : Nat) (w : World) (xs : List Gl) (h : Wr w R g cap bs) (hb : bs.length + 300000000000 ≤ 1099511627776) (hA : w.cell? ⟨A,0,none⟩ = some (cW R)) (hAR : A ≠ R) (hAg : A ≠ g) (hr : ∀ (j : Nat) x,xs[j]? = some x → 0 ≤ x.1 ∧ x.1 ≤ 255 ∧ 0 ≤ x.2.2 ∧ x.2.2 < 18446744073709551616) (hmem : nS w ha n xs) (hne : ∀ b off c,ha = some ⟨b,off,c⟩ → b ≠ R ∧ b ≠ g) (hx : bI (fun (_ : List Gl) x => iz x) 64 xs ≠ 0) :
  Calls Tryz.prog 137 #[cW R,.slice ha n hc,.int .i64 64,.func (.func 138) #[] #[.pointer (some ⟨A,0,none⟩)]] w (aJ R g (bI (fun (_ : List Gl) x => iz x) 64 xs) w):=by
 have hl:=hmem.1;unfold bI at hx ⊢
 by_cases hm : (64 : Int) < xs.length
 ·rw [if_pos hm];exact rQ R g cap bs ha n hc 64 _ w h ae
 rw [if_neg hm] at hx ⊢
 obtain ⟨k,x,h1,h2,h3,h4⟩:=dG (fun (_ : List Gl) x => iz x) xs [] hx
 have hall:=bo (fun (_ : List Gl) x => iz x) (xs.take k) [] h2
 have hall' : ∀ (i : Nat) y,xs[i]? = some y → i < k → (fun (_ : List Gl) x => iz x) (xs.take i) y = 0:=fun i y hi hik => by
  exact rM
 rw [h4];try simp only [List.nil_append] at h3 ⊢
 obtain ⟨E,hE⟩ : ∃ E : Gl → List Int,E = fun y => if ((dt) y).length ≤ 12 then (dt) y else []:=⟨_,rfl⟩
 have hEl : ∀ y,(E y).length ≤ 12:=fun y => by
  rw [hE]
  show (if ((dt) y).length ≤ 12 then (dt) y else []).length ≤ 12
  split
  ·assumption
  ·simp
 have hEe : ∀ (i : Nat) z,xs[i]? = some z → i < k → E z = (dt) z:=fun i z hi hik => by
  have hc:=hall' i z hi hik
  have hq : ((dt) z).length ≤ 12:=by
   exact mF z
  rw [hE];exact if_pos hq
 refine xw R g cap bs ha n hc 64 138 _ w xs E (fun x y => y = x) 12 h ae ae hmem hne (fun _ _ => rfl) (fun j y hj => hEl y) ae ae k x _ h1
  (fun j y hj hjk => mq R g cap bs n A w xs h hb ae hA hAR hAg hr hl E k hEe hall' j y hj hjk) ?_
 intro ys W g1 cap1 aa ac hyl hys hst hwr hrow hab;have hlt:=aF h1;have hu:=aC (n : Int)
 have hbb : (bs ++ au n ++ (xs.take k).flatMap E).length ≤ bs.length + 10 + 1000 * 12:=by
  have hf:=dw E 12 (xs.take k) (fun i y _ => hEl y)
  rw [List.length_take] at hf;have e1 : min k xs.length = k:=ae;rw [e1] at hf;rw [List.length_append,List.length_append];have : k * 12 ≤ 1000 * 12:=Nat.mul_le_mul_right _ ae;omega
 have hrx:=hr k x h1
 refine DJ R g1 cap1 _ x aa k ac A W hwr (hst.cell hA hAR hAg) _ (fun W2 hb2 => ?_)
 unfold iz at h3 ⊢
 by_cases c1 : isL x.1 = false
 ·rw [if_pos c1];exact xX R g1 cap1 _ x.1 x.2.2 x.2.1 W2 (hwr.later hb2) c1
 rw [if_neg c1] at h3 ⊢
 by_cases c2 : fP x.2.2 x.1 = false
 ·rw [if_pos c2]
  have h119 : x.1 = 119:=by
   have c1' : isL x.1 = true:=by simpa using c1
   simp [isL] at c1'
   rcases c1' with h | h
   ·exact h
   ·rw [h] at c2; simp [fP] at c2
  rw [h119] at c2 ⊢
  exact zG R g1 cap1 _ x.2.2 x.2.1 W2 (hwr.later hb2) ae hrx.2.2.1 hrx.2.2.2 (by simp [fP] at c2; omega)
 ·rw [if_neg c2] at h3; exact absurd rfl h3
end Go.Proofs.YtheefojaplnnoaaGreatDoor
