/-
  Texts Sc Wl.
-/
import Derived.Test.YtheefojaplnnoaaGreatDoorC00
import Derived.Test.YtheefojaplnnoaaGreatDoorC05
import Derived.Test.YtheefojaplnnoaaGreatDoorC08
import Derived.Test.YtheefojaplnnoaaGreatDoorC13
import Derived.Test.YtheefojaplnnoaaGreatDoorC14
set_option linter.unusedVariables false
set_option maxRecDepth 100000
set_option maxHeartbeats 16000000
namespace Go.Proofs.YtheefojaplnnoaaGreatDoor
open Go.RowKit
def jn (ah : List DaM) (v : Int) : Bool:=match ah.getLast? with | none => false | some y => decide (v ≤ y.1 + (y.2.2.length : Int))
def dm (room : Int) (ah : List DaM) (x : DaM) : Int :=
 if x.1 < 0 ∨ room < x.1 then 17 else if jn ah x.1 = true then 18 else if room - x.1 < (x.2.2.length : Int) then 13 else if x.2.2.length = 0 then 17 else 0
def dM (x : DaM) : List Int:=au x.1 ++ (au x.2.2.length ++ x.2.2)
theorem kj {room : Int} {ah : List DaM} {x : DaM} (hr : room ≤ 262144) (h : dm room ah x = 0) : (dM x).length ≤ 300000:=by
 unfold dm at h
 split at h
 ·cases h
 ·split at h
  ·cases h
  ·split at h
   ·cases h
   ·have a:=aC x.1;have b:=aC x.2.2.length
    simp only [dM,List.length_append]
    omega
theorem vN {xs : List DaM} {ys : List (Int × SL)} {j : Nat} (hj : j ≤ xs.length) (hl : ys.length = j) (h : ∀ (i : Nat) y,ys[i]? = some y → ∃ x,xs[i]? = some x ∧ yO x y) (v : Int) : gG ys v = jn (xs.take j) v:=by
 unfold gG jn
 rcases Nat.eq_zero_or_pos j with h0 | h0
 ·subst h0;have : ys = []:=List.eq_nil_of_length_eq_zero hl;subst this
  simp
 ·obtain ⟨y,hy⟩ : ∃ y,ys[j - 1]? = some y:=⟨_,aD ae⟩;obtain ⟨x,hx,hok⟩:=h (j - 1) y hy
  have e1 : ys.getLast? = some y:=by rw [List.getLast?_eq_getElem?,hl]; exact hy
  have e2 : (xs.take j).getLast? = some x:=by
   rw [List.getLast?_eq_getElem?,List.length_take];have e : min j xs.length - 1 = j - 1:=ae;rw [e,List.getElem?_take_of_lt ae];exact hx
  rw [e1,e2]
  simp only [hok.1,hok.2]
structure KG (w : World) (R g : Nat) (x : DaM) : Prop where
 r0 : -9223372036854775808 ≤ x.1
 r1 : x.1 < 9223372036854775808
 seg : Seg w x.2.1.1 x.2.1.2.1 x.2.1.2.2 x.2.2
 ne : ∀ b off c,nz x.2.1.2.1 x.2.1.1 = some ⟨b,off,c⟩ → b ≠ R ∧ b ≠ g
 lt : ∀ b off c,nz x.2.1.2.1 x.2.1.1 = some ⟨b,off,c⟩ → b < w.heap.size
theorem lZ (R g cap : Nat) (bs : List Int) (n : Nat) (A : Nat) (w : World) (O : Nat) (fa : Option Addr) (fn fc : Nat) (xs : List Ex) (h : Wr w R g cap bs) (hb : bs.length + 300000000000 ≤ 1099511627776) (hn : n ≤ 1000) (hA : w.cell? ⟨A,0,none⟩ = some (cW R)) (hAR : A ≠ R) (hAg : A ≠ g) (hO : w.cell? ⟨O,5,none⟩ = some (.slice fa fn fc)) (hOR : O ≠ R) (hOg : O ≠ g) (hfn : fn ≤ 100000) (hr : ∀ (j : Nat) x,xs[j]? = some x → -9223372036854775808 ≤ x.2 ∧ x.2 < 9223372036854775808) (hl : xs.length = n) (e : Ex → List Int) (k : Nat) (he : ∀ (i : Nat) y,xs[i]? = some y → i < k → e y = (fO) y) (hall : ∀ (i : Nat) y,xs[i]? = some y → i < k → (fun (ah : List Ex) x => fN fn ah x) (xs.take i) y = 0)
  (j : Nat) (x : Ex) (hx : xs[j]? = some x) (hjk : j < k) : zq R g w 148 #[.pointer (some ⟨A,0,none⟩),.pointer (some ⟨O,0,none⟩)] bs n xs e (fun x y => y = x) j x:=by
 intro ys W g1 cap1 aa ac hyl hys hst hwr hrow hab;have hlt:=aF hx;have hchk:=hall j x hx hjk
 try simp only at hchk
 have henc:=he j x hx hjk
 have hlen : ((xs.take j).flatMap e).length ≤ j * 100:=by
  have:=dw e 100 (xs.take j) (fun i y hi => by
   have hij : i < j:=lW;rw [List.getElem?_take_of_lt hij] at hi;rw [he i y hi ae];have hc:=hall i y hi ae
   have hs32 : (y).1.size ≤ 32:=by
    exact tM
   have a1:=eO (y).1 32 hs32;have a2:=aC (y).2
   simp only [fO,List.length_append]
   omega)
  exact mQ
 have hu:=aC (n : Int)
 have hbb : (bs ++ au n ++ (xs.take j).flatMap e).length ≤ bs.length + 10 + 1000 * 100:=by
  rw [List.length_append,List.length_append];have : j * 100 ≤ 1000 * 100:=Nat.mul_le_mul_right _ ae;omega
 have hrx:=hr j x hx;have hye:=wO ae hys;rw [hyl] at hye
 refine (xA R g1 cap1 _ x aa j ac A O fa fn fc W hwr (hst.cell hA hAR hAg) (hst.cell hO hOR hOg) (fun y => y = x) (bs ++ au n ++ (xs.take j).flatMap e ++ e x) (fun W2 hb2 => ?_)).mono ?_
 ·refine (zg R g1 cap1 _ x.1 x.2 fn aa j ac ys W2 (hwr.later hb2) ae hyl ae (aA hrow (fun B hB => hb2.block B (ax hrow hB))) (fun b hb' => ⟨by have q1:=(hab b hb').1; have q2:=h.lt; omega,(hab b hb').2⟩) hrx.1 hrx.2 ae ae (by rw [hye]; exact hchk)).mono ?_
  exact uu
 ·exact tS
theorem xm (R g cap : Nat) (bs : List Int) (ha : Option Addr) (n hc : Nat) (A : Nat) (w : World) (O : Nat) (fa : Option Addr) (fn fc : Nat) (xs : List Ex) (h : Wr w R g cap bs) (hb : bs.length + 300000000000 ≤ 1099511627776) (hA : w.cell? ⟨A,0,none⟩ = some (cW R)) (hAR : A ≠ R) (hAg : A ≠ g) (hO : w.cell? ⟨O,5,none⟩ = some (.slice fa fn fc)) (hOR : O ≠ R) (hOg : O ≠ g) (hfn : fn ≤ 100000) (hr : ∀ (j : Nat) x,xs[j]? = some x → -9223372036854775808 ≤ x.2 ∧ x.2 < 9223372036854775808) (hmem : lm w ha n xs) (hne : ∀ b off c,ha = some ⟨b,off,c⟩ → b ≠ R ∧ b ≠ g) (hx : bI (fun (ah : List Ex) x => fN fn ah x) 64 xs = 0) :
  Calls Tryz.prog 147 #[cW R,.slice ha n hc,.int .i64 64,.func (.func 148) #[] #[.pointer (some ⟨A,0,none⟩),.pointer (some ⟨O,0,none⟩)]] w fun e w' => ∃ (aa : Option Addr) (ac : Nat) (ys : List Ex),e = .returned (.slice aa n ac) ∧ ys.length = n ∧ (∀ (i : Nat) y,ys[i]? = some y → ∃ x,xs[i]? = some x ∧ (fun x y => y = x) x y) ∧ ∃ g' cap',Wr w' R g' cap' (bs ++ (au n ++ xs.flatMap (fO))) ∧ Stp R g g' w w':=by
 have hl:=hmem.1;unfold bI at hx
 split at hx
 ·cases hx
 rename_i hm
 have hall:=bo (fun (ah : List Ex) x => fN fn ah x) xs [] hx
 have hall' : ∀ (i : Nat) y,xs[i]? = some y → (fun (ah : List Ex) x => fN fn ah x) (xs.take i) y = 0:=fun i y hi => hall i y hi
 refine (wY R g cap bs ha n hc 64 148 _ w xs (fO) (fun x y => y = x) 100 h ae ae hmem hne (fun _ _ => rfl) (fun j x hj => by
   have hc:=hall' j x hj
   have hs32 : (x).1.size ≤ 32:=by
    exact tM
   have a1:=eO (x).1 32 hs32;have a2:=aC (x).2
   simp only [fO,List.length_append]
   omega) ae ae
  (fun j x hj => lZ R g cap bs n A w O fa fn fc xs h hb ae hA hAR hAg hO hOR hOg hfn hr hl (fO) (j + 1) (fun _ _ _ _ => rfl) (fun i y hi _ => hall' i y hi) j x hj ae)).mono ?_
 exact uo
theorem zA (R g cap : Nat) (bs : List Int) (ha : Option Addr) (n hc : Nat) (A : Nat) (w : World) (O : Nat) (fa : Option Addr) (fn fc : Nat) (xs : List Ex) (h : Wr w R g cap bs) (hb : bs.length + 300000000000 ≤ 1099511627776) (hA : w.cell? ⟨A,0,none⟩ = some (cW R)) (hAR : A ≠ R) (hAg : A ≠ g) (hO : w.cell? ⟨O,5,none⟩ = some (.slice fa fn fc)) (hOR : O ≠ R) (hOg : O ≠ g) (hfn : fn ≤ 100000) (hr : ∀ (j : Nat) x,xs[j]? = some x → -9223372036854775808 ≤ x.2 ∧ x.2 < 9223372036854775808) (hmem : lm w ha n xs) (hne : ∀ b off c,ha = some ⟨b,off,c⟩ → b ≠ R ∧ b ≠ g) (hx : bI (fun (ah : List Ex) x => fN fn ah x) 64 xs ≠ 0) :
  Calls Tryz.prog 147 #[cW R,.slice ha n hc,.int .i64 64,.func (.func 148) #[] #[.pointer (some ⟨A,0,none⟩),.pointer (some ⟨O,0,none⟩)]] w (aJ R g (bI (fun (ah : List Ex) x => fN fn ah x) 64 xs) w):=by
 have hl:=hmem.1;unfold bI at hx ⊢
 by_cases hm : (64 : Int) < xs.length
 ·rw [if_pos hm];exact sS R g cap bs ha n hc 64 _ w h ae
 rw [if_neg hm] at hx ⊢
 obtain ⟨k,x,h1,h2,h3,h4⟩:=dG (fun (ah : List Ex) x => fN fn ah x) xs [] hx
 have hall:=bo (fun (ah : List Ex) x => fN fn ah x) (xs.take k) [] h2
 have hall' : ∀ (i : Nat) y,xs[i]? = some y → i < k → (fun (ah : List Ex) x => fN fn ah x) (xs.take i) y = 0:=fun i y hi hik => by
  exact rM
 rw [h4];try simp only [List.nil_append] at h3 ⊢
 obtain ⟨E,hE⟩ : ∃ E : Ex → List Int,E = fun y => if ((fO) y).length ≤ 100 then (fO) y else []:=⟨_,rfl⟩
 have hEl : ∀ y,(E y).length ≤ 100:=fun y => by
  rw [hE]
  show (if ((fO) y).length ≤ 100 then (fO) y else []).length ≤ 100
  split
  ·assumption
  ·simp
 have hEe : ∀ (i : Nat) z,xs[i]? = some z → i < k → E z = (fO) z:=fun i z hi hik => by
  have hc:=hall' i z hi hik
  have hq : ((fO) z).length ≤ 100:=by
   have hs32 : (z).1.size ≤ 32:=by
    exact tM
   have a1:=eO (z).1 32 hs32;have a2:=aC (z).2
   simp only [fO,List.length_append]
   omega
  rw [hE];exact if_pos hq
 refine xN R g cap bs ha n hc 64 148 _ w xs E (fun x y => y = x) 100 h ae ae hmem hne (fun _ _ => rfl) (fun j y hj => hEl y) ae ae k x _ h1
  (fun j y hj hjk => lZ R g cap bs n A w O fa fn fc xs h hb ae hA hAR hAg hO hOR hOg hfn hr hl E k hEe hall' j y hj hjk) ?_
 intro ys W g1 cap1 aa ac hyl hys hst hwr hrow hab;have hlt:=aF h1;have hu:=aC (n : Int)
 have hbb : (bs ++ au n ++ (xs.take k).flatMap E).length ≤ bs.length + 10 + 1000 * 100:=by
  have hf:=dw E 100 (xs.take k) (fun i y _ => hEl y)
  rw [List.length_take] at hf;have e1 : min k xs.length = k:=ae;rw [e1] at hf;rw [List.length_append,List.length_append];have : k * 100 ≤ 1000 * 100:=Nat.mul_le_mul_right _ ae;omega
 have hrx:=hr k x h1;have hye:=wO ae hys;rw [hyl] at hye
 refine C3 R g1 cap1 _ x aa k ac A O fa fn fc W hwr (hst.cell hA hAR hAg) (hst.cell hO hOR hOg) _ (fun W2 hb2 => ?_)
 rw [← hye] at h3 ⊢
 exact DB R g1 cap1 _ x.1 x.2 fn aa k ac ys W2 (hwr.later hb2) ae ae hyl ae (aA hrow (fun B hB => hb2.block B (ax hrow hB))) hrx.1 hrx.2 ae ae h3
theorem rC (R g cap : Nat) (bs : List Int) (n : Nat) (A : Nat) (w : World) (O : Nat) (fi : Int) (xs : List DaM) (h : Wr w R g cap bs) (hb : bs.length + 300000000000 ≤ 1099511627776) (hn : n ≤ 1000) (hA : w.cell? ⟨A,0,none⟩ = some (cW R)) (hAR : A ≠ R) (hAg : A ≠ g) (hO : w.cell? ⟨O,3,none⟩ = some (.int .i64 fi)) (hOR : O ≠ R) (hOg : O ≠ g) (hf0 : 0 ≤ fi) (hf1 : fi ≤ 64) (hr : ∀ (j : Nat) x,xs[j]? = some x → KG w R g x) (hl : xs.length = n) (e : DaM → List Int) (k : Nat) (he : ∀ (i : Nat) y,xs[i]? = some y → i < k → e y = (dM) y) (hall : ∀ (i : Nat) y,xs[i]? = some y → i < k → (fun (ah : List DaM) x => dm (fi * 4096) ah x) (xs.take i) y = 0)
  (j : Nat) (x : DaM) (hx : xs[j]? = some x) (hjk : j < k) : yj R g w 145 #[.pointer (some ⟨A,0,none⟩),.pointer (some ⟨O,0,none⟩)] bs n xs e (yO) j x:=by
 intro ys W g1 cap1 aa ac hyl hys hst hwr hrow hab;have hlt:=aF hx;have hchk:=hall j x hx hjk
 try simp only at hchk
 have henc:=he j x hx hjk
 have hlen : ((xs.take j).flatMap e).length ≤ j * 300000:=by
  have:=dw e 300000 (xs.take j) (fun i y hi => by
   have hij : i < j:=lW;rw [List.getElem?_take_of_lt hij] at hi;rw [he i y hi ae];have hc:=hall i y hi ae;exact kj ae hc)
  exact mQ
 have hu:=aC (n : Int)
 have hbb : (bs ++ au n ++ (xs.take j).flatMap e).length ≤ bs.length + 10 + 1000 * 300000:=by
  rw [List.length_append,List.length_append];have : j * 300000 ≤ 1000 * 300000:=Nat.mul_le_mul_right _ ae;omega
 have hrx:=hr j x hx;have hti:=vN ae hyl hys
 have hys' : ∀ y ∈ ys,0 ≤ y.1 ∧ y.1 ≤ 1099511627776 ∧ y.2.2.1 ≤ 1099511627776:=fun y hy => by
  obtain ⟨i,hi,rfl⟩:=List.getElem_of_mem hy;obtain ⟨x',hx',hok⟩:=hys i _ (aD hi);have hcx:=hall i x' hx' ae;exact EP
 have hc2 : (0 ≤ x.1 ∧ x.1 ≤ fi * 4096) ∧ jn (xs.take j) x.1 = false ∧ (x.2.2.length : Int) ≤ fi * 4096 - x.1 ∧ x.2.2.length ≠ 0:=by
  unfold dm at hchk
  split at hchk
  ·cases hchk
  ·split at hchk
   ·cases hchk
   ·split at hchk
    ·cases hchk
    ·split at hchk
     ·cases hchk
     ·rename_i q1 q2 q3 q4
      exact ⟨⟨ae,ae⟩,by simpa using q2,ae,q4⟩
 refine (yU R g1 cap1 _ x aa j ac A O fi W hwr (hst.cell hA hAR hAg) (hst.cell hO hOR hOg) hf0 hf1 (fun y => yO x y) (bs ++ au n ++ (xs.take j).flatMap e ++ e x) (fun W2 hb2 => ?_)).mono ?_
 ·refine (wX R g1 cap1 _ x.1 (fi * 4096) x.2.1.1 x.2.1.2.1 x.2.1.2.2 x.2.2 aa j ac ys W2 (hwr.later hb2) ae ae ae hc2.1.1 hc2.1.2 hyl ae hys' (aA hrow (fun B hB => hb2.block B (ax hrow hB))) (by rw [hti]; exact hc2.2.1)
   ((hrx.seg.kept' hst.k (fun b off c hb' => by have:=hrx.ne b off c hb'; simp; omega)).later hb2 (Nat.le_refl _)) (fun b off c hb' => ⟨(hrx.ne b off c hb').1,hst.ne (hrx.lt b off c hb') (hrx.ne b off c hb').2⟩) hc2.2.2.1 hc2.2.2.2).mono ?_
  rintro e' w' ⟨y,he',hy,g',cap',hw',hs'⟩;refine ⟨y,he',hy,g',cap',?_,hs'⟩;rw [henc];exact hw'
 ·exact tS
theorem Gr (R g cap : Nat) (bs : List Int) (ha : Option Addr) (n hc : Nat) (A : Nat) (w : World) (O : Nat) (fi : Int) (xs : List DaM) (h : Wr w R g cap bs) (hb : bs.length + 300000000000 ≤ 1099511627776) (hA : w.cell? ⟨A,0,none⟩ = some (cW R)) (hAR : A ≠ R) (hAg : A ≠ g) (hO : w.cell? ⟨O,3,none⟩ = some (.int .i64 fi)) (hOR : O ≠ R) (hOg : O ≠ g) (hf0 : 0 ≤ fi) (hf1 : fi ≤ 64) (hr : ∀ (j : Nat) x,xs[j]? = some x → KG w R g x) (hmem : lI w ha n xs) (hne : ∀ b off c,ha = some ⟨b,off,c⟩ → b ≠ R ∧ b ≠ g) (hx : bI (fun (ah : List DaM) x => dm (fi * 4096) ah x) 64 xs = 0) :
  Calls Tryz.prog 144 #[cW R,.slice ha n hc,.int .i64 64,.func (.func 145) #[] #[.pointer (some ⟨A,0,none⟩),.pointer (some ⟨O,0,none⟩)]] w fun e w' => ∃ (aa : Option Addr) (ac : Nat) (ys : List (Int × SL)),e = .returned (.slice aa n ac) ∧ ys.length = n ∧ (∀ (i : Nat) y,ys[i]? = some y → ∃ x,xs[i]? = some x ∧ (yO) x y) ∧ ∃ g' cap',Wr w' R g' cap' (bs ++ (au n ++ xs.flatMap (dM))) ∧ Stp R g g' w w':=by
 have hl:=hmem.1;unfold bI at hx
 split at hx
 ·cases hx
 rename_i hm
 have hall:=bo (fun (ah : List DaM) x => dm (fi * 4096) ah x) xs [] hx
 have hall' : ∀ (i : Nat) y,xs[i]? = some y → (fun (ah : List DaM) x => dm (fi * 4096) ah x) (xs.take i) y = 0:=fun i y hi => hall i y hi
 refine (wN R g cap bs ha n hc 64 145 _ w xs (dM) (yO) 300000 h ae ae hmem hne (fun _ _ => rfl) (fun j x hj => by
   have hc:=hall' j x hj;exact kj ae hc) ae ae
  (fun j x hj => rC R g cap bs n A w O fi xs h hb ae hA hAR hAg hO hOR hOg hf0 hf1 hr hl (dM) (j + 1) (fun _ _ _ _ => rfl) (fun i y hi _ => hall' i y hi) j x hj ae)).mono ?_
 exact uo
theorem Lh (R g cap : Nat) (bs : List Int) (ha : Option Addr) (n hc : Nat) (A : Nat) (w : World) (O : Nat) (fi : Int) (xs : List DaM) (h : Wr w R g cap bs) (hb : bs.length + 300000000000 ≤ 1099511627776) (hA : w.cell? ⟨A,0,none⟩ = some (cW R)) (hAR : A ≠ R) (hAg : A ≠ g) (hO : w.cell? ⟨O,3,none⟩ = some (.int .i64 fi)) (hOR : O ≠ R) (hOg : O ≠ g) (hf0 : 0 ≤ fi) (hf1 : fi ≤ 64) (hr : ∀ (j : Nat) x,xs[j]? = some x → KG w R g x) (hmem : lI w ha n xs) (hne : ∀ b off c,ha = some ⟨b,off,c⟩ → b ≠ R ∧ b ≠ g) (hx : bI (fun (ah : List DaM) x => dm (fi * 4096) ah x) 64 xs ≠ 0) :
  Calls Tryz.prog 144 #[cW R,.slice ha n hc,.int .i64 64,.func (.func 145) #[] #[.pointer (some ⟨A,0,none⟩),.pointer (some ⟨O,0,none⟩)]] w (aJ R g (bI (fun (ah : List DaM) x => dm (fi * 4096) ah x) 64 xs) w):=by
 have hl:=hmem.1;unfold bI at hx ⊢
 by_cases hm : (64 : Int) < xs.length
 ·rw [if_pos hm];exact tO R g cap bs ha n hc 64 _ w h ae
 rw [if_neg hm] at hx ⊢
 obtain ⟨k,x,h1,h2,h3,h4⟩:=dG (fun (ah : List DaM) x => dm (fi * 4096) ah x) xs [] hx
 have hall:=bo (fun (ah : List DaM) x => dm (fi * 4096) ah x) (xs.take k) [] h2
 have hall' : ∀ (i : Nat) y,xs[i]? = some y → i < k → (fun (ah : List DaM) x => dm (fi * 4096) ah x) (xs.take i) y = 0:=fun i y hi hik => by
  exact rM
 rw [h4];try simp only [List.nil_append] at h3 ⊢
 obtain ⟨E,hE⟩ : ∃ E : DaM → List Int,E = fun y => if ((dM) y).length ≤ 300000 then (dM) y else []:=⟨_,rfl⟩
 have hEl : ∀ y,(E y).length ≤ 300000:=fun y => by
  rw [hE]
  show (if ((dM) y).length ≤ 300000 then (dM) y else []).length ≤ 300000
  split
  ·assumption
  ·simp
 have hEe : ∀ (i : Nat) z,xs[i]? = some z → i < k → E z = (dM) z:=fun i z hi hik => by
  have hc:=hall' i z hi hik
  have hq : ((dM) z).length ≤ 300000:=by
   exact kj ae hc
  rw [hE];exact if_pos hq
 refine yE R g cap bs ha n hc 64 145 _ w xs E (yO) 300000 h ae ae hmem hne (fun _ _ => rfl) (fun j y hj => hEl y) ae ae k x _ h1
  (fun j y hj hjk => rC R g cap bs n A w O fi xs h hb ae hA hAR hAg hO hOR hOg hf0 hf1 hr hl E k hEe hall' j y hj hjk) ?_
 intro ys W g1 cap1 aa ac hyl hys hst hwr hrow hab;have hlt:=aF h1;have hu:=aC (n : Int)
 have hbb : (bs ++ au n ++ (xs.take k).flatMap E).length ≤ bs.length + 10 + 1000 * 300000:=by
  have hf:=dw E 300000 (xs.take k) (fun i y _ => hEl y)
  rw [List.length_take] at hf;have e1 : min k xs.length = k:=ae;rw [e1] at hf;rw [List.length_append,List.length_append];have : k * 300000 ≤ 1000 * 300000:=Nat.mul_le_mul_right _ ae;omega
 have hrx:=hr k x h1;have hti:=vN ae hyl hys
 have hys' : ∀ y ∈ ys,0 ≤ y.1 ∧ y.1 ≤ 1099511627776 ∧ y.2.2.1 ≤ 1099511627776:=fun y hy => by
  obtain ⟨i,hi,rfl⟩:=List.getElem_of_mem hy;obtain ⟨x',hx',hok⟩:=hys i _ (aD hi);have hcx:=hall' i x' hx' ae;exact EP
 have heq : dm (fi * 4096) (xs.take k) x = pS (fi * 4096) ys x.1 x.2.2.length:=by
  unfold dm pS;rw [hti]
 rw [heq] at h3 ⊢
 refine Df R g1 cap1 _ x aa k ac A O fi W hwr (hst.cell hA hAR hAg) (hst.cell hO hOR hOg) hf0 hf1 _ (fun W2 hb2 => ?_)
 exact zC R g1 cap1 _ x.1 (fi * 4096) x.2.1.1 x.2.1.2.1 x.2.1.2.2 x.2.2 aa k ac ys W2 (hwr.later hb2) ae ae ae hrx.r0 hrx.r1 hyl ae hys' (aA hrow (fun B hB => hb2.block B (ax hrow hB)))
   ((hrx.seg.kept' hst.k (fun b off c hb' => by have:=hrx.ne b off c hb'; simp; omega)).later hb2 (Nat.le_refl _)) (fun b off c hb' => ⟨(hrx.ne b off c hb').1,hst.ne (hrx.lt b off c hb') (hrx.ne b off c hb').2⟩) h3
structure eA (R L g g' : Nat) (w w' : World) : Prop where
 k : aP (fun k => k = R ∨ k = g ∨ k = L) w w'
 m : g' = g ∨ w.heap.size ≤ g'
theorem Stp.toL {R L g g' : Nat} {w w' : World} (h : Stp R g g' w w') : eA R L g g' w w':=⟨h.k.mono (fun k hk => ae),h.m⟩
theorem eA.trans {R L g g' g'' : Nat} {w w1 w2 : World} (h : eA R L g g' w w1) (h' : eA R L g' g'' w1 w2) : eA R L g g'' w w2:=by
 refine ⟨h.k.then h'.k (fun k hk ht => ?_),?_⟩
 ·rcases ht with rfl | rfl | rfl
  ·exact .inl rfl
  ·rcases h.m with h | h
   ·exact .inr (.inl h)
   ·omega
  ·exact .inr (.inr rfl)
 ·exact uA
theorem eA.of_below {R L g : Nat} {w w' : World} (h : Below w.heap.size w w') : eA R L g g w w':=(Stp.of_below h).toL
theorem eA.size {R L g g' : Nat} {w w' : World} (h : eA R L g g' w w') : w.heap.size ≤ w'.heap.size:=h.k.size
theorem eA.block {R L g g' : Nat} {w w' : World} (h : eA R L g g' w w') {b : Nat} (hb : b < w.heap.size) (h1 : b ≠ R) (h2 : b ≠ g) (h3 : b ≠ L) : w'.heap[b]? = w.heap[b]?:=h.k.block b hb (by simp [h1,h2,h3])
theorem eA.cell {R L g g' : Nat} {w w' : World} (h : eA R L g g' w w') {b o : Nat} {v : Value} (hc : w.cell? ⟨b,o,none⟩ = some v) (h1 : b ≠ R) (h2 : b ≠ g) (h3 : b ≠ L) : w'.cell? ⟨b,o,none⟩ = some v:=h.k.cell hc (by simp [h1,h2,h3])
theorem eA.ne {R L g g' b : Nat} {w w' : World} (h : eA R L g g' w w') (hb : b < w.heap.size) (hn : b ≠ g) : b ≠ g':=by
 rcases h.m with rfl | h
 ·exact hn
 ·omega
theorem eA.throw {R L g g1 : Nat} {w W w5 : World} (h : eA R L g g1 w W) (hk : aP (fun k => k = R ∨ k = g1) W w5) : aP (fun k => k = R ∨ k = g ∨ k = L) w w5:=by
 refine h.k.then hk (fun k hkl hh => ?_)
 rcases hh with rfl | rfl
 ·exact .inl rfl
 ·rcases h.m with h | h
  ·exact .inr (.inl h)
  ·omega
section
variable (R g cap : Nat) (bs : List Int) (ty : Int) (lo : ByteArray) (ca : Option Addr) (cn cc : Nat) (aa : Option Addr) (an ac : Nat) (A O L : Nat) (ta : Option Addr) (tn tc : Nat) (left : Int) (w : World)
theorem CL (h : Wr w R g cap bs) (hA : w.cell? ⟨A,0,none⟩ = some (cW R)) (hO : w.cell? ⟨O,0,none⟩ = some (.slice ta tn tc)) (hL : w.cell? ⟨L,0,none⟩ = some (.int .i64 left)) (er : Int)
  (hcall : ∀ W,Below w.heap.size w W → Calls Tryz.prog 143 #[cW R,.agg #[.int .i64 ty,.string lo,.slice ca cn cc],.slice ta tn tc,.int .i64 left] W (aJ R g er W)) :
  Calls Tryz.prog 142 #[.agg #[.int .i64 ty,.string lo,.slice ca cn cc],.slice aa an ac,.pointer (some ⟨A,0,none⟩),.pointer (some ⟨O,0,none⟩),.pointer (some ⟨L,0,none⟩)] w (aJ R g er w):=by
 obtain ⟨B0,z0,x0,x1⟩:=gh w (bf ty lo ca cn cc) (bf 0 ⟨#[]⟩ none 0 0);have hRl:=h.lt;have hgl:=h.g_lt;have hA1:=(B0.cell gH).trans hA;have hO1:=(B0.cell (p:=⟨O,0,none⟩) nQ).trans hO
 have hL1:=(B0.cell (p:=⟨L,0,none⟩) (by exact block_lt_of_cell hL)).trans hL
 have HC:=hid (hcall _ B0);obtain ⟨W1,hW1⟩ : ∃ W1,(w.alloc (bf ty lo ca cn cc)).alloc (bf 0 ⟨#[]⟩ none 0 0) = W1:=⟨_,rfl⟩;rw [hW1] at B0 z0 x0 x1 hA1 HC hO1 hL1;have BW:=hid B0;obtain ⟨a0,a1,a2,_,_,_⟩:=aH x0;clear h B0 hA hcall hO hL
 go_enter Tryz.func142,Tryz.ntmps142
 exact m8
theorem yM (h : Wr w R g cap bs) (hA : w.cell? ⟨A,0,none⟩ = some (cW R)) (hO : w.cell? ⟨O,0,none⟩ = some (.slice ta tn tc)) (hL : w.cell? ⟨L,0,none⟩ = some (.int .i64 left)) (hLf : w.frozen? ⟨L,0,none⟩ = false) (hLR : L ≠ R) (hLg : L ≠ g) (hl0 : (cn : Int) ≤ left) (hl1 : left ≤ 100000) (new : List Int)
  (hcall : ∀ W,Below w.heap.size w W → Calls Tryz.prog 143 #[cW R,.agg #[.int .i64 ty,.string lo,.slice ca cn cc],.slice ta tn tc,.int .i64 left] W (fun e w' => ∃ (fa : Option Addr) (fc : Nat),e = .returned (.agg #[.int .i64 ty,.string lo,.slice fa cn fc]) ∧ ∃ g' cap',Wr w' R g' cap' new ∧ Stp R g g' W w')) :
  Calls Tryz.prog 142 #[.agg #[.int .i64 ty,.string lo,.slice ca cn cc],.slice aa an ac,.pointer (some ⟨A,0,none⟩),.pointer (some ⟨O,0,none⟩),.pointer (some ⟨L,0,none⟩)] w
   (fun e w' => ∃ (fa : Option Addr) (fc : Nat),e = .returned (.agg #[.int .i64 ty,.string lo,.slice fa cn fc]) ∧ w'.cell? ⟨L,0,none⟩ = some (.int .i64 (left - cn)) ∧ w'.frozen? ⟨L,0,none⟩ = false ∧ ∃ g' cap',Wr w' R g' cap' new ∧ aP (fun k => k = R ∨ k = g ∨ k = L) w w' ∧ (g' = g ∨ w.heap.size ≤ g')):=by
 obtain ⟨B0,z0,x0,x1⟩:=gh w (bf ty lo ca cn cc) (bf 0 ⟨#[]⟩ none 0 0);have hRl:=h.lt;have hgl:=h.g_lt;have hLl:=block_lt_of_cell hL;have hA1:=(B0.cell gH).trans hA;have hO1:=(B0.cell (p:=⟨O,0,none⟩) nQ).trans hO
 have hL1:=(B0.cell (p:=⟨L,0,none⟩) (by exact hLl)).trans hL
 have hLf1:=(B0.frozen (p:=⟨L,0,none⟩) (by exact hLl)).trans hLf
 have HC:=hid (hcall _ B0);obtain ⟨W1,hW1⟩ : ∃ W1,(w.alloc (bf ty lo ca cn cc)).alloc (bf 0 ⟨#[]⟩ none 0 0) = W1:=⟨_,rfl⟩;rw [hW1] at B0 z0 x0 x1 hA1 HC hO1 hL1 hLf1;have BW:=hid B0;obtain ⟨a0,a1,a2,_,_,_⟩:=aH x0;have hsub : wrap64 (left - (cn : Int)) = left - cn:=eu;clear h B0 hA hcall hO hL hLf
 go_enter Tryz.func142,Tryz.ntmps142
 go_wp2_with fail;refine HC.out.mono ?_;rintro e w5 ⟨fa,fc,rfl,g',cap',hw5,hs5⟩;have q1:=(hs5.block (b:=w.heap.size + 1) ae ae ae).trans x1;have n1 : w.heap.size + 1 ≠ g':=hs5.ne ae ae;have nL : L ≠ g':=hs5.ne ae hLg;have l1:=hs5.cell (b:=L) hL1 hLR hLg;have l2:=(bt (hs5.block (b:=L) ae hLR hLg) 0).trans hLf1;have z5:=hs5.size;have W5:=hid hw5;have S5:=hid ((Stp.of_below BW.out).trans hs5);have BN:=hid (ag w5 (bf ty lo fa cn fc));have q2:=(BN.out.block (w.heap.size + 1) ae).trans q1
 have l3:=(BN.out.cell (p:=⟨L,0,none⟩) (by exact block_lt_of_cell l1)).trans l1
 have l4:=(BN.out.frozen (p:=⟨L,0,none⟩) (by exact block_lt_of_cell l1)).trans l2
 have nb:=(MapKept.heap_alloc w5 (bf ty lo fa cn fc)).1;obtain ⟨k0,k1,k2,k3,k4,k5⟩:=aH q2;obtain ⟨j0,j1,j2,_,_,_⟩:=aH nb;clear hw5 hs5 x0 x1 q1 HC hL1 hLf1 l1 l2;have hz6 : (w5.alloc (bf ty lo fa cn fc)).heap.size = w5.heap.size + 1:=ar;go_wp2_with fail;refine bodyPost_ret (v:=.agg #[.int .i64 ty,.string lo,.slice fa cn fc]) ?_ rfl ⟨fa,fc,rfl,?_,?_,g',cap',?_,?_,S5.out.m⟩
 ·exact fF
 ·rw [World.cell?_setCell_other _ _ _ _ ar,World.cell?_setCell_other _ _ _ _ ar,World.cell?_setCell_other _ _ _ _ ar];exact World.cell?_setCell_same _ _ _ l3
 ·simp only [World.frozen?_setCell]
  exact l4
 ·exact ((((W5.out.later BN.out).set (b:=L) hLR nL).set (b:=w.heap.size + 1) ae n1).set (b:=w.heap.size + 1) ae n1).set (b:=w.heap.size + 1) ae n1
 ·have hk:=(S5.out.k.mono (T:=fun k => k = R ∨ k = g ∨ k = L) (fun k hk => ae)).trans (bA BN.out)
  have hk2:=hk.then (az _ L 0 (.int .i64 (left - cn))) (fun k _ h => ae)
  exact ((hk2.then (az _ (w.heap.size + 1) 0 _) (fun k _ h => ae)).then (az _ (w.heap.size + 1) 1 _) (fun k _ h => ae)).then (az _ (w.heap.size + 1) 2 _) (fun k _ h => ae)
end
end Go.Proofs.YtheefojaplnnoaaGreatDoor
