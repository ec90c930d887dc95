/-
  Texts Sa Sb Lex.
-/
import Derived.Test.YtkdldbfbldkkcaaGreatDoorM00
import Derived.Test.YtkdldbfbldkkcaaGreatDoorM03
import Derived.Test.YtkdldbfbldkkcaaGreatDoorM04
import Derived.Test.YtkdldbfbldkkcaaGreatDoorM19
import Derived.Test.YtkdldbfbldkkcaaGreatDoorM20
import Derived.Test.YtkdldbfbldkkcaaGreatDoorM21
import Derived.Test.YtkdldbfbldkkcaaGreatDoorM23
set_option linter.unusedVariables false
set_option maxRecDepth 100000
set_option maxHeartbeats 16000000
namespace Go.Proofs.YtkdldbfbldkkcaaGreatDoor
open Go.RowKit
theorem Dm {w : World} {b i : Nat} {cs : Array Value} {t : TypeId} {v : Value} (h : w.heap[b]? = some (.cells cs t)) (hi : i < cs.size) : (w.setCell ⟨b,i,none⟩ v).heap[b]? = some (.cells (cs.setIfInBounds i v) t):=by
 have hb : b < w.heap.size:=by
  rcases Nat.lt_or_ge b w.heap.size with hl | hl
  ·exact hl
  ·rw [Array.getElem?_eq_none hl] at h; cases h
 have hg : w.heap[b] = .cells cs t:=by rw [Array.getElem?_eq_getElem hb] at h; simpa using h
 simp [World.setCell,hb,Array.getElem_modify,hg]
theorem aN {w : World} {b : Nat} {v0 v1 v2 v3 v4 v5 v6 v7 : Value} {t : TypeId} (h : w.heap[b]? = some (.cells #[v0,v1,v2,v3,v4,v5,v6,v7] t)) :
  (w.cell? ⟨b,0,none⟩ = some v0 ∧ w.cell? ⟨b,1,none⟩ = some v1 ∧ w.cell? ⟨b,2,none⟩ = some v2 ∧ w.cell? ⟨b,3,none⟩ = some v3 ∧ w.cell? ⟨b,4,none⟩ = some v4 ∧ w.cell? ⟨b,5,none⟩ = some v5 ∧ w.cell? ⟨b,6,none⟩ = some v6 ∧ w.cell? ⟨b,7,none⟩ = some v7) ∧
  (w.frozen? ⟨b,0,none⟩ = false ∧ w.frozen? ⟨b,1,none⟩ = false ∧ w.frozen? ⟨b,2,none⟩ = false ∧ w.frozen? ⟨b,3,none⟩ = false ∧ w.frozen? ⟨b,4,none⟩ = false ∧ w.frozen? ⟨b,5,none⟩ = false ∧ w.frozen? ⟨b,6,none⟩ = false ∧ w.frozen? ⟨b,7,none⟩ = false):=by
 simp [World.cell?,World.frozen?,h]
theorem ok_eq {α : Type} {xs ys : List α} (hl : ys.length ≤ xs.length) (h : ∀ (i : Nat) y,ys[i]? = some y → ∃ x,xs[i]? = some x ∧ y = x) : ys = xs.take ys.length:=by
 apply List.ext_getElem?
 intro i
 by_cases hi : i < ys.length
 ·rw [List.getElem?_take_of_lt hi];obtain ⟨x,h1,h2⟩:=h i ys[i] (ba hi);rw [ba hi,h1,h2]
 ·rw [List.getElem?_eq_none ae,List.getElem?_eq_none aI]
theorem pM {w : World} {aa : Option Addr} {j ac : Nat} {ys : List Sg} (hl : ys.length = j) (hj : j ≤ 1099511627776) (h : w.ownsRow 0 56 2 (.slice aa j ac) j (ys.flatMap gv)) : cr w aa j ys:=by
 refine ⟨hl,hj,?_⟩
 rcases Nat.eq_zero_or_pos j with h0 | h0
 ·exact .inl h0
 ·right;obtain ⟨y,hy⟩ : ∃ y,ys[0]? = some y:=⟨_,ba ae⟩
  obtain ⟨B,hB,_⟩:=iM (oc:=gv) (t:=0) (u:=.string y.1) (fun _ => rfl) h hy rfl
  refine ⟨B,0,hB,fun i x hi => ?_⟩
  obtain ⟨B1,hB1,c1⟩:=iM (oc:=gv) (t:=0) (u:=.string x.1) (fun _ => rfl) h hi rfl
  obtain ⟨B2,hB2,c2⟩:=iM (oc:=gv) (t:=1) (u:=.string x.2) (fun _ => rfl) h hi rfl
  rw [hB] at hB1 hB2
  simp at hB1 hB2
  subst hB1 hB2
  exact ⟨by simpa using c1,by simpa using c2⟩
section
variable (R g cap : Nat) (bs : List Int) (ha : Option Addr) (n hc : Nat) (A : Nat) (w : World)
theorem vh (xs : List Sg) (h : Wr w R g cap bs) (hb : bs.length + 300000000000 ≤ 1099511627776) (hn : n ≤ 100000) (hA : w.cell? ⟨A,0,none⟩ = some (cW R)) (hAR : A ≠ R) (hAg : A ≠ g) (hl : xs.length = n) (enc : Sg → List Int) (k : Nat) (henc : ∀ (i : Nat) y,xs[i]? = some y → i < k → enc y = bX y) (hall : ∀ (i : Nat) y,xs[i]? = some y → i < k → cZ (xs.take i) y = 0)
  (j : Nat) (x : Sg) (hx : xs[j]? = some x) (hjk : j < k) : uI R g w 89 #[.pointer (some ⟨A,0,none⟩)] bs n xs enc (fun x y => y = x) j x:=by
 intro ys W g1 cap1 aa ac hyl hys hst hwr hrow hab;have hlt:=az hx;have hye:=ok_eq ae hys;rw [hyl] at hye;have hchk:=hall j x hx hjk;have hok:=fJ hchk
 have hlen : ((xs.take j).flatMap enc).length ≤ j * 36:=by
  have:=cT enc 36 (xs.take j) (fun i y hi => by
   have hij : i < j:=kZ;rw [List.getElem?_take_of_lt hij] at hi;rw [henc i y hi ae]
   have:=fJ (hall i y hi ae)
   exact i4 y this.1 this.2.2.1)
  exact Cv
 have hu:=aK (n : Int);have hRs:=hst.size
 refine (xz R g1 cap1 _ x aa j ac A W hwr (hst.cell hA hAR hAg) (fun y => y = x) (bs ++ aw n ++ (xs.take j).flatMap enc ++ enc x) (fun W2 hb2 => ?_)).mono ?_
 ·have hsig:=(pM hyl ae hrow).later hb2;rw [hye] at hsig
  refine (xA R g1 cap1 _ x.1 x.2 aa j ac (xs.take j) W2 (hwr.later hb2) pP hsig (fun b off c hbb => ⟨?_,(hab _ hbb).2⟩) hchk).mono ?_
  ·have h1:=(hab _ hbb).1;have h2:=h.lt
   simp only at h1
   omega
  ·rintro e w' ⟨he,g',cap',hw',hs'⟩;refine ⟨x,he,rfl,g',cap',?_,hs'⟩;rw [henc j x hx hjk];exact hw'
 ·rintro e w' ⟨y,he,hy,g',cap',hw',hs'⟩;exact ⟨y,he,hy,g',cap',hw',hs'⟩
theorem CU (xs : List Sg) (h : Wr w R g cap bs) (hb : bs.length + 300000000000 ≤ 1099511627776) (hA : w.cell? ⟨A,0,none⟩ = some (cW R)) (hAR : A ≠ R) (hAg : A ≠ g) (hmem : i5 w ha n xs) (hne : ∀ b off c,ha = some ⟨b,off,c⟩ → b ≠ R ∧ b ≠ g) (hx : bS cZ 64 xs = 0) :
  Calls Tryz.prog 88 #[cW R,.slice ha n hc,.int .i64 64,.func (.func 89) #[] #[.pointer (some ⟨A,0,none⟩)]] w fun e w' => ∃ (aa : Option Addr) (ac : Nat),e = .returned (.slice aa n ac) ∧ cr w' aa n xs ∧ ∃ g' cap',(∀ b,aa = some b → w.heap.size ≤ b.block ∧ b.block ≠ g' ∧ b.block < w'.heap.size) ∧ Wr w' R g' cap' (bs ++ (aw n ++ xs.flatMap bX)) ∧ Stp R g g' w w':=by
 have hl:=hmem.1;unfold bS at hx
 split at hx
 ·cases hx
 rename_i hm
 have hall:=bu cZ xs [] hx
 have hall' : ∀ (i : Nat) y,xs[i]? = some y → cZ (xs.take i) y = 0:=fun i y hi => by simpa using hall i y hi
 refine (wK R g cap bs ha n hc 64 89 _ w xs bX (fun x y => y = x) 36 h ae ae hmem hne (fun _ _ => rfl) (fun j x hj => by have:=fJ (hall' j x hj); exact i4 x this.1 this.2.2.1) ae ae
  (fun j x hj => vh R g cap bs n A w xs h hb ae hA hAR hAg hl bX (j + 1) (fun _ _ _ _ => rfl) (fun i y hi _ => hall' i y hi) j x hj ae)).mono ?_
 rintro e w' ⟨aa,ac,ys,he,hyl,hys,hrow,g',cap',hab,hw',hs'⟩;have hye:=ok_eq ae hys;rw [hyl,List.take_of_length_le ae] at hye;subst hye
 exact ⟨aa,ac,he,pM hyl ae hrow,g',cap',fun b hb' => ⟨(hab b hb').1,(hab b hb').2,aF hrow (rE hrow hb')⟩,tQ,hs'⟩
theorem Gp (xs : List Sg) (h : Wr w R g cap bs) (hb : bs.length + 300000000000 ≤ 1099511627776) (hA : w.cell? ⟨A,0,none⟩ = some (cW R)) (hAR : A ≠ R) (hAg : A ≠ g) (hmem : i5 w ha n xs) (hne : ∀ b off c,ha = some ⟨b,off,c⟩ → b ≠ R ∧ b ≠ g) (hx : bS cZ 64 xs ≠ 0) :
  Calls Tryz.prog 88 #[cW R,.slice ha n hc,.int .i64 64,.func (.func 89) #[] #[.pointer (some ⟨A,0,none⟩)]] w (aU R g (bS cZ 64 xs) w):=by
 have hl:=hmem.1;unfold bS at hx ⊢
 by_cases hm : (64 : Int) < xs.length
 ·rw [if_pos hm];exact rZ R g cap bs ha n hc 64 _ w h ae
 rw [if_neg hm] at hx ⊢;obtain ⟨k,x,h1,h2,h3,h4⟩:=dm cZ xs [] hx;have hall:=bu cZ (xs.take k) [] h2
 have hall' : ∀ (i : Nat) y,xs[i]? = some y → i < k → cZ (xs.take i) y = 0:=fun i y hi hik => by
  have:=hall i y xj
  rw [List.take_take] at this;have e : min i k = i:=ae;rw [e] at this;exact cm
 rw [h4]
 simp only [List.nil_append] at h3 h4 ⊢
 refine xp R g cap bs ha n hc 64 89 _ w xs (fun y => if y.1.size ≤ 8 ∧ y.2.size ≤ 8 then bX y else []) (fun x y => y = x) 36 h ae ae hmem hne (fun _ _ => rfl) (fun j y hj => ?_) ae ae k x _ h1
  (fun j y hj hjk => vh R g cap bs n A w xs h hb ae hA hAR hAg hl _ k (fun i z hi hik => ?_) hall' j y hj hjk) ?_
 ·show (if y.1.size ≤ 8 ∧ y.2.size ≤ 8 then bX y else []).length ≤ 36
  split
  ·rename_i hh; exact i4 y hh.1 hh.2
  ·simp
 ·have:=fJ (hall' i z hi hik)
  exact if_pos ⟨this.1,this.2.2.1⟩
 ·intro ys W g1 cap1 aa ac hyl hys hst hwr hrow hab;have hlt:=az h1;have hye:=ok_eq ae hys;rw [hyl] at hye
  refine Dj R g1 cap1 _ x aa k ac A W hwr (hst.cell hA hAR hAg) _ (fun W2 hb2 => ?_)
  have hsig:=(pM hyl ae hrow).later hb2;rw [hye] at hsig
  have hbb2 : ((xs.take k).flatMap (fun y => if y.1.size ≤ 8 ∧ y.2.size ≤ 8 then bX y else [])).length ≤ k * 36:=by
   have:=cT (fun y : Sg => if y.1.size ≤ 8 ∧ y.2.size ≤ 8 then bX y else []) 36 (xs.take k) (fun i y hi => by
    show (if y.1.size ≤ 8 ∧ y.2.size ≤ 8 then bX y else []).length ≤ 36
    split
    ·rename_i hh; exact i4 y hh.1 hh.2
    ·simp)
   rw [List.length_take] at this;have e : min k xs.length = k:=ae
   rwa [e] at this
  have hu:=aK (n : Int)
  exact CV R g1 cap1 _ x.1 x.2 aa k ac (xs.take k) W2 (hwr.later hb2) pP hsig (fun b off c hbb => ⟨by have q1:=(hab _ hbb).1; have q2:=h.lt; simp only at q1; omega,(hab _ hbb).2⟩) h3
end
theorem qE (R g cap : Nat) (bs : List Int) (n : Nat) (A : Nat) (w : World) (O : Nat) (ta : Option Addr) (tn tc : Nat) (xs : List Int) (h : Wr w R g cap bs) (hb : bs.length + 300000000000 ≤ 1099511627776) (hn : n ≤ 1000) (hA : w.cell? ⟨A,0,none⟩ = some (cW R)) (hAR : A ≠ R) (hAg : A ≠ g) (hO : w.cell? ⟨O,0,none⟩ = some (.slice ta tn tc)) (hOR : O ≠ R) (hOg : O ≠ g) (htn : tn ≤ 100000) (hr : ∀ (j : Nat) x,xs[j]? = some x → -9223372036854775808 ≤ x ∧ x < 9223372036854775808) (hl : xs.length = n) (e : Int → List Int) (k : Nat) (he : ∀ (i : Nat) y,xs[i]? = some y → i < k → e y = (fun x => aw x) y) (hall : ∀ (i : Nat) y,xs[i]? = some y → i < k → (fun (_ : List Int) x => cd tn x) (xs.take i) y = 0)
  (j : Nat) (x : Int) (hx : xs[j]? = some x) (hjk : j < k) : xM R g w 92 #[.pointer (some ⟨A,0,none⟩),.pointer (some ⟨O,0,none⟩)] bs n xs e (fun x y => y = x) j x:=by
 intro ys W g1 cap1 aa ac hyl hys hst hwr hrow hab;have hlt:=az hx;have hchk:=hall j x hx hjk
 try simp only at hchk
 have henc:=he j x hx hjk
 have hlen : ((xs.take j).flatMap e).length ≤ j * 10:=by
  have:=cT e 10 (xs.take j) (fun i y hi => by
   have hij : i < j:=kZ;rw [List.getElem?_take_of_lt hij] at hi;rw [he i y hi ae];have hc:=hall i y hi ae;exact (aK y).2)
  exact lX
 have hu:=aK (n : Int)
 have hbb : (bs ++ aw n ++ (xs.take j).flatMap e).length ≤ bs.length + 10 + 1000 * 10:=by
  rw [List.length_append,List.length_append];have : j * 10 ≤ 1000 * 10:=Nat.mul_le_mul_right _ ae;omega
 have hc' : 0 ≤ x ∧ x < tn:=by
  unfold cd at hchk
  split at hchk
  ·cases hchk
  ·omega
 refine (zC R g1 cap1 _ x aa j ac A O ta tn tc W hwr ae (hst.cell hA hAR hAg) (hst.cell hO hOR hOg) hc'.1 hc'.2 htn).mono ?_;exact sF
theorem Dl (R g cap : Nat) (bs : List Int) (ha : Option Addr) (n hc : Nat) (A : Nat) (w : World) (O : Nat) (ta : Option Addr) (tn tc : Nat) (xs : List Int) (h : Wr w R g cap bs) (hb : bs.length + 300000000000 ≤ 1099511627776) (hA : w.cell? ⟨A,0,none⟩ = some (cW R)) (hAR : A ≠ R) (hAg : A ≠ g) (hO : w.cell? ⟨O,0,none⟩ = some (.slice ta tn tc)) (hOR : O ≠ R) (hOg : O ≠ g) (htn : tn ≤ 100000) (hr : ∀ (j : Nat) x,xs[j]? = some x → -9223372036854775808 ≤ x ∧ x < 9223372036854775808) (hmem : pU w ha n xs) (hne : ∀ b off c,ha = some ⟨b,off,c⟩ → b ≠ R ∧ b ≠ g) (hx : bS (fun (_ : List Int) x => cd tn x) 32 xs = 0) :
  Calls Tryz.prog 91 #[cW R,.slice ha n hc,.int .i64 32,.func (.func 92) #[] #[.pointer (some ⟨A,0,none⟩),.pointer (some ⟨O,0,none⟩)]] w fun e w' => ∃ (aa : Option Addr) (ac : Nat) (ys : List Int),e = .returned (.slice aa n ac) ∧ ys.length = n ∧ (∀ (i : Nat) y,ys[i]? = some y → ∃ x,xs[i]? = some x ∧ (fun x y => y = x) x y) ∧ ∃ g' cap',Wr w' R g' cap' (bs ++ (aw n ++ xs.flatMap (fun x => aw x))) ∧ Stp R g g' w w':=by
 have hl:=hmem.1;unfold bS at hx
 split at hx
 ·cases hx
 rename_i hm
 have hall:=bu (fun (_ : List Int) x => cd tn x) xs [] hx
 have hall' : ∀ (i : Nat) y,xs[i]? = some y → (fun (_ : List Int) x => cd tn x) (xs.take i) y = 0:=fun i y hi => hall i y hi
 refine (vR R g cap bs ha n hc 32 92 _ w xs (fun x => aw x) (fun x y => y = x) 10 h ae ae hmem hne (fun _ _ => rfl) (fun j x hj => by
   have hc:=hall' j x hj;exact (aK x).2) ae ae
  (fun j x hj => qE R g cap bs n A w O ta tn tc xs h hb ae hA hAR hAg hO hOR hOg htn hr hl (fun x => aw x) (j + 1) (fun _ _ _ _ => rfl) (fun i y hi _ => hall' i y hi) j x hj ae)).mono ?_
 exact tM
theorem IR (R g cap : Nat) (bs : List Int) (ha : Option Addr) (n hc : Nat) (A : Nat) (w : World) (O : Nat) (ta : Option Addr) (tn tc : Nat) (xs : List Int) (h : Wr w R g cap bs) (hb : bs.length + 300000000000 ≤ 1099511627776) (hA : w.cell? ⟨A,0,none⟩ = some (cW R)) (hAR : A ≠ R) (hAg : A ≠ g) (hO : w.cell? ⟨O,0,none⟩ = some (.slice ta tn tc)) (hOR : O ≠ R) (hOg : O ≠ g) (htn : tn ≤ 100000) (hr : ∀ (j : Nat) x,xs[j]? = some x → -9223372036854775808 ≤ x ∧ x < 9223372036854775808) (hmem : pU w ha n xs) (hne : ∀ b off c,ha = some ⟨b,off,c⟩ → b ≠ R ∧ b ≠ g) (hx : bS (fun (_ : List Int) x => cd tn x) 32 xs ≠ 0) :
  Calls Tryz.prog 91 #[cW R,.slice ha n hc,.int .i64 32,.func (.func 92) #[] #[.pointer (some ⟨A,0,none⟩),.pointer (some ⟨O,0,none⟩)]] w (aU R g (bS (fun (_ : List Int) x => cd tn x) 32 xs) w):=by
 have hl:=hmem.1;unfold bS at hx ⊢
 by_cases hm : (32 : Int) < xs.length
 ·rw [if_pos hm];exact rW R g cap bs ha n hc 32 _ w h ae
 rw [if_neg hm] at hx ⊢
 obtain ⟨k,x,h1,h2,h3,h4⟩:=dm (fun (_ : List Int) x => cd tn x) xs [] hx
 have hall:=bu (fun (_ : List Int) x => cd tn x) (xs.take k) [] h2
 have hall' : ∀ (i : Nat) y,xs[i]? = some y → i < k → (fun (_ : List Int) x => cd tn x) (xs.take i) y = 0:=fun i y hi hik => by
  exact tu
 rw [h4];try simp only [List.nil_append] at h3 ⊢
 obtain ⟨E,hE⟩ : ∃ E : Int → List Int,E = fun y => if ((fun x => aw x) y).length ≤ 10 then (fun x => aw x) y else []:=⟨_,rfl⟩
 have hEl : ∀ y,(E y).length ≤ 10:=fun y => by
  rw [hE]
  show (if ((fun x => aw x) y).length ≤ 10 then (fun x => aw x) y else []).length ≤ 10
  split
  ·assumption
  ·simp
 have hEe : ∀ (i : Nat) z,xs[i]? = some z → i < k → E z = (fun x => aw x) z:=fun i z hi hik => by
  have hc:=hall' i z hi hik
  have hq : ((fun x => aw x) z).length ≤ 10:=by
   exact (aK z).2
  rw [hE];exact if_pos hq
 refine zh R g cap bs ha n hc 32 92 _ w xs E (fun x y => y = x) 10 h ae ae hmem hne (fun _ _ => rfl) (fun j y hj => hEl y) ae ae k x _ h1
  (fun j y hj hjk => qE R g cap bs n A w O ta tn tc xs h hb ae hA hAR hAg hO hOR hOg htn hr hl E k hEe hall' j y hj hjk) ?_
 intro ys W g1 cap1 aa ac hyl hys hst hwr hrow hab;have hlt:=az h1;have hu:=aK (n : Int)
 have hbb : (bs ++ aw n ++ (xs.take k).flatMap E).length ≤ bs.length + 10 + 1000 * 10:=by
  have hf:=cT E 10 (xs.take k) (fun i y _ => hEl y)
  rw [List.length_take] at hf;have e1 : min k xs.length = k:=ae;rw [e1] at hf;rw [List.length_append,List.length_append];have : k * 10 ≤ 1000 * 10:=Nat.mul_le_mul_right _ ae;omega
 have hbad : x < 0 ∨ (tn : Int) ≤ x:=by
  unfold cd at h3
  by_cases hq : x < 0 ∨ (tn : Int) ≤ x
  ·exact hq
  ·rw [if_neg hq] at h3; exact absurd rfl h3
 have hq30 : cd tn x = 30:=by unfold cd; rw [if_pos hbad]
 rw [hq30];exact DN R g1 cap1 _ x aa k ac A O ta tn tc W hwr (hst.cell hA hAR hAg) (hst.cell hO hOR hOg) (hr k x h1).1 (hr k x h1).2 hbad htn
theorem lV (R g cap : Nat) (bs : List Int) (n : Nat) (A : Nat) (w : World) (xs : List Gl) (h : Wr w R g cap bs) (hb : bs.length + 300000000000 ≤ 1099511627776) (hn : n ≤ 1000) (hA : w.cell? ⟨A,0,none⟩ = some (cW R)) (hAR : A ≠ R) (hAg : A ≠ g) (hr : ∀ (j : Nat) x,xs[j]? = some x → 0 ≤ x.1 ∧ x.1 ≤ 255 ∧ 0 ≤ x.2.2 ∧ x.2.2 < 18446744073709551616) (hl : xs.length = n) (e : Gl → List Int) (k : Nat) (he : ∀ (i : Nat) y,xs[i]? = some y → i < k → e y = (cQ) y) (hall : ∀ (i : Nat) y,xs[i]? = some y → i < k → (fun (_ : List Gl) x => iR x) (xs.take i) y = 0)
  (j : Nat) (x : Gl) (hx : xs[j]? = some x) (hjk : j < k) : yN R g w 95 #[.pointer (some ⟨A,0,none⟩)] bs n xs e (fun x y => y = x) j x:=by
 intro ys W g1 cap1 aa ac hyl hys hst hwr hrow hab;have hlt:=az hx;have hchk:=hall j x hx hjk
 try simp only at hchk
 have henc:=he j x hx hjk
 have hlen : ((xs.take j).flatMap e).length ≤ j * 12:=by
  have:=cT e 12 (xs.take j) (fun i y hi => by
   have hij : i < j:=kZ;rw [List.getElem?_take_of_lt hij] at hi;rw [he i y hi ae];have hc:=hall i y hi ae;exact lK y)
  exact lX
 have hu:=aK (n : Int)
 have hbb : (bs ++ aw n ++ (xs.take j).flatMap e).length ≤ bs.length + 10 + 1000 * 12:=by
  rw [List.length_append,List.length_append];have : j * 12 ≤ 1000 * 12:=Nat.mul_le_mul_right _ ae;omega
 have hrx:=hr j x hx
 have hc' : isL x.1 = true ∧ eu x.2.2 x.1 = true:=by
  unfold iR at hchk
  split at hchk
  ·cases hchk
  ·split at hchk
   ·cases hchk
   ·simp_all
 have hv : x.1 = 119 → x.2.2 < 4294967296:=fun h119 => by
  have:=hc'.2
  rw [h119] at this
  simpa [eu] using this
 refine (zg R g1 cap1 _ x aa j ac A W hwr (hst.cell hA hAR hAg) (fun y => y = x) (bs ++ aw n ++ (xs.take j).flatMap e ++ e x) (fun W2 hb2 => ?_)).mono ?_
 ·refine (vq R g1 cap1 _ x.1 x.2.2 x.2.1 W2 (hwr.later hb2) ae hrx.1 hrx.2.1 hrx.2.2.1 hrx.2.2.2 hc'.1 hv).mono ?_;exact sF
 ·exact sZ
theorem xd (R g cap : Nat) (bs : List Int) (ha : Option Addr) (n hc : Nat) (A : Nat) (w : World) (xs : List Gl) (h : Wr w R g cap bs) (hb : bs.length + 300000000000 ≤ 1099511627776) (hA : w.cell? ⟨A,0,none⟩ = some (cW R)) (hAR : A ≠ R) (hAg : A ≠ g) (hr : ∀ (j : Nat) x,xs[j]? = some x → 0 ≤ x.1 ∧ x.1 ≤ 255 ∧ 0 ≤ x.2.2 ∧ x.2.2 < 18446744073709551616) (hmem : na w ha n xs) (hne : ∀ b off c,ha = some ⟨b,off,c⟩ → b ≠ R ∧ b ≠ g) (hx : bS (fun (_ : List Gl) x => iR x) 64 xs = 0) :
  Calls Tryz.prog 94 #[cW R,.slice ha n hc,.int .i64 64,.func (.func 95) #[] #[.pointer (some ⟨A,0,none⟩)]] w fun e w' => ∃ (aa : Option Addr) (ac : Nat) (ys : List Gl),e = .returned (.slice aa n ac) ∧ ys.length = n ∧ (∀ (i : Nat) y,ys[i]? = some y → ∃ x,xs[i]? = some x ∧ (fun x y => y = x) x y) ∧ ∃ g' cap',Wr w' R g' cap' (bs ++ (aw n ++ xs.flatMap (cQ))) ∧ Stp R g g' w w':=by
 have hl:=hmem.1;unfold bS at hx
 split at hx
 ·cases hx
 rename_i hm
 have hall:=bu (fun (_ : List Gl) x => iR x) xs [] hx
 have hall' : ∀ (i : Nat) y,xs[i]? = some y → (fun (_ : List Gl) x => iR x) (xs.take i) y = 0:=fun i y hi => hall i y hi
 refine (vz R g cap bs ha n hc 64 95 _ w xs (cQ) (fun x y => y = x) 12 h ae ae hmem hne (fun _ _ => rfl) (fun j x hj => by
   have hc:=hall' j x hj;exact lK x) ae ae
  (fun j x hj => lV R g cap bs n A w xs h hb ae hA hAR hAg hr hl (cQ) (j + 1) (fun _ _ _ _ => rfl) (fun i y hi _ => hall' i y hi) j x hj ae)).mono ?_
 exact tM
theorem zE (R g cap : Nat) (bs : List Int) (ha : Option Addr) (n hc : Nat) (A : Nat) (w : World) (xs : List Gl) (h : Wr w R g cap bs) (hb : bs.length + 300000000000 ≤ 1099511627776) (hA : w.cell? ⟨A,0,none⟩ = some (cW R)) (hAR : A ≠ R) (hAg : A ≠ g) (hr : ∀ (j : Nat) x,xs[j]? = some x → 0 ≤ x.1 ∧ x.1 ≤ 255 ∧ 0 ≤ x.2.2 ∧ x.2.2 < 18446744073709551616) (hmem : na w ha n xs) (hne : ∀ b off c,ha = some ⟨b,off,c⟩ → b ≠ R ∧ b ≠ g) (hx : bS (fun (_ : List Gl) x => iR x) 64 xs ≠ 0) :
  Calls Tryz.prog 94 #[cW R,.slice ha n hc,.int .i64 64,.func (.func 95) #[] #[.pointer (some ⟨A,0,none⟩)]] w (aU R g (bS (fun (_ : List Gl) x => iR x) 64 xs) w):=by
 have hl:=hmem.1;unfold bS at hx ⊢
 by_cases hm : (64 : Int) < xs.length
 ·rw [if_pos hm];exact uM R g cap bs ha n hc 64 _ w h ae
 rw [if_neg hm] at hx ⊢
 obtain ⟨k,x,h1,h2,h3,h4⟩:=dm (fun (_ : List Gl) x => iR x) xs [] hx
 have hall:=bu (fun (_ : List Gl) x => iR x) (xs.take k) [] h2
 have hall' : ∀ (i : Nat) y,xs[i]? = some y → i < k → (fun (_ : List Gl) x => iR x) (xs.take i) y = 0:=fun i y hi hik => by
  exact tu
 rw [h4];try simp only [List.nil_append] at h3 ⊢
 obtain ⟨E,hE⟩ : ∃ E : Gl → List Int,E = fun y => if ((cQ) y).length ≤ 12 then (cQ) y else []:=⟨_,rfl⟩
 have hEl : ∀ y,(E y).length ≤ 12:=fun y => by
  rw [hE]
  show (if ((cQ) y).length ≤ 12 then (cQ) y else []).length ≤ 12
  split
  ·assumption
  ·simp
 have hEe : ∀ (i : Nat) z,xs[i]? = some z → i < k → E z = (cQ) z:=fun i z hi hik => by
  have hc:=hall' i z hi hik
  have hq : ((cQ) z).length ≤ 12:=by
   exact lK z
  rw [hE];exact if_pos hq
 refine yl R g cap bs ha n hc 64 95 _ w xs E (fun x y => y = x) 12 h ae ae hmem hne (fun _ _ => rfl) (fun j y hj => hEl y) ae ae k x _ h1
  (fun j y hj hjk => lV R g cap bs n A w xs h hb ae hA hAR hAg hr hl E k hEe hall' j y hj hjk) ?_
 intro ys W g1 cap1 aa ac hyl hys hst hwr hrow hab;have hlt:=az h1;have hu:=aK (n : Int)
 have hbb : (bs ++ aw n ++ (xs.take k).flatMap E).length ≤ bs.length + 10 + 1000 * 12:=by
  have hf:=cT E 12 (xs.take k) (fun i y _ => hEl y)
  rw [List.length_take] at hf;have e1 : min k xs.length = k:=ae;rw [e1] at hf;rw [List.length_append,List.length_append];have : k * 12 ≤ 1000 * 12:=Nat.mul_le_mul_right _ ae;omega
 have hrx:=hr k x h1
 refine Dw R g1 cap1 _ x aa k ac A W hwr (hst.cell hA hAR hAg) _ (fun W2 hb2 => ?_)
 unfold iR at h3 ⊢
 by_cases c1 : isL x.1 = false
 ·rw [if_pos c1];exact xN R g1 cap1 _ x.1 x.2.2 x.2.1 W2 (hwr.later hb2) c1
 rw [if_neg c1] at h3 ⊢
 by_cases c2 : eu x.2.2 x.1 = false
 ·rw [if_pos c2]
  have h119 : x.1 = 119:=by
   have c1' : isL x.1 = true:=by simpa using c1
   simp [isL] at c1'
   rcases c1' with h | h
   ·exact h
   ·rw [h] at c2; simp [eu] at c2
  rw [h119] at c2 ⊢
  exact yS R g1 cap1 _ x.2.2 x.2.1 W2 (hwr.later hb2) ae hrx.2.2.1 hrx.2.2.2 (by simp [eu] at c2; omega)
 ·rw [if_neg c2] at h3; exact absurd rfl h3
theorem inf83 : ∃ i,Tryz.prog.info? 64 = some i ∧ i.zero = some (.agg #[.string ⟨#[]⟩,.int .i64 0]) ∧ i.size = 2 ∧ i.bytes = 24:=by
 have h : (Tryz.prog.info? 64).map (fun i => (i.zero,i.size,i.bytes)) = some (some (.agg #[.string ⟨#[]⟩,.int .i64 0]),2,24):=ak
 cases hi : Tryz.prog.info? 64 with
 | none => rw [hi] at h; cases h
 | some i => rw [hi] at h; simp at h; exact ⟨i,rfl,h.1,h.2.1,h.2.2⟩
def iB (y : Ex) : List Value:=[.string y.1,.int .i64 y.2]
abbrev Nh (x : Ex) : Value:=.agg #[.string x.1,.int .i64 x.2]
abbrev Ox (y : Ex) : Value:=.agg #[.string y.1,.int .i64 y.2]
def qM (w : World) (a : Option Addr) (n : Nat) (xs : List Ex) : Prop :=
 xs.length = n ∧ (n = 0 ∨ ∃ b off,a = some ⟨b,off,none⟩ ∧ ∀ (j : Nat) x,xs[j]? = some x → w.cell? ⟨b,off + j * 2,none⟩ = some (.string x.1) ∧ w.cell? ⟨b,off + j * 2 + 1,none⟩ = some (.int .i64 x.2))
theorem qM.kept {S : Nat → Prop} {w w' : World} {a : Option Addr} {n : Nat} {xs : List Ex} (h : qM w a n xs) (hk : Kept S w w') (hS : ∀ b off c,a = some ⟨b,off,c⟩ → ¬ S b) : qM w' a n xs:=by
 exact yG
theorem wS (w : World) (y : Ex) : ∀ j u,(iB y)[j]? = some u → (w.alloc (bM y.1 y.2)).cell? ((⟨w.heap.size,0,none⟩ : Addr).add j) = some u:=by
 intro j u hj;have hlt:=az hj;have hl : (iB y).length = 2:=rfl;rw [hl] at hlt;have hadd : (⟨w.heap.size,0,none⟩ : Addr).add j = ⟨w.heap.size,j,none⟩:=dJ;rw [hadd];have hb:=(MapKept.heap_alloc w (bM y.1 y.2)).1
 simp only [World.cell?,hb]
 simpa [iB] using hj
theorem uY (y : Ex) : ∀ u ∈ iB y,u.oneCell' = true:=by
 intro u hu
 simp [iB] at hu
 rcases hu with rfl | rfl <;> rfl
def xP (R g : Nat) (w : World) (K : Nat) (cs : Array Value) (bs : List Int) (n : Nat) (xs : List Ex) (enc : Ex → List Int) (Ok : Ex → Ex → Prop) (j : Nat) (x : Ex) : Prop :=
 ∀ (ys : List Ex) (W : World) (g1 cap1 : Nat) (aa : Option Addr) (ac : Nat),ys.length = j → (∀ (i : Nat) y,ys[i]? = some y → ∃ x',xs[i]? = some x' ∧ Ok x' y) → Stp R g g1 w W → Wr W R g1 cap1 (bs ++ aw n ++ (xs.take j).flatMap enc) →
  W.ownsRow 0 64 2 (.slice aa j ac) j (ys.flatMap iB) → (∀ b,aa = some b → w.heap.size ≤ b.block ∧ b.block ≠ g1) →
  Calls Tryz.prog K (#[Nh x,.slice aa j ac] ++ cs) W (fun e w' => ∃ y,e = .returned (Ox y) ∧ Ok x y ∧ ∃ g' cap',Wr w' R g' cap' (bs ++ aw n ++ (xs.take j).flatMap enc ++ enc x) ∧ Stp R g1 g' W w')
def FH (R g : Nat) (w : World) (K : Nat) (cs : Array Value) (bs : List Int) (n : Nat) (xs : List Ex) (enc : Ex → List Int) (Ok : Ex → Ex → Prop) (j : Nat) (x : Ex) (er : Int) : Prop :=
 ∀ (ys : List Ex) (W : World) (g1 cap1 : Nat) (aa : Option Addr) (ac : Nat),ys.length = j → (∀ (i : Nat) y,ys[i]? = some y → ∃ x',xs[i]? = some x' ∧ Ok x' y) → Stp R g g1 w W → Wr W R g1 cap1 (bs ++ aw n ++ (xs.take j).flatMap enc) →
  W.ownsRow 0 64 2 (.slice aa j ac) j (ys.flatMap iB) → (∀ b,aa = some b → w.heap.size ≤ b.block ∧ b.block ≠ g1) →
  Calls Tryz.prog K (#[Nh x,.slice aa j ac] ++ cs) W (aU R g1 er W)
theorem vE (R g cap : Nat) (bs : List Int) (ha : Option Addr) (n hc : Nat) (most : Int) (K : Nat) (cs : Array Value) (w : World) (xs : List Ex) (enc : Ex → List Int) (Ok : Ex → Ex → Prop) (M : Nat)
  (h : Wr w R g cap bs) (hn : n ≤ 100000) (hm : (n : Int) ≤ most) (hmem : qM w ha n xs) (hne : ∀ b off c,ha = some ⟨b,off,c⟩ → b ≠ R ∧ b ≠ g)
  (hK : ∀ args w,(callFunc K args).run Tryz.prog w = .ok (.enter K args) w) (hlen : ∀ (j : Nat) x,xs[j]? = some x → (enc x).length ≤ M) (hM : M ≤ 1000000) (hb : bs.length + 200000000000 ≤ 1099511627776)
  (heach : ∀ (j : Nat) x,xs[j]? = some x → xP R g w K cs bs n xs enc Ok j x) :
  Calls Tryz.prog 104 #[cW R,.slice ha n hc,.int .i64 most,.func (.func K) #[] cs] w fun e w' => ∃ (aa : Option Addr) (ac : Nat) (ys : List Ex),e = .returned (.slice aa n ac) ∧ ys.length = n ∧ (∀ (i : Nat) y,ys[i]? = some y → ∃ x,xs[i]? = some x ∧ Ok x y) ∧
   w'.ownsRow 0 64 2 (.slice aa n ac) n (ys.flatMap iB) ∧ ∃ g' cap',(∀ b,aa = some b → w.heap.size ≤ b.block ∧ b.block ≠ g') ∧ Wr w' R g' cap' (bs ++ aw n ++ xs.flatMap enc) ∧ Stp R g g' w w':=by
 have hmc:=br;have hcc:=bR;have HC:=hid (bH R g cap bs n most w h hm ae ae);have hRl:=h.lt;have hgl:=h.g_lt;have hxl:=hmem.1;have HM:=hid hmem;have HNE:=hid hne;have HE:=hid heach;obtain ⟨i0,hi,hz0,hz1,hz2⟩:=inf83;clear h hmem heach hne
 go_enter Tryz.func104,Tryz.ntmps104
 go_wp2_with fail;refine HC.out.mono ?_;rintro e w2 ⟨rfl,g1,cap1,hw2,hs2⟩;have W2:=hid hw2;have S2:=hid hs2;clear hw2 hs2 HC hmc hcc;go_wp2_with fail
 go_loopw [9,17] (fun o i wr => ∃ (j : Nat) (ys : List Ex) (aa : Option Addr) (ac g1 cap1 : Nat),j ≤ n ∧ i = .int .i64 j ∧ o = .slice aa j ac ∧ ys.length = j ∧ (∀ (i : Nat) y,ys[i]? = some y → ∃ x,xs[i]? = some x ∧ Ok x y) ∧
   wr.ownsRow 0 64 2 (.slice aa j ac) j (ys.flatMap iB) ∧ (∀ b,aa = some b → w.heap.size ≤ b.block ∧ b.block ≠ g1) ∧ Wr wr R g1 cap1 (bs ++ aw n ++ (xs.take j).flatMap enc) ∧ Stp R g g1 w wr) (fun _ i _ => n - (intOf i).toNat)
 case atStart => exact ⟨0,[],none,0,g1,cap1,ae,rfl,rfl,rfl,(fun i y h => ei),World.ownsRow_nil _ _ _ _,(fun b h => cj),fy,S2.out⟩
 case round =>
  obtain ⟨j,ys,aa,ac,g3,cap3,hj,rfl,rfl,hyl,hys,hrow,hab,hwr,hst⟩:=hrel;have HY:=hid hys;have HRW:=hid hrow;have HAB:=hid hab;have HWR:=hid hwr;have HST:=hid hst;clear hys hrow hab hwr hst W2 S2
  by_cases hlt : j < n
  ·obtain ⟨x,hx⟩ : ∃ x,xs[j]? = some x:=⟨_,ba ae⟩
   obtain ⟨b,off,rfl,hcell⟩ : ∃ b off,ha = some ⟨b,off,none⟩ ∧ ∀ (j : Nat) x,xs[j]? = some x → wr.cell? ⟨b,off + j * 2,none⟩ = some (.string x.1) ∧ wr.cell? ⟨b,off + j * 2 + 1,none⟩ = some (.int .i64 x.2):=by
    exact dL
   have hcj:=hcell j x hx;have hbl:=block_lt_of_cell hcj.1;clear hcell;obtain ⟨v0,v1⟩:=hcj;have BN:=hid (aj wr (bM x.1 x.2))
   have HC1:=hid (HE.out j x hx ys (wr.alloc (bM x.1 x.2)) g3 cap3 aa ac hyl HY.out (HST.out.trans (Stp.of_below BN.out)) (HWR.out.later BN.out) (aJ HRW.out (fun B hB => BN.out.block B (aF HRW.out hB))) HAB.out)
   exact Lg
  ·exact nj
theorem xt (R g cap : Nat) (bs : List Int) (ha : Option Addr) (n hc : Nat) (most : Int) (K : Nat) (cs : Array Value) (w : World) (xs : List Ex) (enc : Ex → List Int) (Ok : Ex → Ex → Prop) (M : Nat)
  (h : Wr w R g cap bs) (hn : n ≤ 100000) (hm : (n : Int) ≤ most) (hmem : qM w ha n xs) (hne : ∀ b off c,ha = some ⟨b,off,c⟩ → b ≠ R ∧ b ≠ g)
  (hK : ∀ args w,(callFunc K args).run Tryz.prog w = .ok (.enter K args) w) (hlen : ∀ (j : Nat) x,xs[j]? = some x → (enc x).length ≤ M) (hM : M ≤ 1000000) (hb : bs.length + 200000000000 ≤ 1099511627776)
  (k : Nat) (xk : Ex) (er : Int) (hk : xs[k]? = some xk) (heach : ∀ (j : Nat) x,xs[j]? = some x → j < k → xP R g w K cs bs n xs enc Ok j x) (hno : FH R g w K cs bs n xs enc Ok k xk er) :
  Calls Tryz.prog 104 #[cW R,.slice ha n hc,.int .i64 most,.func (.func K) #[] cs] w (aU R g er w):=by
 have hkn:=az hk;have hmc:=br;have hcc:=bR;have HC:=hid (bH R g cap bs n most w h hm ae ae);have hRl:=h.lt;have hgl:=h.g_lt;have hxl:=hmem.1;have HM:=hid hmem;have HNE:=hid hne;have HE:=hid heach;have HN:=hid hno;obtain ⟨i0,hi,hz0,hz1,hz2⟩:=inf83;clear h hmem heach hne hno
 go_enter Tryz.func104,Tryz.ntmps104
 go_wp2_with fail;refine HC.out.mono ?_;rintro e w2 ⟨rfl,g1,cap1,hw2,hs2⟩;have W2:=hid hw2;have S2:=hid hs2;clear hw2 hs2 HC hmc hcc;go_wp2_with fail
 go_loopw [9,17] (fun o i wr => ∃ (j : Nat) (ys : List Ex) (aa : Option Addr) (ac g1 cap1 : Nat),j ≤ k ∧ i = .int .i64 j ∧ o = .slice aa j ac ∧ ys.length = j ∧ (∀ (i : Nat) y,ys[i]? = some y → ∃ x,xs[i]? = some x ∧ Ok x y) ∧
   wr.ownsRow 0 64 2 (.slice aa j ac) j (ys.flatMap iB) ∧ (∀ b,aa = some b → w.heap.size ≤ b.block ∧ b.block ≠ g1) ∧ Wr wr R g1 cap1 (bs ++ aw n ++ (xs.take j).flatMap enc) ∧ Stp R g g1 w wr) (fun _ i _ => n - (intOf i).toNat)
 case atStart => exact ⟨0,[],none,0,g1,cap1,ae,rfl,rfl,rfl,(fun i y h => ei),World.ownsRow_nil _ _ _ _,(fun b h => cj),fy,S2.out⟩
 case round =>
  obtain ⟨j,ys,aa,ac,g3,cap3,hj,rfl,rfl,hyl,hys,hrow,hab,hwr,hst⟩:=hrel;have HY:=hid hys;have HRW:=hid hrow;have HAB:=hid hab;have HWR:=hid hwr;have HST:=hid hst;clear hys hrow hab hwr hst W2 S2;have hlt : j < n:=ae
  ·obtain ⟨x,hx⟩ : ∃ x,xs[j]? = some x:=⟨_,ba ae⟩
   obtain ⟨b,off,rfl,hcell⟩ : ∃ b off,ha = some ⟨b,off,none⟩ ∧ ∀ (j : Nat) x,xs[j]? = some x → wr.cell? ⟨b,off + j * 2,none⟩ = some (.string x.1) ∧ wr.cell? ⟨b,off + j * 2 + 1,none⟩ = some (.int .i64 x.2):=by
    exact dL
   have hcj:=hcell j x hx;have hbl:=block_lt_of_cell hcj.1;clear hcell;obtain ⟨v0,v1⟩:=hcj;have BN:=hid (aj wr (bM x.1 x.2))
   by_cases hjk : j < k
   ·skip
    have HC1:=hid (HE.out j x hx hjk ys (wr.alloc (bM x.1 x.2)) g3 cap3 aa ac hyl HY.out (HST.out.trans (Stp.of_below BN.out)) (HWR.out.later BN.out) (aJ HRW.out (fun B hB => BN.out.block B (aF HRW.out hB))) HAB.out)
    exact Lg
   ·obtain rfl : j = k:=ae;obtain rfl : x = xk:=lj
    have HC1:=hid (HN.out ys (wr.alloc (bM x.1 x.2)) g3 cap3 aa ac hyl HY.out (HST.out.trans (Stp.of_below BN.out)) (HWR.out.later BN.out) (aJ HRW.out (fun B hB => BN.out.block B (aF HRW.out hB))) HAB.out)
    exact mS
theorem ub (R g cap : Nat) (bs : List Int) (ha : Option Addr) (n hc : Nat) (most : Int) (f : Value) (w : World) (h : Wr w R g cap bs) (hm : most < (n : Int)) :
  Calls Tryz.prog 104 #[cW R,.slice ha n hc,.int .i64 most,f] w (aU R g 20 w):=by
 have hmc:=br;have hcc:=bR;have HC:=hid (dS R g cap bs n most w h hm);clear h
 go_enter Tryz.func104,Tryz.ntmps104
 exact jk
end Go.Proofs.YtkdldbfbldkkcaaGreatDoor
