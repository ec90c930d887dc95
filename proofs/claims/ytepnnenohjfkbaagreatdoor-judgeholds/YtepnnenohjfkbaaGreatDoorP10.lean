/-
  Texts Sb Lex We.
-/
import Derived.Test.YtepnnenohjfkbaaGreatDoorP00
import Derived.Test.YtepnnenohjfkbaaGreatDoorP01
import Derived.Test.YtepnnenohjfkbaaGreatDoorP03
import Derived.Test.YtepnnenohjfkbaaGreatDoorP09
set_option linter.unusedVariables false
set_option maxRecDepth 100000
set_option maxHeartbeats 16000000
namespace Go.Proofs.YtepnnenohjfkbaaGreatDoor
open Go.RowKit
theorem rV (R g cap : Nat) (bs : List Int) (n : Nat) (A : Nat) (w : World) (O : Nat) (ta : Option Addr) (tn tc : Nat) (xs : List Int) (h : Wr w R g cap bs) (hb : bs.length + 300000000000 ≤ 1099511627776) (hn : n ≤ 1000) (hA : w.cell? ⟨A,0,none⟩ = some (cW R)) (hAR : A ≠ R) (hAg : A ≠ g) (hO : w.cell? ⟨O,0,none⟩ = some (.slice ta tn tc)) (hOR : O ≠ R) (hOg : O ≠ g) (htn : tn ≤ 100000) (hr : ∀ (j : Nat) x,xs[j]? = some x → -9223372036854775808 ≤ x ∧ x < 9223372036854775808) (hl : xs.length = n) (e : Int → List Int) (k : Nat) (he : ∀ (i : Nat) y,xs[i]? = some y → i < k → e y = (fun x => au x) y) (hall : ∀ (i : Nat) y,xs[i]? = some y → i < k → (fun (_ : List Int) x => bo tn x) (xs.take i) y = 0)
  (j : Nat) (x : Int) (hx : xs[j]? = some x) (hjk : j < k) : Pf R g w 117 #[.pointer (some ⟨A,0,none⟩),.pointer (some ⟨O,0,none⟩)] bs n xs e (fun x y => y = x) j x:=by
 intro ys W g1 aQ aa ac hyl hys hst hwr hrow hab;have hlt:=ax hx;have hchk:=hall j x hx hjk
 try simp only at hchk
 have henc:=he j x hx hjk
 have hlen : ((xs.take j).flatMap e).length ≤ j * 10:=by
  have:=bV e 10 (xs.take j) (fun i y hi => by
   have hij : i < j:=lM;rw [List.getElem?_take_of_lt hij] at hi;rw [he i y hi ae];have hc:=hall i y hi ae;exact (aA y).2)
  exact mA
 have hu:=aA (n : Int)
 have hbb : (bs ++ au n ++ (xs.take j).flatMap e).length ≤ bs.length + 10 + 1000 * 10:=by
  rw [List.length_append,List.length_append];have : j * 10 ≤ 1000 * 10:=Nat.mul_le_mul_right _ ae;omega
 have hc' : 0 ≤ x ∧ x < tn:=by
  unfold bo at hchk
  split at hchk
  ·cases hchk
  ·omega
 refine (AP R g1 aQ _ x aa j ac A O ta tn tc W hwr ae (hst.cell hA hAR hAg) (hst.cell hO hOR hOg) hc'.1 hc'.2 htn).mono ?_;exact vY
theorem Fq (R g cap : Nat) (bs : List Int) (ha : Option Addr) (n hc : Nat) (A : Nat) (w : World) (O : Nat) (ta : Option Addr) (tn tc : Nat) (xs : List Int) (h : Wr w R g cap bs) (hb : bs.length + 300000000000 ≤ 1099511627776) (hA : w.cell? ⟨A,0,none⟩ = some (cW R)) (hAR : A ≠ R) (hAg : A ≠ g) (hO : w.cell? ⟨O,0,none⟩ = some (.slice ta tn tc)) (hOR : O ≠ R) (hOg : O ≠ g) (htn : tn ≤ 100000) (hr : ∀ (j : Nat) x,xs[j]? = some x → -9223372036854775808 ≤ x ∧ x < 9223372036854775808) (hmem : iN w ha n xs) (hne : ∀ b off c,ha = some ⟨b,off,c⟩ → b ≠ R ∧ b ≠ g) (hx : bq (fun (_ : List Int) x => bo tn x) 32 xs = 0) :
  Calls Tryz.prog 116 #[cW R,.slice ha n hc,.int .i64 32,.func (.func 117) #[] #[.pointer (some ⟨A,0,none⟩),.pointer (some ⟨O,0,none⟩)]] w fun e w' => ∃ (aa : Option Addr) (ac : Nat) (ys : List Int),e = .returned (.slice aa n ac) ∧ ys.length = n ∧ (∀ (i : Nat) y,ys[i]? = some y → ∃ x,xs[i]? = some x ∧ (fun x y => y = x) x y) ∧ ∃ g' cap',Wr w' R g' cap' (bs ++ (au n ++ xs.flatMap (fun x => au x))) ∧ Stp R g g' w w':=by
 have hl:=hmem.1;unfold bq at hx
 split at hx
 ·cases hx
 rename_i hm
 have hall:=bp (fun (_ : List Int) x => bo tn x) xs [] hx
 have hall' : ∀ (i : Nat) y,xs[i]? = some y → (fun (_ : List Int) x => bo tn x) (xs.take i) y = 0:=fun i y hi => hall i y hi
 refine (xH R g cap bs ha n hc 32 117 _ w xs (fun x => au x) (fun x y => y = x) 10 h ae ae hmem hne (fun _ _ => rfl) (fun j x hj => by
   have hc:=hall' j x hj;exact (aA x).2) ae ae
  (fun j x hj => rV R g cap bs n A w O ta tn tc xs h hb ae hA hAR hAg hO hOR hOg htn hr hl (fun x => au x) (j + 1) (fun _ _ _ _ => rfl) (fun i y hi _ => hall' i y hi) j x hj ae)).mono ?_
 exact ug
theorem GZ (R g cap : Nat) (bs : List Int) (ha : Option Addr) (n hc : Nat) (A : Nat) (w : World) (O : Nat) (ta : Option Addr) (tn tc : Nat) (xs : List Int) (h : Wr w R g cap bs) (hb : bs.length + 300000000000 ≤ 1099511627776) (hA : w.cell? ⟨A,0,none⟩ = some (cW R)) (hAR : A ≠ R) (hAg : A ≠ g) (hO : w.cell? ⟨O,0,none⟩ = some (.slice ta tn tc)) (hOR : O ≠ R) (hOg : O ≠ g) (htn : tn ≤ 100000) (hr : ∀ (j : Nat) x,xs[j]? = some x → -9223372036854775808 ≤ x ∧ x < 9223372036854775808) (hmem : iN w ha n xs) (hne : ∀ b off c,ha = some ⟨b,off,c⟩ → b ≠ R ∧ b ≠ g) (hx : bq (fun (_ : List Int) x => bo tn x) 32 xs ≠ 0) :
  Calls Tryz.prog 116 #[cW R,.slice ha n hc,.int .i64 32,.func (.func 117) #[] #[.pointer (some ⟨A,0,none⟩),.pointer (some ⟨O,0,none⟩)]] w (aR R g (bq (fun (_ : List Int) x => bo tn x) 32 xs) w):=by
 have hl:=hmem.1;unfold bq at hx ⊢
 by_cases hm : (32 : Int) < xs.length
 ·rw [if_pos hm];exact vE R g cap bs ha n hc 32 _ w h ae
 rw [if_neg hm] at hx ⊢
 obtain ⟨k,x,h1,h2,h3,h4⟩:=dC (fun (_ : List Int) x => bo tn x) xs [] hx
 have hall:=bp (fun (_ : List Int) x => bo tn x) (xs.take k) [] h2
 have hall' : ∀ (i : Nat) y,xs[i]? = some y → i < k → (fun (_ : List Int) x => bo tn x) (xs.take i) y = 0:=fun i y hi hik => by
  exact wK
 rw [h4];try simp only [List.nil_append] at h3 ⊢
 obtain ⟨E,hE⟩ : ∃ E : Int → List Int,E = fun y => if ((fun x => au x) y).length ≤ 10 then (fun x => au x) y else []:=⟨_,rfl⟩
 have hEl : ∀ y,(E y).length ≤ 10:=fun y => by
  rw [hE]
  show (if ((fun x => au x) y).length ≤ 10 then (fun x => au x) y else []).length ≤ 10
  split
  ·assumption
  ·simp
 have hEe : ∀ (i : Nat) z,xs[i]? = some z → i < k → E z = (fun x => au x) z:=fun i z hi hik => by
  have hc:=hall' i z hi hik
  have hq : ((fun x => au x) z).length ≤ 10:=by
   exact (aA z).2
  rw [hE];exact if_pos hq
 refine zl R g cap bs ha n hc 32 117 _ w xs E (fun x y => y = x) 10 h ae ae hmem hne (fun _ _ => rfl) (fun j y hj => hEl y) ae ae k x _ h1
  (fun j y hj hjk => rV R g cap bs n A w O ta tn tc xs h hb ae hA hAR hAg hO hOR hOg htn hr hl E k hEe hall' j y hj hjk) ?_
 intro ys W g1 aQ aa ac hyl hys hst hwr hrow hab;have hlt:=ax h1;have hu:=aA (n : Int)
 have hbb : (bs ++ au n ++ (xs.take k).flatMap E).length ≤ bs.length + 10 + 1000 * 10:=by
  have hf:=bV E 10 (xs.take k) (fun i y _ => hEl y)
  rw [List.length_take] at hf;have e1 : min k xs.length = k:=ae;rw [e1] at hf;rw [List.length_append,List.length_append];have : k * 10 ≤ 1000 * 10:=Nat.mul_le_mul_right _ ae;omega
 have hbad : x < 0 ∨ (tn : Int) ≤ x:=by
  unfold bo at h3
  by_cases hq : x < 0 ∨ (tn : Int) ≤ x
  ·exact hq
  ·rw [if_neg hq] at h3; exact absurd rfl h3
 have hq30 : bo tn x = 30:=by unfold bo; rw [if_pos hbad]
 rw [hq30];exact FK R g1 aQ _ x aa k ac A O ta tn tc W hwr (hst.cell hA hAR hAg) (hst.cell hO hOR hOg) (hr k x h1).1 (hr k x h1).2 hbad htn
theorem mr (R g cap : Nat) (bs : List Int) (n : Nat) (A : Nat) (w : World) (xs : List Gl) (h : Wr w R g cap bs) (hb : bs.length + 300000000000 ≤ 1099511627776) (hn : n ≤ 1000) (hA : w.cell? ⟨A,0,none⟩ = some (cW R)) (hAR : A ≠ R) (hAg : A ≠ g) (hr : ∀ (j : Nat) x,xs[j]? = some x → 0 ≤ x.1 ∧ x.1 ≤ 255 ∧ 0 ≤ x.2.2 ∧ x.2.2 < 18446744073709551616) (hl : xs.length = n) (e : Gl → List Int) (k : Nat) (he : ∀ (i : Nat) y,xs[i]? = some y → i < k → e y = (cm) y) (hall : ∀ (i : Nat) y,xs[i]? = some y → i < k → (fun (_ : List Gl) x => dJ x) (xs.take i) y = 0)
  (j : Nat) (x : Gl) (hx : xs[j]? = some x) (hjk : j < k) : Oq R g w 120 #[.pointer (some ⟨A,0,none⟩)] bs n xs e (fun x y => y = x) j x:=by
 intro ys W g1 aQ aa ac hyl hys hst hwr hrow hab;have hlt:=ax hx;have hchk:=hall j x hx hjk
 try simp only at hchk
 have henc:=he j x hx hjk
 have hlen : ((xs.take j).flatMap e).length ≤ j * 12:=by
  have:=bV e 12 (xs.take j) (fun i y hi => by
   have hij : i < j:=lM;rw [List.getElem?_take_of_lt hij] at hi;rw [he i y hi ae];have hc:=hall i y hi ae;exact iZ y)
  exact mA
 have hu:=aA (n : Int)
 have hbb : (bs ++ au n ++ (xs.take j).flatMap e).length ≤ bs.length + 10 + 1000 * 12:=by
  rw [List.length_append,List.length_append];have : j * 12 ≤ 1000 * 12:=Nat.mul_le_mul_right _ ae;omega
 have hrx:=hr j x hx
 have hc' : isL x.1 = true ∧ gq x.2.2 x.1 = true:=by
  unfold dJ at hchk
  split at hchk
  ·cases hchk
  ·split at hchk
   ·cases hchk
   ·simp_all
 have hv : x.1 = 119 → x.2.2 < 4294967296:=fun h119 => by
  have:=hc'.2
  rw [h119] at this
  simpa [gq] using this
 refine (zZ R g1 aQ _ x aa j ac A W hwr (hst.cell hA hAR hAg) (fun y => y = x) (bs ++ au n ++ (xs.take j).flatMap e ++ e x) (fun W2 hb2 => ?_)).mono ?_
 ·refine (xw R g1 aQ _ x.1 x.2.2 x.2.1 W2 (hwr.later hb2) ae hrx.1 hrx.2.1 hrx.2.2.1 hrx.2.2.2 hc'.1 hv).mono ?_;exact vY
 ·exact vd
theorem wW (R g cap : Nat) (bs : List Int) (ha : Option Addr) (n hc : Nat) (A : Nat) (w : World) (xs : List Gl) (h : Wr w R g cap bs) (hb : bs.length + 300000000000 ≤ 1099511627776) (hA : w.cell? ⟨A,0,none⟩ = some (cW R)) (hAR : A ≠ R) (hAg : A ≠ g) (hr : ∀ (j : Nat) x,xs[j]? = some x → 0 ≤ x.1 ∧ x.1 ≤ 255 ∧ 0 ≤ x.2.2 ∧ x.2.2 < 18446744073709551616) (hmem : jf w ha n xs) (hne : ∀ b off c,ha = some ⟨b,off,c⟩ → b ≠ R ∧ b ≠ g) (hx : bq (fun (_ : List Gl) x => dJ x) 64 xs = 0) :
  Calls Tryz.prog 119 #[cW R,.slice ha n hc,.int .i64 64,.func (.func 120) #[] #[.pointer (some ⟨A,0,none⟩)]] w fun e w' => ∃ (aa : Option Addr) (ac : Nat) (ys : List Gl),e = .returned (.slice aa n ac) ∧ ys.length = n ∧ (∀ (i : Nat) y,ys[i]? = some y → ∃ x,xs[i]? = some x ∧ (fun x y => y = x) x y) ∧ ∃ g' cap',Wr w' R g' cap' (bs ++ (au n ++ xs.flatMap (cm))) ∧ Stp R g g' w w':=by
 have hl:=hmem.1;unfold bq at hx
 split at hx
 ·cases hx
 rename_i hm
 have hall:=bp (fun (_ : List Gl) x => dJ x) xs [] hx
 have hall' : ∀ (i : Nat) y,xs[i]? = some y → (fun (_ : List Gl) x => dJ x) (xs.take i) y = 0:=fun i y hi => hall i y hi
 refine (xE R g cap bs ha n hc 64 120 _ w xs (cm) (fun x y => y = x) 12 h ae ae hmem hne (fun _ _ => rfl) (fun j x hj => by
   have hc:=hall' j x hj;exact iZ x) ae ae
  (fun j x hj => mr R g cap bs n A w xs h hb ae hA hAR hAg hr hl (cm) (j + 1) (fun _ _ _ _ => rfl) (fun i y hi _ => hall' i y hi) j x hj ae)).mono ?_
 exact ug
theorem zD (R g cap : Nat) (bs : List Int) (ha : Option Addr) (n hc : Nat) (A : Nat) (w : World) (xs : List Gl) (h : Wr w R g cap bs) (hb : bs.length + 300000000000 ≤ 1099511627776) (hA : w.cell? ⟨A,0,none⟩ = some (cW R)) (hAR : A ≠ R) (hAg : A ≠ g) (hr : ∀ (j : Nat) x,xs[j]? = some x → 0 ≤ x.1 ∧ x.1 ≤ 255 ∧ 0 ≤ x.2.2 ∧ x.2.2 < 18446744073709551616) (hmem : jf w ha n xs) (hne : ∀ b off c,ha = some ⟨b,off,c⟩ → b ≠ R ∧ b ≠ g) (hx : bq (fun (_ : List Gl) x => dJ x) 64 xs ≠ 0) :
  Calls Tryz.prog 119 #[cW R,.slice ha n hc,.int .i64 64,.func (.func 120) #[] #[.pointer (some ⟨A,0,none⟩)]] w (aR R g (bq (fun (_ : List Gl) x => dJ x) 64 xs) w):=by
 have hl:=hmem.1;unfold bq at hx ⊢
 by_cases hm : (64 : Int) < xs.length
 ·rw [if_pos hm];exact uH R g cap bs ha n hc 64 _ w h ae
 rw [if_neg hm] at hx ⊢
 obtain ⟨k,x,h1,h2,h3,h4⟩:=dC (fun (_ : List Gl) x => dJ x) xs [] hx
 have hall:=bp (fun (_ : List Gl) x => dJ x) (xs.take k) [] h2
 have hall' : ∀ (i : Nat) y,xs[i]? = some y → i < k → (fun (_ : List Gl) x => dJ x) (xs.take i) y = 0:=fun i y hi hik => by
  exact wK
 rw [h4];try simp only [List.nil_append] at h3 ⊢
 obtain ⟨E,hE⟩ : ∃ E : Gl → List Int,E = fun y => if ((cm) y).length ≤ 12 then (cm) y else []:=⟨_,rfl⟩
 have hEl : ∀ y,(E y).length ≤ 12:=fun y => by
  rw [hE]
  show (if ((cm) y).length ≤ 12 then (cm) y else []).length ≤ 12
  split
  ·assumption
  ·simp
 have hEe : ∀ (i : Nat) z,xs[i]? = some z → i < k → E z = (cm) z:=fun i z hi hik => by
  have hc:=hall' i z hi hik
  have hq : ((cm) z).length ≤ 12:=by
   exact iZ z
  rw [hE];exact if_pos hq
 refine Ba R g cap bs ha n hc 64 120 _ w xs E (fun x y => y = x) 12 h ae ae hmem hne (fun _ _ => rfl) (fun j y hj => hEl y) ae ae k x _ h1
  (fun j y hj hjk => mr R g cap bs n A w xs h hb ae hA hAR hAg hr hl E k hEe hall' j y hj hjk) ?_
 intro ys W g1 aQ aa ac hyl hys hst hwr hrow hab;have hlt:=ax h1;have hu:=aA (n : Int)
 have hbb : (bs ++ au n ++ (xs.take k).flatMap E).length ≤ bs.length + 10 + 1000 * 12:=by
  have hf:=bV E 12 (xs.take k) (fun i y _ => hEl y)
  rw [List.length_take] at hf;have e1 : min k xs.length = k:=ae;rw [e1] at hf;rw [List.length_append,List.length_append];have : k * 12 ≤ 1000 * 12:=Nat.mul_le_mul_right _ ae;omega
 have hrx:=hr k x h1
 refine Gh R g1 aQ _ x aa k ac A W hwr (hst.cell hA hAR hAg) _ (fun W2 hb2 => ?_)
 unfold dJ at h3 ⊢
 by_cases c1 : isL x.1 = false
 ·rw [if_pos c1];exact zh R g1 aQ _ x.1 x.2.2 x.2.1 W2 (hwr.later hb2) c1
 rw [if_neg c1] at h3 ⊢
 by_cases c2 : gq x.2.2 x.1 = false
 ·rw [if_pos c2]
  have h119 : x.1 = 119:=by
   have c1' : isL x.1 = true:=by simpa using c1
   simp [isL] at c1'
   rcases c1' with h | h
   ·exact h
   ·rw [h] at c2; simp [gq] at c2
  rw [h119] at c2 ⊢
  exact zi R g1 aQ _ x.2.2 x.2.1 W2 (hwr.later hb2) ae hrx.2.2.1 hrx.2.2.2 (by simp [gq] at c2; omega)
 ·rw [if_neg c2] at h3; exact absurd rfl h3
theorem N2 : ∃ i,Tryz.prog.info? 68 = some i ∧ i.zero = some (.agg #[.string ⟨#[]⟩,.int .i64 0]) ∧ i.size = 2 ∧ i.bytes = 24:=AZ aw
def iT (y : Ex) : List Value:=[.string y.1,.int .i64 y.2]
abbrev Px (x : Ex) : Value:=.agg #[.string x.1,.int .i64 x.2]
abbrev Pe (y : Ex) : Value:=.agg #[.string y.1,.int .i64 y.2]
def jL (w : World) (a : Option Addr) (n : Nat) (xs : List Ex) : Prop :=
 xs.length = n ∧ (n = 0 ∨ ∃ b off,a = some ⟨b,off,none⟩ ∧ ∀ (j : Nat) x,xs[j]? = some x → w.cell? ⟨b,off + j * 2,none⟩ = some (.string x.1) ∧ w.cell? ⟨b,off + j * 2 + 1,none⟩ = some (.int .i64 x.2))
theorem jL.kept {S : Nat → Prop} {w w' : World} {a : Option Addr} {n : Nat} {xs : List Ex} (h : jL w a n xs) (hk : Kept S w w') (hS : ∀ b off c,a = some ⟨b,off,c⟩ → ¬ S b) : jL w' a n xs:=by
 exact zw
theorem yT (w : World) (y : Ex) : ∀ j u,(iT y)[j]? = some u → (w.alloc (bH y.1 y.2)).cell? ((⟨w.heap.size,0,none⟩ : Addr).add j) = some u:=by
 intro j u hj;have hlt:=ax hj;have hl : (iT y).length = 2:=rfl;rw [hl] at hlt;have hadd : (⟨w.heap.size,0,none⟩ : Addr).add j = ⟨w.heap.size,j,none⟩:=fZ;rw [hadd];have hb:=(MapKept.heap_alloc w (bH y.1 y.2)).1
 simp only [World.cell?,hb]
 simpa [iT] using hj
theorem yw (y : Ex) : ∀ u ∈ iT y,u.oneCell' = true:=by
 intro u hu
 simp [iT] at hu
 rcases hu with rfl | rfl <;> rfl
abbrev Ou:=@oY Ex Ex iT Px Pe 68 2
namespace LEx
abbrev oC0:=iT
abbrev cL (x : Ex) : Obj:=.cells #[.string x.1,.int .i64 x.2] 68
abbrev cM (y : Ex) : Obj:=.cells #[.string y.1,.int .i64 y.2] 68
theorem nC (w : World) (y : Ex) : ∀ j u,(iT y)[j]? = some u → (w.alloc (cM y)).cell? ((⟨w.heap.size,0,none⟩ : Addr).add j) = some u:=yT w y
theorem oC (y : Ex) : ∀ u ∈ iT y,u.oneCell' = true:=yw y
theorem uN : Tryz.prog.underlying 27 = some (.slice 68):=Tryz.underlying27
end LEx
open LEx in
theorem ye : mF 129 iT Px Pe jL 68 2:=by
 intro R g cap bs ha n hc most K cs w xs enc Ok M h hn hm hmem hne hK hlen hM hb heach;have hmc:=bz;have hcc:=bQ;have HC:=hid (bK R g cap bs n most w h hm ae ae);have hRl:=h.lt;have hgl:=h.g_lt;have hxl:=hmem.1;have HM:=hid hmem;have HNE:=hid hne;have HE:=hid heach;obtain ⟨i0,hi,hz0,hz1,hz2⟩:=N2;clear h hmem heach hne
 go_enter Tryz.func129,Tryz.ntmps129
 go_wp2_with fail;refine HC.out.mono ?_;rintro e w2 ⟨rfl,g1,aQ,hw2,hs2⟩;have W2:=hid hw2;have S2:=hid hs2;clear hw2 hs2 HC hmc hcc;go_wp2_with fail
 go_loopw [9,17] (fun o i wr => pF oC0 68 2 R g w bs n xs enc Ok n o i wr) (fun _ i _ => n - (intOf i).toNat)
 case atStart => exact ⟨0,[],none,0,g1,aQ,ae,rfl,rfl,rfl,(fun i y h => eF),World.ownsRow_nil _ _ _ _,(fun b h => cE),fK,S2.out⟩
 case round =>
  exact I3
open LEx in
theorem zG : qH 129 iT Px Pe jL 68 2:=by
 intro R g cap bs ha n hc most K cs w xs enc Ok M h hn hm hmem hne hK hlen hM hb k xk er hk heach hno;have hkn:=ax hk;have hmc:=bz;have hcc:=bQ;have HC:=hid (bK R g cap bs n most w h hm ae ae);have hRl:=h.lt;have hgl:=h.g_lt;have hxl:=hmem.1;have HM:=hid hmem;have HNE:=hid hne;have HE:=hid heach;have HN:=hid hno;obtain ⟨i0,hi,hz0,hz1,hz2⟩:=N2;clear h hmem heach hne hno
 go_enter Tryz.func129,Tryz.ntmps129
 go_wp2_with fail;refine HC.out.mono ?_;rintro e w2 ⟨rfl,g1,aQ,hw2,hs2⟩;have W2:=hid hw2;have S2:=hid hs2;clear hw2 hs2 HC hmc hcc;go_wp2_with fail
 go_loopw [9,17] (fun o i wr => pF oC0 68 2 R g w bs n xs enc Ok k o i wr) (fun _ i _ => n - (intOf i).toNat)
 case atStart => exact ⟨0,[],none,0,g1,aQ,ae,rfl,rfl,rfl,(fun i y h => eF),World.ownsRow_nil _ _ _ _,(fun b h => cE),fK,S2.out⟩
 case round =>
  exact LG
theorem uS (R g cap : Nat) (bs : List Int) (ha : Option Addr) (n hc : Nat) (most : Int) (f : Value) (w : World) (h : Wr w R g cap bs) (hm : most < (n : Int)) :
  Calls Tryz.prog 129 #[cW R,.slice ha n hc,.int .i64 most,f] w (aR R g 20 w):=by
 have hmc:=bz;have hcc:=bQ;have HC:=hid (dU R g cap bs n most w h hm);clear h
 go_enter Tryz.func129,Tryz.ntmps129
 exact jq
theorem nW (s : ByteArray) (w : World) (hs : s.size ≤ 1000000) : Calls Tryz.prog 194 #[.string s] w fun e w' => e = .returned (.bool (jM s)) ∧ Below w.heap.size w w':=by
 obtain ⟨c,W,hrun,hseg,hbl,hsz⟩:=mU w s hs
 have hc : ∀ j,j < s.size → W.cell? ⟨w.heap.size,j,none⟩ = some (.int .u8 ((aD s).getD j 0)):=by
  rcases hseg.2.2.2.2 with h0 | ⟨b,off,hb,h⟩
  ·intro j hj; omega
  ·simp at hb
   obtain ⟨rfl,rfl⟩:=hb;intro j hj
   have:=h j hj
   rwa [Nat.zero_add] at this
 have hcap:=hseg.2.1;have hsl:=cR s;have HB:=hid hbl
 have HNM : Hid (jM s = ((aD s).all (fun b => decide (33 ≤ b) && decide (b ≤ 126)) && !s.toList.isEmpty)):=rfl
 generalize jM s = N at *;generalize aD s = zs at *;clear hseg hbl
 go_enter Tryz.func194,Tryz.ntmps194
 go_wp2_with fail;clear hrun
 go_loopw [8] (fun i wr => ∃ j : Nat,j ≤ s.size ∧ i = .int .i64 j ∧ wr = W ∧ (zs.take j).all (fun b => decide (33 ≤ b) && decide (b ≤ 126)) = true) (fun i _ => s.size - (intOf i).toNat)
 case atStart => exact ⟨0,ae,rfl,rfl,ak⟩
 case round =>
  obtain ⟨j,hj,rfl,rfl,hall⟩:=hrel;have HALL:=hid hall;clear hall
  by_cases hlt : j < s.size
  ·have hcj:=hc j hlt;have hjz : j < zs.length:=ae
   have hgd : zs.getD j 0 = zs[j]:=by simp [List.getD,hjz]
   have HZ:=hid hgd;rw [hgd] at hcj;have HJ:=hid (List.take_succ_eq_append_getElem hjz);have HMEM : Hid (zs[j] ∈ zs):=List.getElem_mem hjz;generalize zs[j] = b at *;clear hgd hc
   by_cases h33 : b < 33
   ·have d1 : decide (b < 33) = true:=by simp [h33]
    exact I8
   ·have d1 : decide (b < 33) = false:=aG
    by_cases h126 : 126 < b
    ·have d2 : decide (126 < b) = true:=by simp [h126]
     exact I8
    ·have d2 : decide (126 < b) = false:=aG;go_wp2_with fail
     go_roundw
     ·refine ⟨j + 1,ae,rfl,?_,?_⟩
      ·first | rfl | trivial
      rw [HJ.out,List.all_append,HALL.out]
      simp; omega
     ·simp [intOf]; omega
  ·obtain rfl : j = s.size:=ae;have ht : zs.take s.size = zs:=List.take_of_length_le ae;rw [ht] at HALL;go_wp2_with fail;go_ret;refine ⟨?_,HB.out⟩;rw [HNM.out,HALL.out]
   simp
section
variable (s : ByteArray) (p : Int) (A : Nat) (aa : Option Addr) (an ac : Nat) (ys : List Ex) (w : World)
theorem ES (hs : s.size ≤ 1000000) (hn : jM s = false) : Calls Tryz.prog 193 #[.string s,.int .i64 p,.pointer (some ⟨A,0,none⟩)] w (lg 23 w):=by
 have HI:=hid (nW s w hs);rw [hn] at HI
 go_enter Tryz.func193,Tryz.ntmps193
 go_wp2_with fail;refine HI.out.mono ?_;rintro e w1 ⟨rfl,hb⟩;have HB:=hid hb;clear hb HI;go_wp2_with fail;refine (ez rfl).mono ?_;rintro e w1 ⟨rfl,rfl⟩;exact ⟨rfl,⟨_,rfl⟩,HB.out⟩
theorem sO (hl : ys.length = an) (hrow : w.ownsRow 0 68 2 (.slice aa an ac) an (ys.flatMap iT)) (h0 : 0 < an) : ∃ B y,aa = some ⟨B,0,none⟩ ∧ ys.getLast? = some y ∧ w.cell? ⟨B,(an - 1) * 2,none⟩ = some (.string y.1):=by
 obtain ⟨y,hy⟩ : ∃ y,ys[an - 1]? = some y:=⟨_,aN ae⟩
 obtain ⟨B,hB,hc⟩:=iV (oc:=iT) (t:=0) (u:=.string y.1) (fun _ => rfl) hrow hy rfl
 refine ⟨B,y,hB,?_,hc⟩;rw [List.getLast?_eq_getElem?,hl];exact hy
theorem qN (hs : s.size ≤ 1000000) (hn : jM s = true) (hl : ys.length = an) (han : an ≤ 100000) (hrow : w.ownsRow 0 68 2 (.slice aa an ac) an (ys.flatMap iT)) (ho : fY ys s = false) (hA : w.cell? ⟨A,0,none⟩ = some (.slice aa an ac)) :
  Calls Tryz.prog 193 #[.string s,.int .i64 p,.pointer (some ⟨A,0,none⟩)] w (lj w):=by
 have HI:=hid (nW s w hs);rw [hn] at HI;have hAl:=block_lt_of_cell hA;have HA:=hid hA;have HR:=hid hrow;clear hA hrow
 go_enter Tryz.func193,Tryz.ntmps193
 go_wp2_with fail;refine HI.out.mono ?_;rintro e w1 ⟨rfl,hb⟩;have HB:=hid hb
 have hA1:=(hb.cell (by exact hAl)).trans HA.out
 have R1:=hid (aU HR.out (fun B hB => hb.block B (aO HR.out hB)))
 clear hb HI
 by_cases h0 : an = 0
 ·subst h0;go_wp2_with fail;refine (cr rfl).mono ?_;rintro e w1 ⟨rfl,rfl⟩;go_wp2_with fail;refine (cr rfl).mono ?_;rintro e w1 ⟨rfl,rfl⟩;go_wp2_with fail;go_end0;exact ⟨rfl,HB.out⟩
 ·obtain ⟨B,y,rfl,hy,hcell⟩:=sO aa an ac ys w1 hl R1.out ae
  have hg : (!Op.bytesLess s.toList y.1.toList && !s.toList == y.1.toList) = true:=by
   have:=ho
   unfold fY at this;rw [hy] at this
   simpa [sGt] using this
  have hz : ((an : Int) == 0) = false:=aG;go_wp2_with fail;refine (cr rfl).mono ?_;rintro e w1 ⟨rfl,rfl⟩;go_wp2_with fail
  refine (cr (by first | rfl | exact hg)).mono ?_
  rintro e w1 ⟨rfl,rfl⟩;go_wp2_with fail;go_end0;exact ⟨rfl,HB.out⟩
theorem EQ (hs : s.size ≤ 1000000) (hn : jM s = true) (hl : ys.length = an) (han : an ≤ 100000) (hrow : w.ownsRow 0 68 2 (.slice aa an ac) an (ys.flatMap iT)) (ho : fY ys s = true) (hA : w.cell? ⟨A,0,none⟩ = some (.slice aa an ac)) :
  Calls Tryz.prog 193 #[.string s,.int .i64 p,.pointer (some ⟨A,0,none⟩)] w (lg 18 w):=by
 have HI:=hid (nW s w hs);rw [hn] at HI;have hAl:=block_lt_of_cell hA;have HA:=hid hA;have HR:=hid hrow;clear hA hrow
 go_enter Tryz.func193,Tryz.ntmps193
 go_wp2_with fail;refine HI.out.mono ?_;rintro e w1 ⟨rfl,hb⟩;have HB:=hid hb
 have hA1:=(hb.cell (by exact hAl)).trans HA.out
 have R1:=hid (aU HR.out (fun B hB => hb.block B (aO HR.out hB)))
 clear hb HI
 have h0 : 0 < an:=by
  rcases Nat.eq_zero_or_pos an with h | h
  ·have : ys = []:=List.eq_nil_of_length_eq_zero ae;subst this
   simp [fY] at ho
  ·exact h
 obtain ⟨B,y,rfl,hy,hcell⟩:=sO aa an ac ys w1 hl R1.out h0
 have hg : (!Op.bytesLess s.toList y.1.toList && !s.toList == y.1.toList) = false:=by
  have:=ho
  unfold fY at this;rw [hy] at this
  cases hq : (!Op.bytesLess s.toList y.1.toList && !s.toList == y.1.toList)
  ·rfl
  ·simp [sGt,hq] at this
 have hz : ((an : Int) == 0) = false:=aG;go_wp2_with fail;refine (cr rfl).mono ?_;rintro e w1 ⟨rfl,rfl⟩;go_wp2_with fail
 refine (ez (by first | rfl | exact hg)).mono ?_
 rintro e w1 ⟨rfl,rfl⟩;exact ⟨rfl,⟨_,rfl⟩,HB.out⟩
end
def pD (w : World) (nm : ByteArray) (fn : Int) (aa : Option Addr) (an ac : Nat) : World :=
 ((w.alloc (bH nm fn)).alloc (.cells #[.slice aa an ac] 27)).alloc (bH ⟨#[]⟩ 0)
theorem lL (w : World) (nm : ByteArray) (fn : Int) (aa : Option Addr) (an ac : Nat) : Below w.heap.size w (pD w nm fn aa an ac) ∧ (pD w nm fn aa an ac).heap.size = w.heap.size + 1 + 1 + 1 ∧
  (pD w nm fn aa an ac).heap[w.heap.size]? = some (bH nm fn) ∧ (pD w nm fn aa an ac).cell? ⟨w.heap.size + 1,0,none⟩ = some (.slice aa an ac) ∧ (pD w nm fn aa an ac).heap[w.heap.size + 1 + 1]? = some (bH ⟨#[]⟩ 0):=by
 unfold pD;refine ⟨(((Below.refl _ w).alloc (Nat.le_refl _) _).alloc ak _).alloc cH _,ak,?_,cP,?_⟩
 ·rw [(aj ((w.alloc (bH nm fn)).alloc (.cells #[.slice aa an ac] 27)) _).block w.heap.size cH,(aj (w.alloc (bH nm fn)) _).block w.heap.size ak];exact (MapKept.heap_alloc w _).1
 ·have:=(MapKept.heap_alloc ((w.alloc (bH nm fn)).alloc (.cells #[.slice aa an ac] 27)) (bH ⟨#[]⟩ 0)).1
  exact bY
section
variable (R g cap : Nat) (bs : List Int) (nm : ByteArray) (fn nf : Int) (aa : Option Addr) (an ac : Nat) (ys : List Ex) (w : World)
theorem qf (h : Wr w R g cap bs) (x : Int) (hrow : w.ownsRow 0 68 2 (.slice aa an ac) an (ys.flatMap iT))
  (ht : ∀ W,Wr W R g cap bs → W.ownsRow 0 68 2 (.slice aa an ac) an (ys.flatMap iT) → W.cell? ⟨w.heap.size + 1,0,none⟩ = some (.slice aa an ac) → Calls Tryz.prog 316 #[.pointer (some ⟨R,0,none⟩),.string nm,.int .i64 32,.func (.func 193) #[] #[.pointer (some ⟨w.heap.size + 1,0,none⟩)]] W (aR R g x W)) :
  Calls Tryz.prog 131 #[cW R,.agg #[.string nm,.int .i64 fn],.slice aa an ac,.int .i64 nf] w (aR R g x w):=by
 have hmt:=dv;have hct:=ei;obtain ⟨B0,z0,x0,x1,x2⟩:=lL w nm fn aa an ac;obtain ⟨a0,a1,_,_⟩:=bS x0;have HW : ((w.alloc (bH nm fn)).alloc (.cells #[.slice aa an ac] 27)).alloc (bH ⟨#[]⟩ 0) = pD w nm fn aa an ac:=rfl;generalize pD w nm fn aa an ac = W1 at *
 have HT:=hid (ht W1 (h.later B0) (aU hrow (fun B hB => B0.block B (aO hrow hB))) x1)
 have BW:=hid B0;clear ht h B0 hrow
 go_enter Tryz.func131,Tryz.ntmps131
 exact Dt
theorem zg (h : Wr w R g cap bs) (hb : bs.length + 200 ≤ 1099511627776) (hl : ys.length = an) (han : an ≤ 100000) (hrow : w.ownsRow 0 68 2 (.slice aa an ac) an (ys.flatMap iT)) (hne : ∀ b,aa = some b → b.block ≠ R ∧ b.block ≠ g)
  (hf0 : -9223372036854775808 ≤ fn) (hf1 : fn < 9223372036854775808) (hnf0 : 0 ≤ nf) (hnf : nf < 9223372036854775808) (hx : dB nf ys (nm,fn) = 0) :
  Calls Tryz.prog 131 #[cW R,.agg #[.string nm,.int .i64 fn],.slice aa an ac,.int .i64 nf] w (oo R g bs (cX (nm,fn)) (.agg #[.string nm,.int .i64 fn]) w):=by
 have hx' : nm.size ≤ 32 ∧ jM nm = true ∧ fY ys nm = false ∧ 0 ≤ fn ∧ fn < nf:=by
  unfold dB bo at hx
  simp only at hx
  split at hx
  ·cases hx
  ·split at hx
   ·cases hx
   ·split at hx
    ·cases hx
    ·split at hx
     ·cases hx
     ·refine ⟨ae,by simp_all,by simp_all,ae,ae⟩
 obtain ⟨s1,n1,o1,f0,f1⟩:=hx';clear hx;have hmt:=dv;have hct:=ei;obtain ⟨B0,z0,x0,x1,x2⟩:=lL w nm fn aa an ac;obtain ⟨a0,a1,_,_⟩:=bS x0;have HW : ((w.alloc (bH nm fn)).alloc (.cells #[.slice aa an ac] 27)).alloc (bH ⟨#[]⟩ 0) = pD w nm fn aa an ac:=rfl;have hRl:=h.lt;have hgl:=h.g_lt;have u1:=cI nm 32 s1;generalize pD w nm fn aa an ac = W1 at *
 have HT:=hid (dD R g cap bs nm 32 193 #[.pointer (some ⟨w.heap.size + 1,0,none⟩)] W1 (h.later B0) ae ae ae (fun _ _ => rfl) (qN nm _ (w.heap.size + 1) aa an ac ys W1 ae n1 hl han (aU hrow (fun B hB => B0.block B (aO hrow hB))) o1 x1))
 have BW:=hid B0;clear h B0 hrow
 go_enter Tryz.func131,Tryz.ntmps131
 go_wp2_with fail;refine HT.out.mono ?_;rintro e w2 ⟨rfl,g1,aQ,hw2,hs2⟩;have y0:=(hs2.block (b:=w.heap.size) ae ae ae).trans x0;have y2:=(hs2.block (b:=w.heap.size + 1 + 1) ae ae ae).trans x2;have n2 : w.heap.size + 1 + 1 ≠ g1:=hs2.ne ae ae;obtain ⟨b0,b1,_,_⟩:=bS y0;have S2:=hid ((Stp.of_below BW.out).trans hs2);have z2:=hs2.size;have HX:=hid (fI R g1 aQ (bs ++ eI nm) fn nf w2 hw2 aG f0 f1 hnf);clear hs2 HT hw2 x0 x1 x2 a0 a1 hmt hct HW;go_wp2_with fail;refine HX.out.mono ?_;rintro e w3 ⟨rfl,g2,cap2,hw3,hs3⟩;have q2:=(hs3.block (b:=w.heap.size + 1 + 1) ae ae n2).trans y2;have n3 : w.heap.size + 1 + 1 ≠ g2:=hs3.ne ae n2;obtain ⟨c0,c1,c2,c3⟩:=bS q2;have W3:=hid hw3;have S3:=hid (S2.out.trans hs3);clear hw3 hs3 HX y0 y2 b0 b1;go_wp2_with fail;refine bodyPost_ret (v:=.agg #[.string nm,.int .i64 fn]) ?_ rfl ⟨rfl,g2,cap2,?_,?_⟩
 ·exact fH
 ·have:=(W3.out.set (b:=w.heap.size + 1 + 1) (o:=0) (v:=.string nm) ae n3).set (b:=w.heap.size + 1 + 1) (o:=1) (v:=.int .i64 fn) ae n3
  simpa [cX,List.append_assoc] using this
 ·exact (S3.out.set ae).set ae
theorem Fl (h : Wr w R g cap bs) (hb : bs.length + 200 ≤ 1099511627776) (hl : ys.length = an) (han : an ≤ 100000) (hrow : w.ownsRow 0 68 2 (.slice aa an ac) an (ys.flatMap iT))
  (hf0 : -9223372036854775808 ≤ fn) (hf1 : fn < 9223372036854775808) (hnf0 : 0 ≤ nf) (hnf : nf < 9223372036854775808) (s1 : nm.size ≤ 32) (n1 : jM nm = true) (o1 : fY ys nm = false) (hbad : fn < 0 ∨ nf ≤ fn) :
  Calls Tryz.prog 131 #[cW R,.agg #[.string nm,.int .i64 fn],.slice aa an ac,.int .i64 nf] w (aR R g 30 w):=by
 have hmt:=dv;have hct:=ei;obtain ⟨B0,z0,x0,x1,x2⟩:=lL w nm fn aa an ac;obtain ⟨a0,a1,_,_⟩:=bS x0;have HW : ((w.alloc (bH nm fn)).alloc (.cells #[.slice aa an ac] 27)).alloc (bH ⟨#[]⟩ 0) = pD w nm fn aa an ac:=rfl;have hRl:=h.lt;have hgl:=h.g_lt;generalize pD w nm fn aa an ac = W1 at *
 have HT:=hid (dD R g cap bs nm 32 193 #[.pointer (some ⟨w.heap.size + 1,0,none⟩)] W1 (h.later B0) ae ae ae (fun _ _ => rfl) (qN nm _ (w.heap.size + 1) aa an ac ys W1 ae n1 hl han (aU hrow (fun B hB => B0.block B (aO hrow hB))) o1 x1))
 have BW:=hid B0;clear h B0 hrow
 go_enter Tryz.func131,Tryz.ntmps131
 go_wp2_with fail;refine HT.out.mono ?_;rintro e w2 ⟨rfl,g1,aQ,hw2,hs2⟩;have y0:=(hs2.block (b:=w.heap.size) ae ae ae).trans x0;obtain ⟨b0,b1,_,_⟩:=bS y0;have S2:=hid ((Stp.of_below BW.out).trans hs2);have HX:=hid (jU R g1 aQ _ fn nf w2 hw2 hf0 hf1 hbad hnf0 hnf);clear hs2 HT hw2 x0 x1 x2 a0 a1 hmt hct HW;exact Bv
theorem EK (h : Wr w R g cap bs) (hb : bs.length + 200 ≤ 1099511627776) (hs : nm.size ≤ 1000000 ∨ 32 < nm.size) (hl : ys.length = an) (han : an ≤ 100000) (hrow : w.ownsRow 0 68 2 (.slice aa an ac) an (ys.flatMap iT))
  (hf0 : -9223372036854775808 ≤ fn) (hf1 : fn < 9223372036854775808) (hnf0 : 0 ≤ nf) (hnf : nf < 9223372036854775808) (hx : dB nf ys (nm,fn) ≠ 0) :
  Calls Tryz.prog 131 #[cW R,.agg #[.string nm,.int .i64 fn],.slice aa an ac,.int .i64 nf] w (aR R g (dB nf ys (nm,fn)) w):=by
 unfold dB bo at hx ⊢
 simp only at hx ⊢
 by_cases s1 : 32 < nm.size
 ·rw [if_pos s1]
  exact qf R g cap bs nm fn nf aa an ac ys w h 13 hrow (fun W hW _ _ => fh R g cap bs nm 32 _ W hW ae)
 rw [if_neg s1] at hx ⊢
 by_cases n1 : jM nm = false
 ·rw [if_pos n1]
  exact qf R g cap bs nm fn nf aa an ac ys w h 23 hrow (fun W hW _ _ => eX R g cap bs nm 32 193 _ 23 W hW ae (fun _ _ => rfl) (ES nm _ _ W ae n1))
 rw [if_neg n1] at hx ⊢
 have n1' : jM nm = true:=by simpa using n1
 by_cases o1 : fY ys nm = true
 ·rw [if_pos o1]
  exact qf R g cap bs nm fn nf aa an ac ys w h 18 hrow (fun W hW hr hc => eX R g cap bs nm 32 193 _ 18 W hW ae (fun _ _ => rfl) (EQ nm _ _ aa an ac ys W ae n1' hl han hr o1 hc))
 rw [if_neg o1] at hx ⊢
 have o1' : fY ys nm = false:=by simpa using o1
 by_cases f1 : fn < 0 ∨ nf ≤ fn
 ·rw [if_pos f1];exact Fl R g cap bs nm fn nf aa an ac ys w h hb hl han hrow hf0 hf1 hnf0 hnf ae n1' o1' f1
 ·rw [if_neg f1] at hx; exact absurd rfl hx
end
end Go.Proofs.YtepnnenohjfkbaaGreatDoor
