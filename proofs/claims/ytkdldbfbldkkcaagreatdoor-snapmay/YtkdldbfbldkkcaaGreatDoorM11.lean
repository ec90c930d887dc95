/-
  Texts NWb NWd.
-/
import Derived.Deep.Cut
import Derived.Test.YtkdldbfbldkkcaaGreatDoorM00
import Derived.Test.YtkdldbfbldkkcaaGreatDoorM09
set_option linter.unusedVariables false
set_option maxRecDepth 100000
set_option maxHeartbeats 16000000
namespace Go.Proofs.YtkdldbfbldkkcaaGreatDoor
open Go.RowKit
def aV {α : Type} (f : α → WS → WS) (l : List α) (s : WS) : WS:=l.foldl (fun s x => f x s) s
theorem kN {α : Type} (f : α → WS → WS) (l : List α) (x : α) (s : WS) : aV f (l ++ [x]) s = f x (aV f l s):=by simp [aV]
theorem mW {α : Type} (f : α → WS → WS) (l l' : List α) (s : WS) : aV f (l ++ l') s = aV f l' (aV f l s):=by simp [aV]
def jH {α : Type} (f : α → WS → WS) : Prop:=∀ x s,s.2 = true → f x s = s
theorem eW {α : Type} {f : α → WS → WS} (hf : jH f) : ∀ (l : List α) (s : WS),s.2 = true → aV f l s = s
 | [],s,_ => rfl
 | x :: l,s,h => by
  have h1:=hf x s h
  show aV f l (f x s) = s
  rw [h1];exact eW hf l s h
def uE {α : Type} (f : α → WS → WS) (C : Nat) (l : List α) : Prop:=∀ x ∈ l,∀ s,(f x s).1.length ≤ s.1.length + C
theorem gN {α : Type} {f : α → WS → WS} {C : Nat} : ∀ (l : List α) (s : WS),uE f C l → (aV f l s).1.length ≤ s.1.length + C * l.length
 | [],s,_ => by simp [aV]
 | x :: l,s,h => by
  have h1:=h x au s
  have h2:=gN l (f x s) (fun y hy => h y (by simp [hy]))
  show (aV f l (f x s)).1.length ≤ _
  rw [List.length_cons,Nat.mul_succ];omega
theorem pT (b : Bool) (s : WS) (h : s.2 = true) : ed b s = s:=by
 obtain ⟨bs,bad⟩:=s
 simp at h
 simp [ed,h]
theorem mC (zs : List Int) (s : WS) (h : s.2 = true) : fE zs s = s:=by simp [fE,h]
theorem iX (v most : Int) (s : WS) (h : s.2 = true) : bz v most s = s:=by
 unfold bz;rw [pT _ s h,mC _ s h]
theorem EU (v least most : Int) (s : WS) (h : s.2 = true) : fY v least most s = s:=by
 unfold fY;rw [pT _ s h,mC _ s h]
theorem qK (zs : List Int) (s : WS) : (fE zs s).1.length ≤ s.1.length + zs.length:=by
 unfold fE
 split
 ·omega
 ·simp
theorem cx (v most : Int) (s : WS) : (bz v most s).1.length ≤ s.1.length + 10:=by
 have h:=qK (aw v) (ed (decide (v ≤ most)) s)
 have:=aK v
 unfold bz;have e : (ed (decide (v ≤ most)) s).1 = s.1:=rfl;rw [e] at h;omega
theorem lR (v least most : Int) (s : WS) : (fY v least most s).1.length ≤ s.1.length + 1:=by
 have h:=qK [v] (ed (decide (least ≤ v) && decide (v ≤ most)) s);unfold fY;have e : (ed (decide (least ≤ v) && decide (v ≤ most)) s).1 = s.1:=rfl;rw [e] at h
 simpa using h
theorem gA {v most : Int} {s : WS} (h : (bz v most s).2 = false) : v ≤ most ∧ s.2 = false:=by
 unfold bz fE at h
 split at h
 ·rename_i hb; rw [hb] at h; cases h
 ·simp [ed] at h; exact ⟨h.2,h.1⟩
theorem cM {α : Type} {f : α → WS → WS} (hf : jH f) {l : List α} {s : WS} (h : (aV f l s).2 = false) : s.2 = false:=by
 cases hs : s.2 with
 | false => rfl
 | true => rw [eW hf l s hs,hs] at h; cases h
def dM (v : Int) (s : WS) : WS:=bz v 18446744073709551615 s
theorem cD : jH dM:=fun v s h => iX v _ s h
def bw {α : Type} (f : α → WS → WS) (l : List α) (most : Int) (s : WS) : WS:=aV f l (bz l.length most s)
theorem dG {α : Type} {f : α → WS → WS} (hf : jH f) (l : List α) (most : Int) (s : WS) (h : s.2 = true) : bw f l most s = s:=by
 unfold bw;rw [iX _ _ s h];exact eW hf l s h
theorem dY {α : Type} {f : α → WS → WS} (hf : jH f) {C : Nat} {l : List α} (hw : uE f C l) (most : Nat) (s : WS) : (bw f l most s).1.length ≤ s.1.length + 10 + C * most:=by
 have h1:=cx l.length most s;unfold bw
 cases hb : (bz l.length most s).2 with
 | true => rw [eW hf l _ hb]; omega
 | false =>
  have h2:=(gA hb).1;have h3:=gN l (bz l.length most s) hw;have h4 : C * l.length ≤ C * most:=Nat.mul_le_mul_left C ae;omega
theorem MG (R g cap : Nat) (s : WS) (b off n c : Nat) (most C : Nat) (l : List Int) (f : Int → WS → WS) (K : Nat) (fi ca : Array Value) (J : World → Nat → Prop) (w : World) (h : WrN w R g cap s.1 s.2) (hl : l.length = n) (h0 : 0 < n) (hn : n ≤ 1099511627776) (hm : most ≤ 100000) (hC : C ≤ 100000) (hb : s.1.length + 20 + C * most + C ≤ 1099511627776)
  (hJ : J w g) (hJs : ∀ W W' g1 g2,J W g1 → Stp R g1 g2 W W' → J W' g2)
  (hc : ∀ W g1,J W g1 → ∀ (j : Nat) x,l[j]? = some x → W.cell? ⟨b,off + j,none⟩ = some (.int .u64 x))
  (hf : jH f) (hw : uE f C l) (hK : ∀ args w,(callFunc K args).run Tryz.prog w = .ok (.enter K args) w)
  (hE : ∀ W g1 cap1 s1 x,x ∈ l → WrN W R g1 cap1 s1.1 s1.2 → J W g1 → s1.1.length + C ≤ 1099511627776 → s1.2 = false → Calls Tryz.prog K (fi ++ #[.int .u64 x] ++ ca) W (fZ R g1 (f x s1) W)) :
  Calls Tryz.prog 41 #[.pointer (some ⟨R,0,none⟩),.slice (some ⟨b,off,none⟩) n c,.int .i64 most,.func (.func K) fi ca] w (fZ R g (bw f l most s) w):=by
 have hw1 : IntKind.u64.wrap (n : Int) = n:=lw;have hw2 : IntKind.u64.wrap (most : Int) = most:=lw;have hw3 : (n : Int) % 18446744073709551616 = n:=ae;have hw4 : (most : Int) % 18446744073709551616 = most:=ae;have HN:=hid (cY R g cap s n most w h ae ae ae);have HL:=hid (cx (n : Int) most s)
 have HO:=hid (fun hh => (gA (v:=(n : Int)) (most:=most) (s:=s) hh).1)
 have eL : bw f l most s = aV f l (bz n most s):=yn;rw [eL];clear eL h;generalize bz (n : Int) most s = s0 at *
 have HB:=hid (fun (k : Nat) (hk : k ≤ n) (hh : (aV f (l.take k) s0).2 = false) => (show (aV f (l.take k) s0).1.length + C ≤ 1099511627776 from by
  have h1:=HO.out (cM hf hh)
  have h2:=gN (l.take k) s0 (fun x hx => hw x (List.mem_of_mem_take hx))
  have h3 : (l.take k).length ≤ most:=sW;have h4 : C * (l.take k).length ≤ C * most:=Nat.mul_le_mul_left C h3;have h5:=HL.out
  omega))
 have HJ:=hid hJ;have HJS:=hid hJs;have HC:=hid hc;have HE:=hid hE;have HF:=hid hf;clear hJ hJs hc hE hf hw HO HL hb hw1 hw2
 go_enter Tryz.func41,Tryz.ntmps41
 exact GW
theorem Eu (R g cap : Nat) (s : WS) (a : Option Addr) (c : Nat) (most : Nat) (f : Int → WS → WS) (K : Nat) (fi ca : Array Value) (w : World) (h : WrN w R g cap s.1 s.2) (hm : most ≤ 1099511627776) (hb : s.1.length + 20 ≤ 1099511627776) :
  Calls Tryz.prog 41 #[.pointer (some ⟨R,0,none⟩),.slice a 0 c,.int .i64 most,.func (.func K) fi ca] w (fZ R g (bw f [] most s) w):=by
 have hw4 : (most : Int) % 18446744073709551616 = most:=ae;have HN:=hid (cY R g cap s 0 most w h ae ae ae);have eL : bw f [] most s = bz 0 most s:=rfl;rw [eL];clear eL h hb;generalize bz 0 most s = s0 at *
 go_enter Tryz.func41,Tryz.ntmps41
 exact zH
theorem L8 (R g cap : Nat) (s : WS) (b off n c : Nat) (most C : Nat) (l : List FrM) (f : FrM → WS → WS) (K : Nat) (fi ca : Array Value) (J : World → Nat → Prop) (w : World) (h : WrN w R g cap s.1 s.2) (hl : l.length = n) (h0 : 0 < n) (hn : n ≤ 1099511627776) (hm : most ≤ 100000) (hC : C ≤ 100000) (hb : s.1.length + 20 + C * most + C ≤ 1099511627776)
  (hJ : J w g) (hJs : ∀ W W' g1 g2,J W g1 → Stp R g1 g2 W W' → J W' g2)
  (hc : ∀ W g1,J W g1 → ∀ (j : Nat) x,l[j]? = some x → W.cell? ⟨b,off + j * 4,none⟩ = some (.int .i64 x.1) ∧ W.cell? ⟨b,off + j * 4 + 1,none⟩ = some (.int .i64 x.2.1) ∧ W.cell? ⟨b,off + j * 4 + 2,none⟩ = some (.slice x.2.2.1.1.1 x.2.2.1.1.2.1 x.2.2.1.1.2.2) ∧ W.cell? ⟨b,off + j * 4 + 3,none⟩ = some (.slice x.2.2.2.1.1 x.2.2.2.1.2.1 x.2.2.2.1.2.2))
  (hf : jH f) (hw : uE f C l) (hK : ∀ args w,(callFunc K args).run Tryz.prog w = .ok (.enter K args) w)
  (hE : ∀ W g1 cap1 s1 x,x ∈ l → WrN W R g1 cap1 s1.1 s1.2 → J W g1 → s1.1.length + C ≤ 1099511627776 → s1.2 = false → Calls Tryz.prog K (fi ++ #[frV x] ++ ca) W (fZ R g1 (f x s1) W)) :
  Calls Tryz.prog 44 #[.pointer (some ⟨R,0,none⟩),.slice (some ⟨b,off,none⟩) n c,.int .i64 most,.func (.func K) fi ca] w (fZ R g (bw f l most s) w):=by
 have hw1 : IntKind.u64.wrap (n : Int) = n:=lw;have hw2 : IntKind.u64.wrap (most : Int) = most:=lw;have hw3 : (n : Int) % 18446744073709551616 = n:=ae;have hw4 : (most : Int) % 18446744073709551616 = most:=ae;have HN:=hid (cY R g cap s n most w h ae ae ae);have HL:=hid (cx (n : Int) most s)
 have HO:=hid (fun hh => (gA (v:=(n : Int)) (most:=most) (s:=s) hh).1)
 have eL : bw f l most s = aV f l (bz n most s):=yn;rw [eL];clear eL h;generalize bz (n : Int) most s = s0 at *
 have HB:=hid (fun (k : Nat) (hk : k ≤ n) (hh : (aV f (l.take k) s0).2 = false) => (show (aV f (l.take k) s0).1.length + C ≤ 1099511627776 from by
  have h1:=HO.out (cM hf hh)
  have h2:=gN (l.take k) s0 (fun x hx => hw x (List.mem_of_mem_take hx))
  have h3 : (l.take k).length ≤ most:=sW;have h4 : C * (l.take k).length ≤ C * most:=Nat.mul_le_mul_left C h3;have h5:=HL.out
  omega))
 have HJ:=hid hJ;have HJS:=hid hJs;have HC:=hid hc;have HE:=hid hE;have HF:=hid hf;clear hJ hJs hc hE hf hw HO HL hb hw1 hw2
 go_enter Tryz.func44,Tryz.ntmps44
 go_wp2_with fail;refine HN.out.mono ?_;rintro e w1 ⟨rfl,g1,cap1,hw1,hs1⟩;have W1:=hid hw1;have S1:=hid hs1;clear hw1 hs1 HN hw3 hw4;go_wp2_with fail
 go_loopw [19] (fun i wr => ∃ (k g2 cap2 : Nat),k ≤ n ∧ i = .int .i64 k ∧ Hid (WrN wr R g2 cap2 (aV f (l.take k) s0).1 (aV f (l.take k) s0).2) ∧ Hid (Stp R g g2 w wr)) (fun i _ => n - (intOf i).toNat)
 case atStart => exact ⟨0,g1,cap1,ae,rfl,W1,S1⟩
 case round =>
  obtain ⟨k,g2,cap2,hk,rfl,WR,SR⟩:=hrel
  by_cases hlt : k < n
  ·obtain ⟨x,hx⟩ : ∃ x,l[k]? = some x:=⟨_,ba ae⟩;have J2:=hid (HJS.out _ _ _ _ HJ.out SR.out);have hcell:=HC.out wr g2 J2.out k x hx;have hlt' : (k : Int) < (n : Int):=ae;have c1:=WR.out.c1;have d1 : (wr.alloc (frO x.1 x.2.1 x.2.2.1.1.1 x.2.2.1.1.2.1 x.2.2.1.1.2.2 x.2.2.2.1.1 x.2.2.2.1.2.1 x.2.2.2.1.2.2)).cell? ⟨R,1,none⟩ = some (.bool (aV f (l.take k) s0).2):=ag (aj _ _) c1;have HX:=hid hx;obtain ⟨bad,hbad⟩ : ∃ b,(aV f (l.take k) s0).2 = b:=⟨_,rfl⟩;rw [hbad] at c1 d1;have HBad:=hid hbad;clear hx hbad
   cases bad with
   | true =>
    obtain ⟨q0,q1,q2,q3⟩:=hcell;go_wp2_with fail;go_end0
    have e : aV f l s0 = aV f (l.take k) s0:=by
     conv => lhs; rw [← List.take_append_drop k l,mW]
     exact eW HF.out _ _ HBad.out
    exact ⟨rfl,g2,cap2,by rw [e]; exact (WR.out.later (aj _ _)),(SR.out.trans (Stp.of_below (aj _ _)))⟩
   | false =>
    have HQ:=hid (HE.out (wr.alloc (frO x.1 x.2.1 x.2.2.1.1.1 x.2.2.1.1.2.1 x.2.2.1.1.2.2 x.2.2.2.1.1 x.2.2.2.1.2.1 x.2.2.2.1.2.2)) g2 cap2 _ x (List.mem_of_getElem? HX.out) (WR.out.later (aj _ _)) (HJS.out _ _ _ _ J2.out (Stp.of_below (aj _ _))) (HB.out k hk HBad.out) HBad.out)
    have eN : f x (aV f (l.take k) s0) = aV f (l.take (k + 1)) s0:=by
     rw [← kN f (l.take k) x s0,List.take_add_one,HX.out];rfl
    rw [eN] at HQ;clear eN HE HC HJS HJ HB HF;obtain ⟨q0,q1,q2,q3⟩:=hcell;go_wp2_with fail;refine HQ.out.mono ?_;rintro e w3 ⟨rfl,g3,cap3,hw3,hs3⟩;have W3:=hid hw3;have S3:=hid (SR.out.trans ((Stp.of_below (aj _ _)).trans hs3));exact Ac
  ·have hlt' : ¬ (k : Int) < (n : Int):=ae;obtain rfl : k = n:=ae;clear HE HC HJS HJ HB;go_wp2_with fail;go_end0;have e : l.take k = l:=List.take_of_length_le ae;have W2:=WR.out;rw [e] at W2;exact ⟨rfl,g2,cap2,W2,SR.out⟩
theorem Gi (R g cap : Nat) (s : WS) (a : Option Addr) (c : Nat) (most : Nat) (f : FrM → WS → WS) (K : Nat) (fi ca : Array Value) (w : World) (h : WrN w R g cap s.1 s.2) (hm : most ≤ 1099511627776) (hb : s.1.length + 20 ≤ 1099511627776) :
  Calls Tryz.prog 44 #[.pointer (some ⟨R,0,none⟩),.slice a 0 c,.int .i64 most,.func (.func K) fi ca] w (fZ R g (bw f [] most s) w):=by
 have hw4 : (most : Int) % 18446744073709551616 = most:=ae;have HN:=hid (cY R g cap s 0 most w h ae ae ae);have eL : bw f [] most s = bz 0 most s:=rfl;rw [eL];clear eL h hb;generalize bz 0 most s = s0 at *
 go_enter Tryz.func44,Tryz.ntmps44
 exact zH
theorem Mf (R g cap : Nat) (s : WS) (b off n c : Nat) (most C : Nat) (l : List Int) (f : Int → WS → WS) (K : Nat) (fi ca : Array Value) (J : World → Nat → Prop) (w : World) (h : WrN w R g cap s.1 s.2) (hl : l.length = n) (h0 : 0 < n) (hn : n ≤ 1099511627776) (hm : most ≤ 100000) (hC : C ≤ 100000) (hb : s.1.length + 20 + C * most + C ≤ 1099511627776)
  (hJ : J w g) (hJs : ∀ W W' g1 g2,J W g1 → Stp R g1 g2 W W' → J W' g2)
  (hc : ∀ W g1,J W g1 → ∀ (j : Nat) x,l[j]? = some x → W.cell? ⟨b,off + j,none⟩ = some (.int .i64 x))
  (hf : jH f) (hw : uE f C l) (hK : ∀ args w,(callFunc K args).run Tryz.prog w = .ok (.enter K args) w)
  (hE : ∀ W g1 cap1 s1 x,x ∈ l → WrN W R g1 cap1 s1.1 s1.2 → J W g1 → s1.1.length + C ≤ 1099511627776 → s1.2 = false → Calls Tryz.prog K (fi ++ #[.int .i64 x] ++ ca) W (fZ R g1 (f x s1) W)) :
  Calls Tryz.prog 70 #[.pointer (some ⟨R,0,none⟩),.slice (some ⟨b,off,none⟩) n c,.int .i64 most,.func (.func K) fi ca] w (fZ R g (bw f l most s) w):=by
 have hw1 : IntKind.u64.wrap (n : Int) = n:=lw;have hw2 : IntKind.u64.wrap (most : Int) = most:=lw;have hw3 : (n : Int) % 18446744073709551616 = n:=ae;have hw4 : (most : Int) % 18446744073709551616 = most:=ae;have HN:=hid (cY R g cap s n most w h ae ae ae);have HL:=hid (cx (n : Int) most s)
 have HO:=hid (fun hh => (gA (v:=(n : Int)) (most:=most) (s:=s) hh).1)
 have eL : bw f l most s = aV f l (bz n most s):=yn;rw [eL];clear eL h;generalize bz (n : Int) most s = s0 at *
 have HB:=hid (fun (k : Nat) (hk : k ≤ n) (hh : (aV f (l.take k) s0).2 = false) => (show (aV f (l.take k) s0).1.length + C ≤ 1099511627776 from by
  have h1:=HO.out (cM hf hh)
  have h2:=gN (l.take k) s0 (fun x hx => hw x (List.mem_of_mem_take hx))
  have h3 : (l.take k).length ≤ most:=sW;have h4 : C * (l.take k).length ≤ C * most:=Nat.mul_le_mul_left C h3;have h5:=HL.out
  omega))
 have HJ:=hid hJ;have HJS:=hid hJs;have HC:=hid hc;have HE:=hid hE;have HF:=hid hf;clear hJ hJs hc hE hf hw HO HL hb hw1 hw2
 go_enter Tryz.func70,Tryz.ntmps70
 exact GW
theorem vw (R g cap : Nat) (s : WS) (a : Option Addr) (c : Nat) (most : Nat) (f : Int → WS → WS) (K : Nat) (fi ca : Array Value) (w : World) (h : WrN w R g cap s.1 s.2) (hm : most ≤ 1099511627776) (hb : s.1.length + 20 ≤ 1099511627776) :
  Calls Tryz.prog 70 #[.pointer (some ⟨R,0,none⟩),.slice a 0 c,.int .i64 most,.func (.func K) fi ca] w (fZ R g (bw f [] most s) w):=by
 have hw4 : (most : Int) % 18446744073709551616 = most:=ae;have HN:=hid (cY R g cap s 0 most w h ae ae ae);have eL : bw f [] most s = bz 0 most s:=rfl;rw [eL];clear eL h hb;generalize bz 0 most s = s0 at *
 go_enter Tryz.func70,Tryz.ntmps70
 exact zH
theorem Lr (R g cap : Nat) (s : WS) (b : Bool) (w : World) (h : WrN w R g cap s.1 s.2) :
  Calls Tryz.prog 66 #[.pointer (some ⟨R,0,none⟩),.bool b] w fun e w' => e = .returned (.tuple #[]) ∧ WrN w' R g cap (ed b s).1 (ed b s).2 ∧ Kept (fun k => k = R) w w':=by
 obtain ⟨bs,bad⟩:=s;have c1:=h.c1;have f1:=h.f1;have HW:=hid h;clear h
 have fin : ∀ b' : Bool,WrN (w.setCell ⟨R,1,none⟩ (.bool b')) R g cap bs b' ∧ Kept (fun k => k = R) w (w.setCell ⟨R,1,none⟩ (.bool b')):=fun b' => by
  have hk : Kept (fun k => k = R) w (w.setCell ⟨R,1,none⟩ (.bool b')):=⟨rfl,rfl,rfl,dH,fun k hk hs => Below.heap_setCell _ _ _ _ nt⟩
  refine ⟨⟨?_,?_,?_,?_,HW.out.row.kept hk HW.out.ne,HW.out.ne⟩,hk⟩
  ·rw [World.cell?_setCell_other _ _ _ _ au]; exact HW.out.c0
  ·exact World.cell?_setCell_same w ⟨R,1,none⟩ (.bool b') c1
  ·rw [World.frozen?_setCell]; exact HW.out.f0
  ·rw [World.frozen?_setCell]; exact HW.out.f1
 have FIN:=hid fin;clear fin HW
 cases bad <;> cases b
 all_goals
  go_enter Tryz.func66,Tryz.ntmps66
  go_wp2_with fail;go_end0;exact ⟨rfl,(FIN.out _).1,(FIN.out _).2⟩
theorem Mg {ρ : Operand → Value} {o : Oper} (d s : Operand) (ho : o.op = Op.call { callee:=Callee.builtin Builtin.copy,args:=#[d,s],argTypes:=#[42,42] }) (w : World)
  (hd : ρ d = .slice (some ⟨w.heap.size,0,none⟩) 4096 4096) (b off sc : Nat) (hs : ρ s = .slice (some ⟨b,off,none⟩) 4096 sc) (l : List Int) (hl : l.length = 4096)
  (hsrc : ∀ (j : Nat) x,l[j]? = some x → w.cell? ⟨b,off + j,none⟩ = some (.int .u8 x)) :
  (execOp ρ o).run Tryz.prog (w.alloc (.cells (byV Zp) 139)) = .ok (.value (.int .i64 4096)) (w.alloc (.cells (byV l) 139)):=by
 have hz : (byV Zp).size = 4096:=by simp [byV,qp]
 have hsrc' : ∀ (j : Nat) v,(l.map (Value.int .u8))[j]? = some v → (w.alloc (.cells (byV Zp) 139)).cell? ((⟨b,off,none⟩ : Addr).add j) = some v:=by
  intro j v hv;rw [List.getElem?_map,Option.map_eq_some_iff] at hv;obtain ⟨x,hx,rfl⟩:=hv;have hplain : (⟨b,off,none⟩ : Addr).add j = ⟨b,off + j,none⟩:=dJ;rw [hplain];exact ag (aj _ _) (hsrc j x hx)
 have h:=El d s ho w.heap.size 0 4096 4096 hd ⟨b,off,none⟩ 4096 sc hs (byV Zp) 139 (l.map (Value.int .u8)) _ (heap_alloc_last w _) lu hsrc' (by rw [hz]; simp [hl]) (fX l)
 rw [h]
 have e1 : ((byV Zp).toList.take 0 ++ l.map (Value.int .u8) ++ (byV Zp).toList.drop (0 + (l.map (Value.int .u8)).length)).toArray = byV l:=by
  have : (byV Zp).toList.drop (0 + (l.map (Value.int .u8)).length) = []:=List.drop_eq_nil_of_le (by simp [hl,qp])
  rw [this]
  simp
 rw [e1,World.setRow_alloc_new]
 simp [goInt,hl]
theorem pV {Z : List Int} (hZ : Hid (Z = Zp)) : Z.length = 4096:=by rw [hZ.out]; exact qp
theorem rT {ρ : Operand → Value} {o : Oper} {Z : List Int} (hZ : Hid (Z = Zp)) (ho : o.op = .alloc 139) (w : World) :
  (execOp ρ o).run Tryz.prog w = .ok (.value (.pointer (some ⟨w.heap.size,0,none⟩))) (w.alloc (.cells (byV Z) 139)):=by rw [hZ.out]; exact MV ho w
theorem sJ {ρ : Operand → Value} {o : Oper} {Z : List Int} (hZ : Hid (Z = Zp)) (ho : o.op = .build 139 #[]) (w : World) :
  (execOp ρ o).run Tryz.prog w = .ok (.value (.agg (byV Z))) w:=by rw [hZ.out]; exact N9 ho w
theorem GX {ρ : Operand → Value} {o : Oper} {Z : List Int} (hZ : Hid (Z = Zp)) (d s : Operand) (ho : o.op = Op.call { callee:=Callee.builtin Builtin.copy,args:=#[d,s],argTypes:=#[42,42] }) (w : World)
  (hd : ρ d = .slice (some ⟨w.heap.size,0,none⟩) 4096 4096) (b off sc : Nat) (hs : ρ s = .slice (some ⟨b,off,none⟩) 4096 sc) (l : List Int) (hl : l.length = 4096)
  (hsrc : ∀ (j : Nat) x,l[j]? = some x → w.cell? ⟨b,off + j,none⟩ = some (.int .u8 x)) :
  (execOp ρ o).run Tryz.prog (w.alloc (.cells (byV Z) 139)) = .ok (.value (.int .i64 4096)) (w.alloc (.cells (byV l) 139)):=by rw [hZ.out]; exact Mg d s ho w hd b off sc hs l hl hsrc
theorem GK {ρ : Operand → Value} {o : Oper} {Z : List Int} (hZ : Hid (Z = Zp)) (x y : Operand) (ty : TypeId) (ho : o.op = .binOp .neq 139 x y ty) (xs : List Int) (r : Bool) (hx : ρ x = .agg (byV xs)) (hy : ρ y = .agg (byV Z)) (h1 : xs.length = 4096) (hr : Hid ((!decide (xs = Zp)) = r)) (w : World) :
  (execOp ρ o).run Tryz.prog w = .ok (.value (.bool r)) w:=by
 rw [Mq x y ty ho xs Z hx hy h1 (pV hZ),hZ.out,hr.out]
def pgA (x : PgM) (s : WS) : WS:=ed (decide (x.1.2.1 = 4096)) s
theorem ji : jH pgA:=fun x s h => pT _ s h
theorem EE (l : List PgM) : uE pgA 0 l:=fun x _ s => Nat.le_refl _
def fW (ps : List PgM) (k : Nat) : List Int:=((List.range k).filter fun i => (ps[i]?).elim false fun (x : PgM) => decide (x.2 ≠ Zp)).map (fun (i : Nat) => (i : Int))
def idx (ps : List PgM) : List Int:=fW ps ps.length
theorem qQ (ps : List PgM) (k : Nat) (x : PgM) (h : ps[k]? = some x) : fW ps (k + 1) = if x.2 = Zp then fW ps k else fW ps k ++ [(k : Int)]:=by
 unfold fW;rw [List.range_succ,List.filter_append]
 by_cases hz : x.2 = Zp
 ·simp [h,hz]
 ·simp [h,hz]
theorem iU (ps : List PgM) (k : Nat) : (fW ps k).length ≤ k:=by
 unfold fW;rw [List.length_map];exact Nat.le_trans (List.length_filter_le _ _) au
theorem Tryz.inf3 : (Tryz.prog.info? 3).map (fun i => (i.zero,i.size,i.bytes)) = some (some (.int .i64 0),1,8):=ak
theorem one_cell (w : World) (B : Nat) (v : Value) (t : TypeId) (h : w.heap.size = B) : ∀ (j : Nat) y,([v] : List Value)[j]? = some y → (w.alloc (.cells #[v] t)).cell? ((⟨B,0,none⟩ : Addr).add j) = some y:=by
 subst h;intro j y hy
 have hj : j = 0:=by
  rcases Nat.eq_zero_or_pos j with h | h
  ·exact h
  ·rw [List.getElem?_eq_none aI] at hy; cases hy
 subst hj;have hplain : (⟨w.heap.size,0,none⟩ : Addr).add 0 = ⟨w.heap.size,0,none⟩:=dJ;rw [hplain,ai (bZ w _)]
 simpa using hy
theorem CM (R g cap : Nat) (s : WS) (b off n c : Nat) (ps : List PgM) (w0 w : World) (h : WrN w R g cap s.1 s.2) (hl : ps.length = n) (h0 : 0 < n) (hn : n ≤ 1099511627776) (hB : Below w0.heap.size w0 w) (hR : w0.heap.size ≤ R)
  (hc : ∀ (j : Nat) x,ps[j]? = some x → w0.cell? ⟨b,off + j,none⟩ = some (.slice x.1.1 x.1.2.1 x.1.2.2)) (hi : ∀ x ∈ ps,SI .u8 w0 x.1.1 x.1.2.1 x.2) :
  Calls Tryz.prog 69 #[.pointer (some ⟨R,0,none⟩),.slice (some ⟨b,off,none⟩) n c] w fun e w' => ∃ v,e = .returned v ∧ WrN w' R g cap (aV pgA ps s).1 (aV pgA ps s).2 ∧ Kept (fun k => k = R) w w' ∧
   ((aV pgA ps s).2 = true ∧ v = .slice none 0 0 ∨ (aV pgA ps s).2 = false ∧ w'.ownsRow w.heap.size 3 1 v (idx ps).length ((idx ps).map (Value.int .i64))):=by
 have HA:=hid (fun (W : World) (x : PgM) (s1 : WS) (hW : WrN W R g cap s1.1 s1.2) => Lr R g cap s1 (decide (x.1.2.1 = 4096)) W hW)
 have HC:=hid hc;have HI:=hid hi;have HB:=hid hB;have HW:=hid h;have hRlt:=h.lt;obtain ⟨i0,hi0,hz0,hz1,hz2⟩:=info_parts Tryz.inf3;obtain ⟨Z,hZ⟩ : ∃ Z,Z = Zp:=⟨_,rfl⟩;have HZ:=hid hZ;clear h hc hi hB hZ
 go_enter Tryz.func69,Tryz.ntmps69
 go_wp2_with fail
 go_loopw [5,11] (fun nu i wr => ∃ (k : Nat),k ≤ n ∧ i = .int .i64 k ∧ Hid (WrN wr R g cap (aV pgA (ps.take k) s).1 (aV pgA (ps.take k) s).2) ∧ Hid (Kept (fun k => k = R) w wr) ∧ Hid (0 < k → (aV pgA (ps.take k) s).2 = false) ∧ Hid (wr.ownsRow w.heap.size 3 1 nu (fW ps k).length ((fW ps k).map (Value.int .i64)))) (fun _ i _ => n - (intOf i).toNat)
 case atStart => exact ⟨0,ae,rfl,HW,hid (Kept.refl _ _),hid (fun h => absurd h ae),hid (show w.ownsRow w.heap.size 3 1 (.slice none 0 0) 0 [] from World.ownsRow_nil _ _ _ _)⟩
 case round =>
  obtain ⟨k,hk,rfl,WR,KR,NB,OR⟩:=hrel
  by_cases hlt : k < n
  ·obtain ⟨x,hx⟩ : ∃ x,ps[k]? = some x:=⟨_,ba ae⟩;have hlt' : (k : Int) < (n : Int):=ae
   have hbr:=HB.out.trans (KR.out.to_below HB.out.size (fun k hk hs => ae))
   have hcell:=ag hbr (HC.out k x hx);have HQ:=hid (HA.out wr x _ WR.out)
   have eN : ed (decide (x.1.2.1 = 4096)) (aV pgA (ps.take k) s) = aV pgA (ps.take (k + 1)) s:=by
    have:=kN pgA (ps.take k) x s
    rw [List.take_add_one,hx];exact this.symm
   rw [eN] at HQ;have HX:=hid hx;have HBR:=hid hbr;have HSX:=hid (HI.out x (List.mem_of_getElem? hx));have EN:=hid eN;obtain ⟨len,hlen⟩ : ∃ q,x.1.2.1 = q:=⟨_,rfl⟩;rw [hlen] at hcell HQ;have HLEN:=hid hlen;obtain ⟨bad,hbad⟩ : ∃ q,(aV pgA (ps.take (k + 1)) s).2 = q:=⟨_,rfl⟩;have HBad:=hid hbad
   have hdec : decide (len = 4096) = ((len : Int) == 4096):=by
    by_cases h : len = 4096
    ·subst h; rfl
    ·have h2 : ¬ (len : Int) = 4096:=ae
     simp [h,h2]
   rw [hdec] at HQ;clear hx hbr hlen hbad eN hdec;go_wp2_with fail;refine HQ.out.mono ?_;rintro e w1 ⟨rfl,hw1,hk1⟩;have c1:=hw1.c1;have W1:=hid hw1;have K1:=hid (KR.out.trans hk1)
   have O1:=hid (gM OR.out hk1 (fun q hq hh => by have:=(Cu OR.out hq).1; omega))
   rw [HBad.out] at c1;clear hw1 hk1 HQ OR KR WR
   cases bad with
   | true =>
    clear HA HC HI;go_wp2_with fail;go_ret
    have e : aV pgA ps s = aV pgA (ps.take (k + 1)) s:=by
     conv => lhs; rw [← List.take_append_drop (k + 1) ps,mW]
     exact eW ji _ _ HBad.out
    rw [e];exact ⟨_,rfl,W1.out,K1.out,.inl ⟨HBad.out,rfl⟩⟩
   | false =>
    have hl4 : len = 4096:=by
     have h1:=HBad.out;rw [← EN.out,HLEN.out] at h1
     simp [ed] at h1
     exact h1.2
    have HL4:=hid (HLEN.out.trans hl4);subst hl4;obtain ⟨hsl,hsc⟩:=HSX.out
    obtain ⟨pb,po,hpa,hpc⟩:=hsc.resolve_left (by rw [HL4.out]; decide)
    rw [HL4.out] at hsl;have HPA:=hid hpa
    have hbw1:=HB.out.trans (K1.out.to_below HB.out.size (fun k hk hs => ae))
    have HCP:=hid (fun (j : Nat) y (hy : x.2[j]? = some y) => ag hbw1 (hpc j y hy))
    have HSL:=hid hsl
    have hsl2 : (byV x.2).size = 4096:=by simp [byV,hsl]
    obtain ⟨nl,hnl⟩ : ∃ q,x.2 = q:=⟨_,rfl⟩;rw [hnl] at HCP HSL hsl2;have HNL:=hid hnl;have hb2:=aj w1 (.cells (byV nl) 139)
    have hk2 : Kept (fun k => k = R) w1 (w1.alloc (.cells (byV nl) 139)):=Kept.alloc _ _ _
    have W2:=hid (W1.out.later hb2);have K2:=hid (K1.out.trans hk2)
    have O2:=hid (gM O1.out (aX (S:=fun _ => False) hb2) (fun _ _ h => h))
    have KB2:=hid (bZ w1 (.cells (byV nl) 139));clear hpc hsl hsc hnl hpa hbw1 hb2 hk2 HA HC HI HSX EN W1 K1 O1 HLEN
    by_cases hz : nl = Zp
    ·have EI:=hid (show fW ps (k + 1) = fW ps k by rw [qQ ps k x HX.out,if_pos (by rw [HNL.out]; exact hz)])
     have hq : (!decide (nl = Zp)) = false:=mU;have HQ:=hid hq;clear hq hz
     go_upto_region 9 with (first | (refine cR rfl _ (rT HZ rfl _) ?_))
     go_upto_region 10 with (first | (refine cR rfl _ (Bb (.tmp 8) rfl w1.heap.size rfl _) ?_) | (refine cR rfl _ (GX HZ (.tmp 25) (.tmp 26) rfl w1 rfl pb po x.1.2.2 (congrArg (fun q => Value.slice q 4096 x.1.2.2) HPA.out) nl HSL.out HCP.out) ?_))
     clear HCP HPA
     go_wp2_with (first | (refine wpList_load_row rfl 139 (.tmp 8) rfl w1.heap.size rfl 139 (byV nl) (0,0) _ KB2.out Tryz.underlying139 rfl (by rw [hsl2]; exact Tryz.siz83) ?_) | (refine cR rfl _ (sJ HZ rfl _) ?_) | (refine cR rfl _ (GK HZ (.tmp 28) (.tmp 29) _ rfl nl false rfl rfl HSL.out HQ _) ?_))
     exact ⟨⟨k + 1,ae,bU,W2,K2,hid (fun _ => HBad.out),by rw [EI.out]; exact O2⟩,cC⟩
    ·have EI:=hid (show fW ps (k + 1) = fW ps k ++ [(k : Int)] by rw [qQ ps k x HX.out,if_neg (by rw [HNL.out]; exact hz)])
     have hq : (!decide (nl = Zp)) = true:=mU;have HQ:=hid hq;have HIL:=hid (iU ps k);have hu:=one_cell (w1.alloc (.cells (byV nl) 139)) (w1.heap.size + 1) (.int .i64 k) 3 au;have HU:=hid hu;clear hq hz hu
     go_upto_region 9 with (first | (refine cR rfl _ (rT HZ rfl _) ?_))
     go_upto_region 10 with (first | (refine cR rfl _ (Bb (.tmp 8) rfl w1.heap.size rfl _) ?_) | (refine cR rfl _ (GX HZ (.tmp 25) (.tmp 26) rfl w1 rfl pb po x.1.2.2 (congrArg (fun q => Value.slice q 4096 x.1.2.2) HPA.out) nl HSL.out HCP.out) ?_))
     clear HCP HPA
     go_upto_region 11 with (first | (refine wpList_load_row rfl 139 (.tmp 8) rfl w1.heap.size rfl 139 (byV nl) (0,0) _ KB2.out Tryz.underlying139 rfl (by rw [hsl2]; exact Tryz.siz83) ?_) | (refine cR rfl _ (sJ HZ rfl _) ?_) | (refine cR rfl _ (GK HZ (.tmp 28) (.tmp 29) _ rfl nl true rfl rfl HSL.out HQ _) ?_))
     go_wp2_with (first | (at_builtin; refine wpList_append_own _ rfl (.tmp 31) (.tmp 33) 23 rfl w.heap.size 3 i0 (.int .i64 0) 1 8 Tryz.underlying23 hi0 hz0 hz1 hz2 rfl ax _ (fW ps k).length _ rfl (gM O2.out (aX (S:=fun _ => False) (aj _ _)) (fun _ _ h => h)) ⟨w1.heap.size + 1,0,none⟩ 1 1 [.int .i64 k] rfl rfl HU.out (by intro u hu; simp at hu; subst hu; rfl) (by have:=HIL.out; unfold maxLen; omega) (by have:=HIL.out; omega) (by have:=K2.out.size; simp at this ⊢; omega) ?_; intro v' w' hown hg _; have HO:=hid hown; have HG:=hid hg; clear hown hg))
     have hk3 : Kept (fun q => some q = u5.ownBlock) (w1.alloc (.cells (byV nl) 139)) w':=(Kept.alloc _ _ _).trans (Kept.of_grown HG.out)
     have hg3 : ∀ q,some q = u5.ownBlock → w.heap.size ≤ q:=fun q hq => (Cu O2.out hq.symm).1
     have hgl:=HW.out.row.lt
     exact ⟨⟨k + 1,ae,bU,hid (W2.out.kept hk3 (fun h => by have:=hg3 R h; omega) (fun h => by have:=hg3 g h; omega)),hid (K2.out.then hk3 (fun q h1 h2 => by have:=hg3 q h2; omega)),hid (fun _ => HBad.out),by rw [EI.out,List.map_append,List.length_append]; exact HO⟩,cC⟩
  ·have hlt' : ¬ (k : Int) < (n : Int):=ae;obtain rfl : k = n:=ae;have HNB:=hid (NB.out h0);clear HA HC HI;go_wp2_with fail;go_ret;have e : ps.take k = ps:=List.take_of_length_le ae;have W2:=WR.out;have N2:=HNB.out;have O2:=OR.out;rw [e] at W2 N2;refine ⟨_,rfl,W2,KR.out,.inr ⟨N2,?_⟩⟩;unfold idx;rw [hl];exact O2
theorem vT (R g cap : Nat) (s : WS) (a : Option Addr) (c : Nat) (w : World) (h : WrN w R g cap s.1 s.2) :
  Calls Tryz.prog 69 #[.pointer (some ⟨R,0,none⟩),.slice a 0 c] w fun e w' => ∃ v,e = .returned v ∧ WrN w' R g cap (aV pgA [] s).1 (aV pgA [] s).2 ∧ Kept (fun k => k = R) w w' ∧
   ((aV pgA [] s).2 = true ∧ v = .slice none 0 0 ∨ (aV pgA [] s).2 = false ∧ w'.ownsRow w.heap.size 3 1 v (idx []).length ((idx []).map (Value.int .i64))):=by
 have HW:=hid h;clear h
 go_enter Tryz.func69,Tryz.ntmps69
 go_wp2_with fail;refine wp_loop_rounds 1 ?_;rw [rounds_succ];go_wp2_with fail;go_ret;refine ⟨_,rfl,HW.out,Kept.refl _ _,?_⟩
 cases hb : (aV pgA [] s).2 with
 | true => exact .inl ⟨rfl,rfl⟩
 | false => exact .inr ⟨rfl,World.ownsRow_nil _ _ _ _⟩
theorem LP (R g cap : Nat) (s : WS) (a : Option Addr) (n c : Nat) (ps : List PgM) (w0 w : World) (h : WrN w R g cap s.1 s.2) (hS : SPg w0 a n ps) (hn : n ≤ 1099511627776) (hB : Below w0.heap.size w0 w) (hR : w0.heap.size ≤ R) :
  Calls Tryz.prog 69 #[.pointer (some ⟨R,0,none⟩),.slice a n c] w fun e w' => ∃ v,e = .returned v ∧ WrN w' R g cap (aV pgA ps s).1 (aV pgA ps s).2 ∧ Kept (fun k => k = R) w w' ∧
   ((aV pgA ps s).2 = true ∧ v = .slice none 0 0 ∨ (aV pgA ps s).2 = false ∧ w'.ownsRow w.heap.size 3 1 v (idx ps).length ((idx ps).map (Value.int .i64))):=by
 by_cases h0 : n = 0
 ·subst h0;obtain rfl:=List.eq_nil_of_length_eq_zero hS.len;exact vT R g cap s a c w h
 ·obtain ⟨b,off,rfl,hc⟩:=hS.at_.resolve_left h0;exact CM R g cap s b off n c ps w0 w h hS.len ae hn hB hR hc hS.in_
end Go.Proofs.YtkdldbfbldkkcaaGreatDoor
