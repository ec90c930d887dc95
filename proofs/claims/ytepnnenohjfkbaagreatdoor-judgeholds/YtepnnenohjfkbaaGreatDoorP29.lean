/-
  Texts Lo Jn Kd.
-/
import Derived.Test.YtepnnenohjfkbaaGreatDoorP00
import Derived.Test.YtepnnenohjfkbaaGreatDoorP18
import Derived.Test.YtepnnenohjfkbaaGreatDoorP19
import Derived.Test.YtepnnenohjfkbaaGreatDoorP22
import Derived.Test.YtepnnenohjfkbaaGreatDoorP23
set_option linter.unusedVariables false
set_option maxRecDepth 100000
set_option maxHeartbeats 16000000
namespace Go.Proofs.YtepnnenohjfkbaaGreatDoor
open Go.RowKit
abbrev nM (w : World) (f : Nat) (args : Array Value) (b : Bool) : Prop:=Hid (∀ W,Below w.heap.size w W → Calls Tryz.prog f args W fun e w' => e = .returned (.bool b) ∧ Below W.heap.size W w')
abbrev vv (w : World) (f : Nat) (args : Array Value) (y : ByteArray) (b : Bool) : Prop:=Hid (∀ W,Below w.heap.size w W → Calls Tryz.prog f args W fun e w' => e = .returned (.tuple #[.string y,.bool b]) ∧ Below W.heap.size W w')
abbrev OE (w : World) (f : Nat) (args : Array Value) (P R : ByteArray) (b : Bool) : Prop:=Hid (∀ W,Below w.heap.size w W → Calls Tryz.prog f args W fun e w' => e = .returned (.tuple #[.agg #[.string P,.string R],.bool b]) ∧ Below W.heap.size W w')
theorem iO (w : World) (op a : Int) (la : Option Addr) (ln lc : Nat) :
  Hid (Below w.heap.size w (w.alloc (aC op a la ln lc))) ∧ (w.alloc (aC op a la ln lc)).cell? ⟨w.heap.size,0,none⟩ = some (.int .u8 op) ∧ (w.alloc (aC op a la ln lc)).cell? ⟨w.heap.size,1,none⟩ = some (.int .i64 a) ∧ (w.alloc (aC op a la ln lc)).cell? ⟨w.heap.size,2,none⟩ = some (.slice la ln lc) ∧
   Hid (∀ W,Below (w.alloc (aC op a la ln lc)).heap.size (w.alloc (aC op a la ln lc)) W → W.cell? ⟨w.heap.size,0,none⟩ = some (.int .u8 op) ∧ W.cell? ⟨w.heap.size,1,none⟩ = some (.int .i64 a) ∧ W.cell? ⟨w.heap.size,2,none⟩ = some (.slice la ln lc)):=by
 have b0:=heap_alloc_new w (aC op a la ln lc)
 exact ⟨hid (aj w _),ai b0,ai b0,ai b0,hid (fun W hb => ⟨ag hb (ai b0),ag hb (ai b0),ag hb (ai b0)⟩)⟩
section
variable {g : Rg} {w : World}
theorem M9 (h : Rw g w) (hN : g.N ≤ 2048) {p : Nat} (hp : p < g.N) (hc : opF g.xs p = 0) :
  Calls Tryz.prog 58 #[.pointer (some ⟨g.J,0,none⟩),.int .i64 p] w fun e w' => e = .returned (.bool (true)) ∧ Below w.heap.size w w':=by
 have c9:=h.c;have g0:=h.cod.op hp;have g1:=h.cod.num hp;have g2:=h.cod.lab hp;have hp' : (p : Int) < g.N:=ae;obtain ⟨HB0,k0,k1,k2,HK⟩:=iO w (opF g.xs p) (g.xs.getD p dx).a (g.xs.getD p dx).la (g.xs.getD p dx).ln (g.xs.getD p dx).lc;clear h;generalize opF g.xs p = op at *;generalize g.xs.getD p dx = x at *;obtain ⟨xc,a,la,ln,lc,xl⟩:=x;dsimp only at *;generalize g.N = N at *;generalize g.J = J at *;generalize g.cb = cb at *;generalize g.coff = coff at *;generalize g.cc = cc at *;subst hc
 go_enter Tryz.func58,Tryz.ntmps58
 go_wp2_with fail;go_ret;exact ⟨rfl,HB0.out⟩
theorem Ay (h : Rw g w) (hN : g.N ≤ 2048) {p : Nat} (hp : p < g.N) (hc : opF g.xs p = 2 ∨ opF g.xs p = 3 ∨ opF g.xs p = 4) {b : Bool} (H : nM w 99 #[.pointer (some ⟨g.J,0,none⟩),.int .i64 p] b) :
  Calls Tryz.prog 58 #[.pointer (some ⟨g.J,0,none⟩),.int .i64 p] w fun e w' => e = .returned (.bool (b)) ∧ Below w.heap.size w w':=by
 have c9:=h.c;have g0:=h.cod.op hp;have g1:=h.cod.num hp;have g2:=h.cod.lab hp;have hp' : (p : Int) < g.N:=ae;obtain ⟨HB0,k0,k1,k2,HK⟩:=iO w (opF g.xs p) (g.xs.getD p dx).a (g.xs.getD p dx).la (g.xs.getD p dx).ln (g.xs.getD p dx).lc;clear h;generalize opF g.xs p = op at *;generalize g.xs.getD p dx = x at *;obtain ⟨xc,a,la,ln,lc,xl⟩:=x;dsimp only at *;generalize g.N = N at *;generalize g.J = J at *;generalize g.cb = cb at *;generalize g.coff = coff at *;generalize g.cc = cc at *
 rcases hc with rfl | rfl | rfl
 all_goals
  go_enter Tryz.func58,Tryz.ntmps58
  exact GU
theorem yf (h : Rw g w) (hN : g.N ≤ 2048) {p : Nat} (hp : p < g.N) (hc : opF g.xs p = 5 ∨ opF g.xs p = 6) {b : Bool} (H : nM w 100 #[.pointer (some ⟨g.J,0,none⟩),.int .i64 p] b) :
  Calls Tryz.prog 58 #[.pointer (some ⟨g.J,0,none⟩),.int .i64 p] w fun e w' => e = .returned (.bool (b)) ∧ Below w.heap.size w w':=by
 have c9:=h.c;have g0:=h.cod.op hp;have g1:=h.cod.num hp;have g2:=h.cod.lab hp;have hp' : (p : Int) < g.N:=ae;obtain ⟨HB0,k0,k1,k2,HK⟩:=iO w (opF g.xs p) (g.xs.getD p dx).a (g.xs.getD p dx).la (g.xs.getD p dx).ln (g.xs.getD p dx).lc;clear h;generalize opF g.xs p = op at *;generalize g.xs.getD p dx = x at *;obtain ⟨xc,a,la,ln,lc,xl⟩:=x;dsimp only at *;generalize g.N = N at *;generalize g.J = J at *;generalize g.cb = cb at *;generalize g.coff = coff at *;generalize g.cc = cc at *
 rcases hc with rfl | rfl
 all_goals
  go_enter Tryz.func58,Tryz.ntmps58
  exact GU
theorem sM (h : Rw g w) (hN : g.N ≤ 2048) {p : Nat} (hp : p < g.N) (hc : opF g.xs p = 7 ∨ opF g.xs p = 8) (ha : (g.xs.getD p dx).a < 0 ∨ 1000 < (g.xs.getD p dx).a) :
  Calls Tryz.prog 58 #[.pointer (some ⟨g.J,0,none⟩),.int .i64 p] w fun e w' => e = .returned (.bool (false)) ∧ Below w.heap.size w w':=by
 have c9:=h.c;have g0:=h.cod.op hp;have g1:=h.cod.num hp;have g2:=h.cod.lab hp;have hp' : (p : Int) < g.N:=ae;obtain ⟨HB0,k0,k1,k2,HK⟩:=iO w (opF g.xs p) (g.xs.getD p dx).a (g.xs.getD p dx).la (g.xs.getD p dx).ln (g.xs.getD p dx).lc;clear h;generalize opF g.xs p = op at *;generalize g.xs.getD p dx = x at *;obtain ⟨xc,a,la,ln,lc,xl⟩:=x;dsimp only at *;generalize g.N = N at *;generalize g.J = J at *;generalize g.cb = cb at *;generalize g.coff = coff at *;generalize g.cc = cc at *
 rcases ha with ha | ha
 ·have e1 : decide (a < 0) = true:=by simpa using ha
  exact D4
 ·have e1 : decide (a < 0) = false:=aG
  have e2 : decide ((1000 : Int) < a) = true:=by simpa using ha
  exact D4
theorem Lx (h : Rw g w) (hN : g.N ≤ 2048) {p : Nat} (hp : p < g.N) (hc : opF g.xs p = 7) (ha : ¬ (g.xs.getD p dx).a < 0 ∧ ¬ 1000 < (g.xs.getD p dx).a) {y x1 : ByteArray} {ok is : Bool} (HL : Hid (∀ W la,Below w.heap.size w W → W.cell? ⟨la,0,none⟩ = some (.int .i64 (g.xs.getD p dx).a) → Calls Tryz.prog 101 #[.pointer (some ⟨g.J,0,none⟩),.int .i64 p,.slice (some ⟨la,0,none⟩) 1 1] W fun e w' => e = .returned (.tuple #[.string y,.bool ok]) ∧ Below W.heap.size W w')) (HX : vv w 103 #[.pointer (some ⟨g.J,0,none⟩),.int .i64 p,.string y] x1 is) :
  Calls Tryz.prog 58 #[.pointer (some ⟨g.J,0,none⟩),.int .i64 p] w fun e w' => e = .returned (.bool (ok && is)) ∧ Below w.heap.size w w':=by
 have c9:=h.c;have g0:=h.cod.op hp;have g1:=h.cod.num hp;have g2:=h.cod.lab hp;have hp' : (p : Int) < g.N:=ae;obtain ⟨HB0,k0,k1,k2,HK⟩:=iO w (opF g.xs p) (g.xs.getD p dx).a (g.xs.getD p dx).la (g.xs.getD p dx).ln (g.xs.getD p dx).lc;clear h;generalize opF g.xs p = op at *;generalize g.xs.getD p dx = x at *;obtain ⟨xc,a,la,ln,lc,xl⟩:=x;dsimp only at *;generalize g.N = N at *;generalize g.J = J at *;generalize g.cb = cb at *;generalize g.coff = coff at *;generalize g.cc = cc at *;subst hc
 have e1 : decide (a < 0) = false:=by simpa using ha.1
 have e2 : decide ((1000 : Int) < a) = false:=by simpa using ha.2
 have e1a : ¬ a < 0:=ha.1;have e2a : ¬ (1000 : Int) < a:=ha.2;have B1:=hid (aj (w.alloc (aC 7 a la ln lc)) (aM a));have b1 : ((w.alloc (aC 7 a la ln lc)).alloc (aM a)).cell? ⟨(w.alloc (aC 7 a la ln lc)).heap.size,0,none⟩ = some (.int .i64 a):=ai (heap_alloc_new _ _)
 rw [show (w.alloc (aC 7 a la ln lc)).heap.size = w.heap.size + 1 by simp] at b1
 have HBA:=hid (HB0.out.trans (B1.out.mono HB0.out.size));have HL1:=hid (HL.out _ (w.heap.size + 1) HBA.out b1)
 have HKB:=hid (fun (W : World) (hb : Below ((w.alloc (aC 7 a la ln lc)).alloc (aM a)).heap.size ((w.alloc (aC 7 a la ln lc)).alloc (aM a)) W) => HK.out W (B1.out.trans (hb.mono B1.out.size)))
 clear HL B1 b1 HK
 go_enter Tryz.func58,Tryz.ntmps58
 go_wp2_with fail;refine HL1.out.mono ?_;rintro e w1 ⟨rfl,hb⟩;obtain ⟨k0,k1,k2⟩:=HKB.out _ hb;have HB1:=hid (HBA.out.trans (hb.mono HBA.out.size));clear hb HBA HKB HL1;exact KJ
theorem zH (h : Rw g w) (hN : g.N ≤ 2048) {p : Nat} (hp : p < g.N) (hc : opF g.xs p = 8) (ha : ¬ (g.xs.getD p dx).a < 0 ∧ ¬ 1000 < (g.xs.getD p dx).a) {y : ByteArray} (hy : y.size ≤ 1000) {ok b : Bool} (HL : Hid (∀ W la,Below w.heap.size w W → W.cell? ⟨la,0,none⟩ = some (.int .i64 (g.xs.getD p dx).a) → Calls Tryz.prog 101 #[.pointer (some ⟨g.J,0,none⟩),.int .i64 p,.slice (some ⟨la,0,none⟩) 1 1] W fun e w' => e = .returned (.tuple #[.string y,.bool ok]) ∧ Below W.heap.size W w')) (HX : ok = true → nM w 102 #[.pointer (some ⟨g.J,0,none⟩),.int .i64 p,.string (y ++ ⟨#[119]⟩),.string y] b) :
  Calls Tryz.prog 58 #[.pointer (some ⟨g.J,0,none⟩),.int .i64 p] w fun e w' => e = .returned (.bool (ok && b)) ∧ Below w.heap.size w w':=by
 have c9:=h.c;have g0:=h.cod.op hp;have g1:=h.cod.num hp;have g2:=h.cod.lab hp;have hp' : (p : Int) < g.N:=ae;obtain ⟨HB0,k0,k1,k2,HK⟩:=iO w (opF g.xs p) (g.xs.getD p dx).a (g.xs.getD p dx).la (g.xs.getD p dx).ln (g.xs.getD p dx).lc;clear h;generalize opF g.xs p = op at *;generalize g.xs.getD p dx = x at *;obtain ⟨xc,a,la,ln,lc,xl⟩:=x;dsimp only at *;generalize g.N = N at *;generalize g.J = J at *;generalize g.cb = cb at *;generalize g.coff = coff at *;generalize g.cc = cc at *;subst hc;have hy2 : ¬ (9223372036854775807 < y.size + 1):=ae
 have e1 : decide (a < 0) = false:=by simpa using ha.1
 have e2 : decide ((1000 : Int) < a) = false:=by simpa using ha.2
 have e1a : ¬ a < 0:=ha.1;have e2a : ¬ (1000 : Int) < a:=ha.2;have B1:=hid (aj (w.alloc (aC 8 a la ln lc)) (aM a));have b1 : ((w.alloc (aC 8 a la ln lc)).alloc (aM a)).cell? ⟨(w.alloc (aC 8 a la ln lc)).heap.size,0,none⟩ = some (.int .i64 a):=ai (heap_alloc_new _ _)
 rw [show (w.alloc (aC 8 a la ln lc)).heap.size = w.heap.size + 1 by simp] at b1
 have HBA:=hid (HB0.out.trans (B1.out.mono HB0.out.size));have HL1:=hid (HL.out _ (w.heap.size + 1) HBA.out b1)
 have HKB:=hid (fun (W : World) (hb : Below ((w.alloc (aC 8 a la ln lc)).alloc (aM a)).heap.size ((w.alloc (aC 8 a la ln lc)).alloc (aM a)) W) => HK.out W (B1.out.trans (hb.mono B1.out.size)))
 clear HL B1 b1 HK
 go_enter Tryz.func58,Tryz.ntmps58
 go_wp2_with fail;refine HL1.out.mono ?_;rintro e w1 ⟨rfl,hb⟩;obtain ⟨k0,k1,k2⟩:=HKB.out _ hb;have HB1:=hid (HBA.out.trans (hb.mono HBA.out.size));clear hb HBA HKB HL1
 cases ok with
 | true =>
  have HXX:=HX vG;clear HX;go_wp2_with fail;refine (HXX.out _ HB1.out).mono ?_;rintro e w2 ⟨rfl,hb⟩;have HB2:=hid (HB1.out.trans (hb.mono HB1.out.size));exact kK
 | false =>
  exact vp
theorem Fy (h : Rw g w) (hN : g.N ≤ 2048) {p : Nat} (hp : p < g.N) (hc : opF g.xs p = 9) {y x1 : ByteArray} (hy : y.size ≤ 1000) {ok is : Bool} (HL : vv w 101 #[.pointer (some ⟨g.J,0,none⟩),.int .i64 p,.slice (g.xs.getD p dx).la (g.xs.getD p dx).ln (g.xs.getD p dx).lc] y ok) (HX : vv w 103 #[.pointer (some ⟨g.J,0,none⟩),.int .i64 p,.string (y ++ ⟨#[119]⟩)] x1 is) :
  Calls Tryz.prog 58 #[.pointer (some ⟨g.J,0,none⟩),.int .i64 p] w fun e w' => e = .returned (.bool (ok && is)) ∧ Below w.heap.size w w':=by
 have c9:=h.c;have g0:=h.cod.op hp;have g1:=h.cod.num hp;have g2:=h.cod.lab hp;have hp' : (p : Int) < g.N:=ae;obtain ⟨HB0,k0,k1,k2,HK⟩:=iO w (opF g.xs p) (g.xs.getD p dx).a (g.xs.getD p dx).la (g.xs.getD p dx).ln (g.xs.getD p dx).lc;clear h;generalize opF g.xs p = op at *;generalize g.xs.getD p dx = x at *;obtain ⟨xc,a,la,ln,lc,xl⟩:=x;dsimp only at *;generalize g.N = N at *;generalize g.J = J at *;generalize g.cb = cb at *;generalize g.coff = coff at *;generalize g.cc = cc at *;subst hc;have hy2 : ¬ (9223372036854775807 < y.size + 1):=ae
 go_enter Tryz.func58,Tryz.ntmps58
 go_wp2_with fail;refine (HL.out _ HB0.out).mono ?_;rintro e w1 ⟨rfl,hb⟩;have HB1:=hid (HB0.out.trans (hb.mono HB0.out.size));clear HK;exact KJ
theorem Gm (h : Rw g w) (hN : g.N ≤ 2048) {p : Nat} (hp : p < g.N) (hc : opF g.xs p = 10) {P R x1 : ByteArray} {ok is : Bool} (HL : OE w 104 #[.pointer (some ⟨g.J,0,none⟩),.int .i64 (-1)] P R ok) (HX : vv w 103 #[.pointer (some ⟨g.J,0,none⟩),.int .i64 p,.string R] x1 is) :
  Calls Tryz.prog 58 #[.pointer (some ⟨g.J,0,none⟩),.int .i64 p] w fun e w' => e = .returned (.bool (is)) ∧ Below w.heap.size w w':=by
 have c9:=h.c;have g0:=h.cod.op hp;have g1:=h.cod.num hp;have g2:=h.cod.lab hp;have hp' : (p : Int) < g.N:=ae;obtain ⟨HB0,k0,k1,k2,HK⟩:=iO w (opF g.xs p) (g.xs.getD p dx).a (g.xs.getD p dx).la (g.xs.getD p dx).ln (g.xs.getD p dx).lc;clear h;generalize opF g.xs p = op at *;generalize g.xs.getD p dx = x at *;obtain ⟨xc,a,la,ln,lc,xl⟩:=x;dsimp only at *;generalize g.N = N at *;generalize g.J = J at *;generalize g.cb = cb at *;generalize g.coff = coff at *;generalize g.cc = cc at *;subst hc
 go_enter Tryz.func58,Tryz.ntmps58
 go_wp2_with fail;refine (HL.out _ HB0.out).mono ?_;rintro e w1 ⟨rfl,hb⟩;have HB1:=hid (HB0.out.trans (hb.mono HB0.out.size));have B1A:=aj w1 (aB P R);have z0 : (w1.alloc (aB P R)).cell? ⟨w1.heap.size,0,none⟩ = some (.string P):=ai (heap_alloc_new _ _);have z1 : (w1.alloc (aB P R)).cell? ⟨w1.heap.size,1,none⟩ = some (.string R):=ai (heap_alloc_new _ _);exact J6
theorem AA (h : Rw g w) (hN : g.N ≤ 2048) {p : Nat} (hp : p < g.N) (hc : opF g.xs p = 11 ∨ opF g.xs p = 12) {P R : ByteArray} {ok b : Bool} (HL : OE w 105 #[.pointer (some ⟨g.J,0,none⟩),.agg #[.int .u8 (opF g.xs p),.int .i64 (g.xs.getD p dx).a,.slice (g.xs.getD p dx).la (g.xs.getD p dx).ln (g.xs.getD p dx).lc]] P R ok) (HX : ok = true → nM w 102 #[.pointer (some ⟨g.J,0,none⟩),.int .i64 p,.string P,.string R] b) :
  Calls Tryz.prog 58 #[.pointer (some ⟨g.J,0,none⟩),.int .i64 p] w fun e w' => e = .returned (.bool (ok && b)) ∧ Below w.heap.size w w':=by
 have c9:=h.c;have g0:=h.cod.op hp;have g1:=h.cod.num hp;have g2:=h.cod.lab hp;have hp' : (p : Int) < g.N:=ae;obtain ⟨HB0,k0,k1,k2,HK⟩:=iO w (opF g.xs p) (g.xs.getD p dx).a (g.xs.getD p dx).la (g.xs.getD p dx).ln (g.xs.getD p dx).lc;clear h;generalize opF g.xs p = op at *;generalize g.xs.getD p dx = x at *;obtain ⟨xc,a,la,ln,lc,xl⟩:=x;dsimp only at *;generalize g.N = N at *;generalize g.J = J at *;generalize g.cb = cb at *;generalize g.coff = coff at *;generalize g.cc = cc at *
 rcases hc with rfl | rfl
 all_goals
  go_enter Tryz.func58,Tryz.ntmps58
  go_wp2_with fail;refine (HL.out _ HB0.out).mono ?_;rintro e w1 ⟨rfl,hb⟩;have HB1:=hid (HB0.out.trans (hb.mono HB0.out.size));have B1A:=aj w1 (aB P R);have z0 : (w1.alloc (aB P R)).cell? ⟨w1.heap.size,0,none⟩ = some (.string P):=ai (heap_alloc_new _ _);have z1 : (w1.alloc (aB P R)).cell? ⟨w1.heap.size,1,none⟩ = some (.string R):=ai (heap_alloc_new _ _);have HBA:=hid (HB1.out.trans (B1A.mono HB1.out.size));clear HK hb B1A
  cases ok with
  | true =>
   have HXX:=HX vG;clear HX;go_wp2_with fail;refine (HXX.out _ HBA.out).mono ?_;rintro e w2 ⟨rfl,hb⟩;have HB2:=hid (HBA.out.trans (hb.mono HBA.out.size));exact kK
  | false =>
   go_wp2_with fail;go_ret;exact ⟨rfl,HBA.out⟩
theorem Bd (h : Rw g w) (hN : g.N ≤ 2048) {p : Nat} (hp : p < g.N) (hc : opF g.xs p = 16) {b c : Bool} (H1 : nM w 102 #[.pointer (some ⟨g.J,0,none⟩),.int .i64 p,.string ⟨#[119]⟩,.string ⟨#[]⟩] b) (H2 : nM w 102 #[.pointer (some ⟨g.J,0,none⟩),.int .i64 p,.string ⟨#[108]⟩,.string ⟨#[]⟩] c) :
  Calls Tryz.prog 58 #[.pointer (some ⟨g.J,0,none⟩),.int .i64 p] w fun e w' => e = .returned (.bool (b || c)) ∧ Below w.heap.size w w':=by
 have c9:=h.c;exact G0
theorem Gd (h : Rw g w) (hN : g.N ≤ 2048) {p : Nat} (hp : p < g.N) (hc : opF g.xs p = 17) {b c : Bool} (H1 : nM w 102 #[.pointer (some ⟨g.J,0,none⟩),.int .i64 p,.string ⟨#[119,119,119]⟩,.string ⟨#[119]⟩] b) (H2 : nM w 102 #[.pointer (some ⟨g.J,0,none⟩),.int .i64 p,.string ⟨#[108,108,119]⟩,.string ⟨#[108]⟩] c) :
  Calls Tryz.prog 58 #[.pointer (some ⟨g.J,0,none⟩),.int .i64 p] w fun e w' => e = .returned (.bool (b || c)) ∧ Below w.heap.size w w':=by
 have c9:=h.c;exact G0
theorem xh (h : Rw g w) (hN : g.N ≤ 2048) {p : Nat} (hp : p < g.N) (n0 : (opF g.xs p == (0 : Int)) = false) (n2 : (opF g.xs p == (2 : Int)) = false) (n3 : (opF g.xs p == (3 : Int)) = false) (n4 : (opF g.xs p == (4 : Int)) = false) (n5 : (opF g.xs p == (5 : Int)) = false) (n6 : (opF g.xs p == (6 : Int)) = false) (n7 : (opF g.xs p == (7 : Int)) = false) (n8 : (opF g.xs p == (8 : Int)) = false) (n9 : (opF g.xs p == (9 : Int)) = false) (n10 : (opF g.xs p == (10 : Int)) = false) (n11 : (opF g.xs p == (11 : Int)) = false) (n12 : (opF g.xs p == (12 : Int)) = false) (n16 : (opF g.xs p == (16 : Int)) = false) (n17 : (opF g.xs p == (17 : Int)) = false) {rk tk : Int} {wd pp ps : ByteArray} {fd b : Bool} (HO : Hid (∀ W,Below w.heap.size w W → Calls Tryz.prog 32 #[.int .u8 (opF g.xs p)] W fun e w' => e = .returned (.tuple #[.agg #[.int .u8 rk,.string wd,.int .i8 tk,.string pp,.string ps,.bool true],.bool fd]) ∧ Below W.heap.size W w')) (HX : nM w 102 #[.pointer (some ⟨g.J,0,none⟩),.int .i64 p,.string pp,.string ps] b) :
  Calls Tryz.prog 58 #[.pointer (some ⟨g.J,0,none⟩),.int .i64 p] w fun e w' => e = .returned (.bool (b)) ∧ Below w.heap.size w w':=by
 have c9:=h.c;have g0:=h.cod.op hp;have g1:=h.cod.num hp;have g2:=h.cod.lab hp;have hp' : (p : Int) < g.N:=ae;obtain ⟨HB0,k0,k1,k2,HK⟩:=iO w (opF g.xs p) (g.xs.getD p dx).a (g.xs.getD p dx).la (g.xs.getD p dx).ln (g.xs.getD p dx).lc;clear h;generalize opF g.xs p = op at *;generalize g.xs.getD p dx = x at *;obtain ⟨xc,a,la,ln,lc,xl⟩:=x;dsimp only at *;generalize g.N = N at *;generalize g.J = J at *;generalize g.cb = cb at *;generalize g.coff = coff at *;generalize g.cc = cc at *
 go_enter Tryz.func58,Tryz.ntmps58
 go_wp2_with fail;refine (HO.out _ HB0.out).mono ?_;rintro e w1 ⟨rfl,hb⟩;have HB1:=hid (HB0.out.trans (hb.mono HB0.out.size));have B1A:=aj w1 (cy rk wd tk pp ps true);have z3 : (w1.alloc (cy rk wd tk pp ps true)).cell? ⟨w1.heap.size,3,none⟩ = some (.string pp):=ai (heap_alloc_new _ _);have z4 : (w1.alloc (cy rk wd tk pp ps true)).cell? ⟨w1.heap.size,4,none⟩ = some (.string ps):=ai (heap_alloc_new _ _);have z5 : (w1.alloc (cy rk wd tk pp ps true)).cell? ⟨w1.heap.size,5,none⟩ = some (.bool true):=ai (heap_alloc_new _ _);exact J6
theorem EJ (h : Rw g w) (hN : g.N ≤ 2048) {p : Nat} (hp : p < g.N) (hc : opF g.xs p = 18 ∨ opF g.xs p = 21) {rk tk : Int} {wd pp ps y : ByteArray} {fd ok b : Bool} (HO : Hid (∀ W,Below w.heap.size w W → Calls Tryz.prog 32 #[.int .u8 (opF g.xs p)] W fun e w' => e = .returned (.tuple #[.agg #[.int .u8 rk,.string wd,.int .i8 tk,.string pp,.string ps,.bool false],.bool fd]) ∧ Below W.heap.size W w')) (HL : vv w 106 #[.pointer (some ⟨g.J,0,none⟩),.agg #[.int .u8 (opF g.xs p),.int .i64 (g.xs.getD p dx).a,.slice (g.xs.getD p dx).la (g.xs.getD p dx).ln (g.xs.getD p dx).lc]] y ok) (HX : ok = true → nM w 102 #[.pointer (some ⟨g.J,0,none⟩),.int .i64 p,.string ⟨#[]⟩,.string y] b) :
  Calls Tryz.prog 58 #[.pointer (some ⟨g.J,0,none⟩),.int .i64 p] w fun e w' => e = .returned (.bool (ok && b)) ∧ Below w.heap.size w w':=by
 have c9:=h.c;exact I2
theorem Fb (h : Rw g w) (hN : g.N ≤ 2048) {p : Nat} (hp : p < g.N) (hc : opF g.xs p = 19 ∨ opF g.xs p = 22) {rk tk : Int} {wd pp ps y : ByteArray} {fd ok b : Bool} (HO : Hid (∀ W,Below w.heap.size w W → Calls Tryz.prog 32 #[.int .u8 (opF g.xs p)] W fun e w' => e = .returned (.tuple #[.agg #[.int .u8 rk,.string wd,.int .i8 tk,.string pp,.string ps,.bool false],.bool fd]) ∧ Below W.heap.size W w')) (HL : vv w 106 #[.pointer (some ⟨g.J,0,none⟩),.agg #[.int .u8 (opF g.xs p),.int .i64 (g.xs.getD p dx).a,.slice (g.xs.getD p dx).la (g.xs.getD p dx).ln (g.xs.getD p dx).lc]] y ok) (HX : ok = true → nM w 102 #[.pointer (some ⟨g.J,0,none⟩),.int .i64 p,.string y,.string ⟨#[]⟩] b) :
  Calls Tryz.prog 58 #[.pointer (some ⟨g.J,0,none⟩),.int .i64 p] w fun e w' => e = .returned (.bool (ok && b)) ∧ Below w.heap.size w w':=by
 have c9:=h.c;exact I2
theorem EP (h : Rw g w) (hN : g.N ≤ 2048) {p : Nat} (hp : p < g.N) (hc : opF g.xs p = 20) {rk tk : Int} {wd pp ps y : ByteArray} {fd ok b : Bool} (HO : Hid (∀ W,Below w.heap.size w W → Calls Tryz.prog 32 #[.int .u8 (opF g.xs p)] W fun e w' => e = .returned (.tuple #[.agg #[.int .u8 rk,.string wd,.int .i8 tk,.string pp,.string ps,.bool false],.bool fd]) ∧ Below W.heap.size W w')) (HL : vv w 106 #[.pointer (some ⟨g.J,0,none⟩),.agg #[.int .u8 (opF g.xs p),.int .i64 (g.xs.getD p dx).a,.slice (g.xs.getD p dx).la (g.xs.getD p dx).ln (g.xs.getD p dx).lc]] y ok) (HX : ok = true → nM w 102 #[.pointer (some ⟨g.J,0,none⟩),.int .i64 p,.string y,.string y] b) :
  Calls Tryz.prog 58 #[.pointer (some ⟨g.J,0,none⟩),.int .i64 p] w fun e w' => e = .returned (.bool (ok && b)) ∧ Below w.heap.size w w':=by
 have c9:=h.c;have g0:=h.cod.op hp;have g1:=h.cod.num hp;have g2:=h.cod.lab hp;have hp' : (p : Int) < g.N:=ae;obtain ⟨HB0,k0,k1,k2,HK⟩:=iO w (opF g.xs p) (g.xs.getD p dx).a (g.xs.getD p dx).la (g.xs.getD p dx).ln (g.xs.getD p dx).lc;clear h;generalize opF g.xs p = op at *;generalize g.xs.getD p dx = x at *;obtain ⟨xc,a,la,ln,lc,xl⟩:=x;dsimp only at *;generalize g.N = N at *;generalize g.J = J at *;generalize g.cb = cb at *;generalize g.coff = coff at *;generalize g.cc = cc at *;subst hc
 all_goals
  go_enter Tryz.func58,Tryz.ntmps58
  go_wp2_with fail;refine (HO.out _ HB0.out).mono ?_;rintro e w1 ⟨rfl,hb⟩;have HB1:=hid (HB0.out.trans (hb.mono HB0.out.size));have B1A:=aj w1 (cy rk wd tk pp ps false);have z3 : (w1.alloc (cy rk wd tk pp ps false)).cell? ⟨w1.heap.size,3,none⟩ = some (.string pp):=ai (heap_alloc_new _ _);have z4 : (w1.alloc (cy rk wd tk pp ps false)).cell? ⟨w1.heap.size,4,none⟩ = some (.string ps):=ai (heap_alloc_new _ _);have z5 : (w1.alloc (cy rk wd tk pp ps false)).cell? ⟨w1.heap.size,5,none⟩ = some (.bool false):=ai (heap_alloc_new _ _);have HBA:=hid (HB1.out.trans (B1A.mono HB1.out.size));obtain ⟨k0,k1,k2⟩:=HK.out _ hb;have k0:=ag B1A k0;have k1:=ag B1A k1;have k2:=ag B1A k2
  have HK2:=hid (fun (W : World) (hb : Below (w1.alloc (cy rk wd tk pp ps false)).heap.size (w1.alloc (cy rk wd tk pp ps false)) W) => ag hb k0)
  clear HK hb B1A;go_wp2_with fail;refine (HL.out _ HBA.out).mono ?_;rintro e w2 ⟨rfl,hb⟩;have HB2:=hid (HBA.out.trans (hb.mono HBA.out.size));have k0:=HK2.out _ hb;clear hb
  cases ok with
  | true =>
   have HXX:=HX vG;clear HX;go_wp2_with fail;refine (HXX.out _ HB2.out).mono ?_;rintro e w3 ⟨rfl,hb⟩;have HB3:=hid (HB2.out.trans (hb.mono HB2.out.size));exact ng
  | false =>
   exact kK
end
def tS (m : MM) (R : ByteArray) (xs : List Inx) (sh : Nat → ByteArray) (o : Int) : ByteArray:=(bT m R xs sh o).1 ++ (bu m R xs o).1.2
def tO (m : MM) (R : ByteArray) (xs : List Inx) (sh : Nat → ByteArray) (i nx : Nat) : Bool :=
 if top (stk (opF xs) i) = -1 then fG sh [(i,tS m R xs sh (-1))] else (bT m R xs sh (top (stk (opF xs) i))).2 && fG sh [(i,tS m R xs sh (top (stk (opF xs) i))),(nx,tS m R xs sh (top (stk (opF xs) i)))]
section
variable {g : Jg} {w : World}
theorem rW (m : MM) (R : ByteArray) (xs : List Inx) {sh : Nat → ByteArray} (hsh : ∀ j,(sh j).size ≤ 256) (o : Int) : (bT m R xs sh o).1.size ≤ 256:=by
 have:=hsh o.toNat
 unfold bT
 split
 ·exact Nat.zero_le _
 ·exact C7
theorem qd {m : MM} (hTS : ∀ a,(bE m a).2.size ≤ 8) {R : ByteArray} (hR : R.size ≤ 8) (xs : List Inx) (o : Int) : (bu m R xs o).1.2.size ≤ 8:=by
 unfold bu
 split
 ·exact hR
 ·split
  ·exact hTS _
  ·exact Nat.zero_le _
theorem sP (h : Jw g w) (hN : g.N ≤ 2048) (hT : g.m.tn ≤ 1000000) (hTS : ∀ a,(bE g.m a).1.size ≤ 8 ∧ (bE g.m a).2.size ≤ 8) (hR : g.R.size ≤ 8) (hsh : ∀ j,(g.sh j).size ≤ 256) {i nx : Nat} (hi : i < g.N) (hnx : top (stk (opF g.xs) i) ≠ -1 → nx < g.N) (hnx2 : nx ≤ 1000000) :
  Calls Tryz.prog 147 #[.pointer (some ⟨g.J,0,none⟩),.int .i64 i,.int .i64 nx] w fun e w' => e = .returned (.bool (tO g.m g.R g.xs g.sh i nx)) ∧ Below w.heap.size w w':=by
 unfold tO tS;have o0:=h.ow
 have o1 : w.cell? ⟨g.OW,i,none⟩ = some (.int .i64 (top (stk (opF g.xs) i))):=by
  rw [h.owc.cell i hi];unfold owF;rw [if_pos hi]
 have hok:=zJ (opF g.xs) i
 have H14:=hid (qG h hN hT (o:=top (stk (opF g.xs) i)) (hok.imp id fun ⟨t,h1,h2,h3⟩ => ⟨t,h1,ae⟩))
 have H15:=hid (fun (W : World) (hb : Below w.heap.size w W) => vO (h.later hb) hN hT (fun a => (hTS a).1) hsh (o:=top (stk (opF g.xs) i)) (hok.imp id fun ⟨t,h1,h2,h3⟩ => ⟨t,h1,ae,h3⟩))
 have H93:=hid (fun (W : World) (hb : Below w.heap.size w W) (pb n cap : Nat) (l : List (Nat × ByteArray)) (hl : l.length = n) (hn : n ≤ 1000000) (hc : ∀ (j : Nat) p,l[j]? = some p → W.cell? ⟨pb,0 + j * 2,none⟩ = some (.int .i64 (p.1 : Nat)) ∧ W.cell? ⟨pb,0 + j * 2 + 1,none⟩ = some (.string p.2) ∧ p.1 < g.N) => vJ (h.later hb) hN (pb:=pb) (poff:=0) (cap:=cap) hl hn hc)
 have hb1:=rW g.m g.R g.xs hsh (top (stk (opF g.xs) i))
 have hs1:=qd (fun a => (hTS a).2) hR g.xs (top (stk (opF g.xs) i))
 have hi2 : (i : Int) < (g.N : Int):=ae;clear h
 rcases hok with ho | ⟨t,ho,_⟩
 ·rw [if_pos ho];generalize top (stk (opF g.xs) i) = o at *;subst ho;generalize bu g.m g.R g.xs (-1) = sg at *;generalize bT g.m g.R g.xs g.sh (-1) = bv at *;obtain ⟨⟨Pa,Re⟩,ok⟩:=sg;obtain ⟨ba,bf⟩:=bv;dsimp only at *;clear hnx
  go_enter Tryz.func147,Tryz.ntmps147
  go_wp2_with fail;refine H14.out.mono ?_;rintro e w2 ⟨rfl,hb2⟩;have B3:=hb2.trans ((aj w2 (aB Pa Re)).mono hb2.size);have b3:=heap_alloc_new w2 (aB Pa Re);have HB3:=hid B3;have Hb3:=hid b3;clear o0 o1 hb2 B3 b3 H14;go_wp2_with fail;refine (H15.out _ HB3.out).mono ?_;rintro e w4 ⟨rfl,hb4⟩;have y1 : w4.cell? ⟨w2.heap.size,1,none⟩ = some (.string Re):=ai (ar hb4 Hb3.out);have HB4:=hid (HB3.out.trans (hb4.mono HB3.out.size));clear hb4 H15;go_wp2_with fail;have B5:=HB4.out.trans ((aj w4 (gG (i : Int) (ba ++ Re))).mono HB4.out.size);have b5:=heap_alloc_new w4 (gG (i : Int) (ba ++ Re))
  refine (H93.out _ B5 w4.heap.size 1 1 [(i,ba ++ Re)] rfl ae (fun j p hj => by
   have hj0 : j = 0:=rR;subst hj0
   simp at hj
   subst hj;exact ⟨ai b5,ai b5,hi⟩)).mono ?_
  exact wk
 ·rw [if_neg ae];have hnN:=hnx ae;generalize top (stk (opF g.xs) i) = o at *;subst ho;have g0 : ((t : Int) == (-1 : Int)) = false:=ak;generalize bu g.m g.R g.xs t = sg at *;generalize bT g.m g.R g.xs g.sh t = bv at *;obtain ⟨⟨Pa,Re⟩,ok⟩:=sg;obtain ⟨ba,bf⟩:=bv;dsimp only at *;clear hnx
  go_enter Tryz.func147,Tryz.ntmps147
  go_wp2_with fail;refine H14.out.mono ?_;rintro e w2 ⟨rfl,hb2⟩;have B3:=hb2.trans ((aj w2 (aB Pa Re)).mono hb2.size);have b3:=heap_alloc_new w2 (aB Pa Re);have HB3:=hid B3;have Hb3:=hid b3;clear o0 o1 hb2 B3 b3 H14;go_wp2_with fail;refine (H15.out _ HB3.out).mono ?_;rintro e w4 ⟨rfl,hb4⟩;have y1 : w4.cell? ⟨w2.heap.size,1,none⟩ = some (.string Re):=ai (ar hb4 Hb3.out);have HB4:=hid (HB3.out.trans (hb4.mono HB3.out.size));clear hb4 H15
  cases bf with
  | false =>
   go_wp2_with fail;go_ret;exact ⟨rfl,HB4.out⟩
  | true =>
   go_wp2_with fail;have B5:=HB4.out.trans ((aj w4 (.cells #[.int .i64 (i : Int),.string (ba ++ Re),.int .i64 (nx : Int),.string (ba ++ Re)] 150)).mono HB4.out.size);have b5:=heap_alloc_new w4 (.cells #[.int .i64 (i : Int),.string (ba ++ Re),.int .i64 (nx : Int),.string (ba ++ Re)] 150)
   refine (H93.out _ B5 w4.heap.size 2 2 [(i,ba ++ Re),(nx,ba ++ Re)] rfl ae (fun j p hj => by
    have hj0 : j = 0 ∨ j = 1:=rR
    rcases hj0 with rfl | rfl
    ·simp at hj
     subst hj;exact ⟨ai b5,ai b5,hi⟩
    ·simp at hj
     subst hj;exact ⟨ai b5,ai b5,hnN⟩)).mono ?_
   exact wk
end
def csD : Cs:=⟨[],⟨#[]⟩,0,false,[],fun _ => 0,0⟩
def opD : Opn:=⟨⟨#[]⟩,⟨#[]⟩,⟨#[]⟩,0,0⟩
def jF (m : MM) (lo : List Int) (R : ByteArray) (xs : List Inx) (i : Nat) : Bool :=
 if isO (opF xs i) = true then (bu m R xs i).2
 else if opF xs i = 8 then (bI (ltV m R xs i) false ⟨#[]⟩ [(xs.getD i dx).a]).2
 else decide (efE m lo csD opD (opF xs i) (xs.getD i dx).a = 0)
def jX (m : MM) (lo : List Int) (R : ByteArray) (xs : List Inx) (i : Nat) : Sg :=
 if isO (opF xs i) = true then (fy m R xs i,(bu m R xs i).1.1)
 else if opF xs i = 8 then ((bI (ltV m R xs i) false ⟨#[]⟩ [(xs.getD i dx).a]).1 ++ ⟨#[119]⟩,(bI (ltV m R xs i) false ⟨#[]⟩ [(xs.getD i dx).a]).1)
 else efV m lo csD opD (opF xs i) (xs.getD i dx).a
def goV (m : MM) (lo : List Int) (R : ByteArray) (xs : List Inx) (sh : Nat → ByteArray) (i : Nat) : Bool:=jF m lo R xs i && gS m R xs sh i (jX m lo R xs i)
def zK (m : MM) (R : ByteArray) (xs : List Inx) (sh : Nat → ByteArray) (n i : Nat) : Bool :=
 if 0 ≤ elF (opF xs) n i then fG sh [((elF (opF xs) n i).toNat + 1,(bT m R xs sh i).1 ++ (bu m R xs i).1.1)]
 else ((bu m R xs i).1.1.toList == (bu m R xs i).1.2.toList) && fG sh [((enF (opF xs) n i).toNat,(bT m R xs sh i).1 ++ (bu m R xs i).1.2)]
def KI (m : MM) (R : ByteArray) (xs : List Inx) (i : Nat) : ByteArray × Bool :=
 if opF xs i = 7 then bI (ltV m R xs i) false ⟨#[]⟩ [(xs.getD i dx).a]
 else if opF xs i = 9 then ((bI (ltV m R xs i) false ⟨#[]⟩ (xs.getD i dx).l).1 ++ ⟨#[119]⟩,(bI (ltV m R xs i) false ⟨#[]⟩ (xs.getD i dx).l).2)
 else (R,true)
def yN (m : MM) (R : ByteArray) (xs : List Inx) (sh : Nat → ByteArray) (i : Nat) : Bool :=
 if opF xs i = 0 then true else (KI m R xs i).2 && (isV m R xs sh i (KI m R xs i).1).2
def lY (m : MM) (lo : List Int) (R : ByteArray) (xs : List Inx) (sh : Nat → ByteArray) (n i : Nat) : Bool :=
 if opF xs i = 4 then goV m lo R xs sh i && zK m R xs sh n i
 else if opF xs i = 5 then tO m R xs sh i (enF (opF xs) n i).toNat
 else if opF xs i = 6 then tO m R xs sh i (i + 1)
 else if opF xs i = 0 ∨ opF xs i = 7 ∨ opF xs i = 9 ∨ opF xs i = 10 then (decide (opF xs (i + 1) = 5) || decide (opF xs (i + 1) = 6)) && yN m R xs sh i
 else if opF xs i = 16 then gS m R xs sh i (⟨#[119]⟩,⟨#[]⟩) || gS m R xs sh i (⟨#[108]⟩,⟨#[]⟩)
 else if opF xs i = 17 then gS m R xs sh i (⟨#[119,119,119]⟩,⟨#[119]⟩) || gS m R xs sh i (⟨#[108,108,119]⟩,⟨#[108]⟩)
 else goV m lo R xs sh i
def vU (m : MM) (lo : List Int) (R : ByteArray) (xs : List Inx) (sh : Nat → ByteArray) (n : Nat) : Bool :=
 fG sh [(0,⟨#[]⟩)] && (List.range n).all (lY m lo R xs sh n)
end Go.Proofs.YtepnnenohjfkbaaGreatDoor
