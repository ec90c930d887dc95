/-
  Texts Wi Ws.
-/
import Derived.Deep.RegionHeld3
import Derived.RegionDies
import Derived.Test.YtepnnenohjfkbaaGreatDoorP00
import Derived.Test.YtepnnenohjfkbaaGreatDoorP01
import Derived.Test.YtepnnenohjfkbaaGreatDoorP02
set_option linter.unusedVariables false
set_option maxRecDepth 100000
set_option maxHeartbeats 16000000
namespace Go.Proofs.YtepnnenohjfkbaaGreatDoor
open Go.RowKit
abbrev cW (R : Nat) : Value:=.iface 127 (.pointer (some ⟨R,0,none⟩))
theorem cC (v : Value) (w : World) : (method 445 127 v "flagon/module.number").run Tryz.prog w = .ok (312,v) w:=rfl
theorem jp (v : Value) (w : World) : (method 445 127 v "flagon/module.signed").run Tryz.prog w = .ok (315,v) w:=rfl
theorem gY (v : Value) (w : World) : (method 445 127 v "flagon/module.octet").run Tryz.prog w = .ok (313,v) w:=rfl
theorem bW (v : Value) (w : World) : (method 445 127 v "flagon/module.text").run Tryz.prog w = .ok (316,v) w:=rfl
theorem aQ (v : Value) (w : World) : (method 445 127 v "flagon/module.count").run Tryz.prog w = .ok (310,v) w:=rfl
theorem gR (v : Value) (w : World) : (method 445 127 v "flagon/module.place").run Tryz.prog w = .ok (314,v) w:=rfl
theorem eG (v : Value) (w : World) : (method 445 127 v "flagon/module.instruction").run Tryz.prog w = .ok (311,v) w:=rfl
theorem dX (args : Array Value) (w : World) : (callFunc 312 args).run Tryz.prog w = .ok (.enter 312 args) w:=rfl
theorem o9 (args : Array Value) (w : World) : (callFunc 315 args).run Tryz.prog w = .ok (.enter 315 args) w:=rfl
theorem kM (args : Array Value) (w : World) : (callFunc 313 args).run Tryz.prog w = .ok (.enter 313 args) w:=rfl
theorem cD (args : Array Value) (w : World) : (callFunc 316 args).run Tryz.prog w = .ok (.enter 316 args) w:=rfl
theorem aX (args : Array Value) (w : World) : (callFunc 310 args).run Tryz.prog w = .ok (.enter 310 args) w:=rfl
theorem ks (args : Array Value) (w : World) : (callFunc 314 args).run Tryz.prog w = .ok (.enter 314 args) w:=rfl
theorem oy (args : Array Value) (w : World) : (callFunc 311 args).run Tryz.prog w = .ok (.enter 311 args) w:=rfl
theorem aZ {b : Bool} {x p : Int} {w : World} (h : b = true) : Calls Tryz.prog 77 #[.bool b,.int .i64 x,.int .i64 p] w fun e w' => e = .returned (.tuple #[]) ∧ w' = w:=by subst h; exact eW _ _ _
theorem cA {b : Bool} {x p : Int} {w : World} (h : b = false) : Calls Tryz.prog 77 #[.bool b,.int .i64 x,.int .i64 p] w fun e w' => e = thr x p ∧ w' = w:=by subst h; exact iY _ _ _
theorem lC (x : Int) (h0 : -9223372036854775808 ≤ x) (h1 : x < 0) : IntKind.u64.wrap x = x + 18446744073709551616:=by
 simp [IntKind.wrap,IntKind.bits,IntKind.signed]; omega
theorem sI (B : Nat) (v p n : Int) (w : World) (h : w.cell? ⟨B,0,none⟩ = some (.int .i64 n)) (hn : 0 ≤ n) (hn1 : n < 9223372036854775808) (hv : v < n) : Calls Tryz.prog 179 #[.int .u64 v,.int .i64 p,.pointer (some ⟨B,0,none⟩)] w (gH w):=by
 have hw:=bD n hn (by omega)
 go_enter Tryz.func179,Tryz.ntmps179
 go_wp2_with fail
 refine (aZ (by simp)).mono ?_
 rintro e w1 ⟨rfl,rfl⟩;go_wp2_with fail;go_end0;exact ⟨rfl,Below.refl _ _⟩
theorem uL (B : Nat) (v p n : Int) (w : World) (h : w.cell? ⟨B,0,none⟩ = some (.int .i64 n)) (hn : 0 ≤ n) (hn1 : n < 9223372036854775808) (hv : n ≤ v) : Calls Tryz.prog 179 #[.int .u64 v,.int .i64 p,.pointer (some ⟨B,0,none⟩)] w (gD 30 w):=by
 have hw:=bD n hn (by omega)
 go_enter Tryz.func179,Tryz.ntmps179
 go_wp2_with fail
 refine (cA (by simp; omega)).mono ?_
 rintro e w1 ⟨rfl,rfl⟩;exact ⟨rfl,⟨_,rfl⟩,Below.refl _ _⟩
theorem cZ (w : World) (v : Value) (t : TypeId) : (w.alloc (.cells #[v] t)).cell? ⟨w.heap.size,0,none⟩ = some v:=by simp [go_sem]
theorem ag (w : World) (o : Obj) : Below w.heap.size w (w.alloc o):=(Below.refl _ _).alloc (Nat.le_refl _) _
theorem cY (R g cap : Nat) (bs : List Int) (x n : Int) (w : World) (h : Wr w R g cap bs) (hb : bs.length + 10 ≤ 1099511627776) (hx0 : 0 ≤ x) (hx : x < n) (hn1 : n < 9223372036854775808) :
  Calls Tryz.prog 118 #[cW R,.int .i64 x,.int .i64 n] w (i6 R g bs (am x) (.int .i64 x) w):=by
 have hm:=cC;have hc:=dX
 have hw:=bD x hx0 (by omega)
 have hi:=i64_in x (by omega) (by omega)
 have B1:=hid (ag w (.cells #[.int .i64 n] 3))
 have HN:=hid (dA R g cap bs x 179 #[.pointer (some ⟨w.heap.size,0,none⟩)] _ (h.later B1.out) hx0 (by omega) hb (fun _ _ => rfl) (sI w.heap.size x _ n _ (cZ _ _ _) (by omega) hn1 hx))
 clear h
 go_enter Tryz.func118,Tryz.ntmps118
 go_wp2_with fail;refine HN.out.mono ?_;rintro e w1 ⟨rfl,g',cap',hw1,hs1⟩;have W1:=hid hw1;have S1:=hid ((Stp.of_below B1.out).trans hs1);clear hw1 hs1 hm hc;go_wp2_with fail;go_ret;exact ⟨rfl,g',cap',W1.out,S1.out⟩
theorem fY (R g cap : Nat) (bs : List Int) (x n : Int) (w : World) (h : Wr w R g cap bs) (hx0 : -9223372036854775808 ≤ x) (hx1 : x < 9223372036854775808) (hx : x < 0 ∨ n ≤ x) (hn : 0 ≤ n) (hn1 : n < 9223372036854775808) :
  Calls Tryz.prog 118 #[cW R,.int .i64 x,.int .i64 n] w (aG R g 30 w):=by
 have hm:=cC;have hc:=dX
 have hw : n ≤ IntKind.u64.wrap x:=by
  by_cases h0 : 0 ≤ x
  ·rw [bD x h0 (by omega)]; omega
  ·rw [lC x hx0 (by omega)]; omega
 have B1:=hid (ag w (.cells #[.int .i64 n] 3))
 have HN:=hid (dM R g cap bs (IntKind.u64.wrap x) 179 #[.pointer (some ⟨w.heap.size,0,none⟩)] 30 _ (h.later B1.out) (fun _ _ => rfl) (uL w.heap.size (IntKind.u64.wrap x) _ n _ (cZ _ _ _) hn hn1 hw))
 clear h hw hx
 go_enter Tryz.func118,Tryz.ntmps118
 go_wp2_with fail;refine HN.out.mono ?_;rintro e w1 ⟨⟨p,rfl⟩,hk⟩;exact ⟨rfl,⟨p,rfl⟩,(aB B1.out).trans hk⟩
theorem rM (B : Nat) (v p n : Int) (w : World) (h : w.cell? ⟨B,0,none⟩ = some (.int .i64 n)) (hn : 0 ≤ n) (hn1 : n < 9223372036854775808) (hv : n ≤ v) (hv1 : v ≤ 64) : Calls Tryz.prog 187 #[.int .u64 v,.int .i64 p,.pointer (some ⟨B,0,none⟩)] w (gH w):=by
 have hw:=bD n hn (by omega)
 have d1 : decide (n ≤ v) = true:=by simp [hv]
 have d2 : decide (v ≤ 64) = true:=by simp [hv1]
 go_enter Tryz.func187,Tryz.ntmps187
 go_wp2_with fail
 refine (aZ (by simp)).mono ?_
 rintro e w1 ⟨rfl,rfl⟩;go_wp2_with fail;go_end0;exact ⟨rfl,Below.refl _ _⟩
theorem uo (B : Nat) (v p n : Int) (w : World) (h : w.cell? ⟨B,0,none⟩ = some (.int .i64 n)) (hn : 0 ≤ n) (hn1 : n < 9223372036854775808) (hv : v < n ∨ 64 < v) : Calls Tryz.prog 187 #[.int .u64 v,.int .i64 p,.pointer (some ⟨B,0,none⟩)] w (gD 17 w):=by
 have hw:=bD n hn (by omega)
 by_cases h1 : n ≤ v
 ·have d1 : decide (n ≤ v) = true:=by simp [h1]
  have d2 : decide (v ≤ 64) = false:=by simp; omega
  go_enter Tryz.func187,Tryz.ntmps187
  go_wp2_with fail
  refine (cA (by first | rfl | simp_all)).mono ?_
  rintro e w1 ⟨rfl,rfl⟩;exact ⟨rfl,⟨_,rfl⟩,Below.refl _ _⟩
 ·have d1 : decide (n ≤ v) = false:=by simp; omega
  go_enter Tryz.func187,Tryz.ntmps187
  go_wp2_with fail
  refine (cA (by first | rfl | simp_all)).mono ?_
  rintro e w1 ⟨rfl,rfl⟩;exact ⟨rfl,⟨_,rfl⟩,Below.refl _ _⟩
theorem iM (R g cap : Nat) (bs : List Int) (x n : Int) (w : World) (h : Wr w R g cap bs) (hb : bs.length + 10 ≤ 1099511627776) (hn : 0 ≤ n) (hx0 : n ≤ x) (hx : x ≤ 64) :
  Calls Tryz.prog 122 #[cW R,.int .i64 x,.int .i64 n] w (i6 R g bs (am x) (.int .i64 x) w):=by
 have hm:=cC;have hc:=dX
 have hw:=bD x (by omega) (by omega)
 have hi:=i64_in x (by omega) (by omega)
 have B1:=hid (ag w (.cells #[.int .i64 n] 3))
 have HN:=hid (dA R g cap bs x 187 #[.pointer (some ⟨w.heap.size,0,none⟩)] _ (h.later B1.out) (by omega) (by omega) hb (fun _ _ => rfl) (rM w.heap.size x _ n _ (cZ _ _ _) (by omega) (by omega) hx0 hx))
 clear h
 go_enter Tryz.func122,Tryz.ntmps122
 go_wp2_with fail;refine HN.out.mono ?_;rintro e w1 ⟨rfl,g',cap',hw1,hs1⟩;have W1:=hid hw1;have S1:=hid ((Stp.of_below B1.out).trans hs1);clear hw1 hs1 hm hc;go_wp2_with fail;go_ret;exact ⟨rfl,g',cap',W1.out,S1.out⟩
theorem jy (R g cap : Nat) (bs : List Int) (x n : Int) (w : World) (h : Wr w R g cap bs) (hx0 : -9223372036854775808 ≤ x) (hx1 : x < 9223372036854775808) (hx : x < n ∨ 64 < x) (hn : 0 ≤ n) (hn1 : n < 9223372036854775808) :
  Calls Tryz.prog 122 #[cW R,.int .i64 x,.int .i64 n] w (aG R g 17 w):=by
 have hm:=cC;have hc:=dX
 have hw : IntKind.u64.wrap x < n ∨ 64 < IntKind.u64.wrap x:=by
  by_cases h0 : 0 ≤ x
  ·rw [bD x h0 (by omega)]; omega
  ·rw [lC x hx0 (by omega)]; omega
 have B1:=hid (ag w (.cells #[.int .i64 n] 3))
 have HN:=hid (dM R g cap bs (IntKind.u64.wrap x) 187 #[.pointer (some ⟨w.heap.size,0,none⟩)] 17 _ (h.later B1.out) (fun _ _ => rfl) (uo w.heap.size (IntKind.u64.wrap x) _ n _ (cZ _ _ _) hn hn1 hw))
 clear h hw hx
 go_enter Tryz.func122,Tryz.ntmps122
 go_wp2_with fail;refine HN.out.mono ?_;rintro e w1 ⟨⟨p,rfl⟩,hk⟩;exact ⟨rfl,⟨p,rfl⟩,(aB B1.out).trans hk⟩
theorem bU (s : ByteArray) (p : Int) (w : World) (hs : s.size ≤ 1073741824) (h : lett s 256 = true) : Calls Tryz.prog 177 #[.string s,.int .i64 p] w (gH w):=by
 have HS:=hid (kc s w hs);rw [h] at HS;clear h
 go_enter Tryz.func177,Tryz.ntmps177
 go_wp2_with fail;refine HS.out.mono ?_;rintro e w1 ⟨rfl,hb⟩;have B1:=hid hb;clear hb HS;go_wp2_with fail;refine (aZ rfl).mono ?_;rintro e w1 ⟨rfl,rfl⟩;go_wp2_with fail;go_end0;exact ⟨rfl,B1.out⟩
theorem eq (s : ByteArray) (p : Int) (w : World) (hs : s.size ≤ 1073741824) (h : lett s 256 = false) : Calls Tryz.prog 177 #[.string s,.int .i64 p] w (gD 15 w):=by
 have HS:=hid (kc s w hs);rw [h] at HS;clear h
 go_enter Tryz.func177,Tryz.ntmps177
 go_wp2_with fail;refine HS.out.mono ?_;rintro e w1 ⟨rfl,hb⟩;have B1:=hid hb;clear hb HS;go_wp2_with fail;refine (cA rfl).mono ?_;rintro e w1 ⟨rfl,rfl⟩;exact ⟨rfl,⟨_,rfl⟩,B1.out⟩
def bj (w : World) (a : Option Addr) (n : Nat) (xs : List Sg) : Prop :=
 xs.length = n ∧ n ≤ 1099511627776 ∧ (n = 0 ∨ ∃ b off,a = some ⟨b,off,none⟩ ∧ ∀ j x,xs[j]? = some x → w.cell? ⟨b,off + j * 2,none⟩ = some (.string x.1) ∧ w.cell? ⟨b,off + j * 2 + 1,none⟩ = some (.string x.2))
theorem bj.later {w w' : World} {a : Option Addr} {n : Nat} {xs : List Sg} (h : bj w a n xs) (hb : Below w.heap.size w w') : bj w' a n xs:=by
 refine ⟨h.1,h.2.1,h.2.2.imp id ?_⟩;rintro ⟨b,off,ha,hc⟩
 refine ⟨b,off,ha,fun j x hj => ?_⟩
 obtain ⟨h1,h2⟩:=hc j x hj
 exact ⟨(hb.cell (by exact block_lt_of_cell h1)).trans h1,(hb.cell (by exact block_lt_of_cell h2)).trans h2⟩
theorem bj.kept {S : Nat → Prop} {w w' : World} {a : Option Addr} {n : Nat} {xs : List Sg} (h : bj w a n xs) (hk : Kept S w w') (hS : ∀ b off c,a = some ⟨b,off,c⟩ → ¬ S b) : bj w' a n xs:=by
 refine ⟨h.1,h.2.1,h.2.2.imp id ?_⟩;rintro ⟨b,off,ha,hc⟩
 exact ⟨b,off,ha,fun j x hj => ⟨hk.cell (hc j x hj).1 (hS _ _ _ ha),hk.cell (hc j x hj).2 (hS _ _ _ ha)⟩⟩
theorem au {α : Type} {xs : List α} {j : Nat} {x : α} (h : xs[j]? = some x) : j < xs.length:=by
 rcases Nat.lt_or_ge j xs.length with hl | hl
 ·exact hl
 ·rw [List.getElem?_eq_none hl] at h; cases h
section
variable (s p : ByteArray) (at_ beg : Int) (A B C : Nat) (aa : Option Addr) (an ac : Nat) (ah : List Sg) (w : World)
theorem sV {wr : World} {p' r' : ByteArray} (hBl : B < wr.heap.size) (hCl : C < wr.heap.size) (yB : wr.cell? ⟨B,0,none⟩ = some (.string p)) (yC : wr.cell? ⟨C,0,none⟩ = some (.int .i64 beg)) :
  let W1:=wr.alloc (.cells #[.string p',.string r'] 62)
  W1.cell? ⟨wr.heap.size,0,none⟩ = some (.string p') ∧ W1.cell? ⟨wr.heap.size,1,none⟩ = some (.string r') ∧ W1.cell? ⟨B,0,none⟩ = some (.string p) ∧ W1.cell? ⟨C,0,none⟩ = some (.int .i64 beg):=by
 refine ⟨by simp [go_sem],by simp [go_sem],?_,?_⟩
 ·rw [(ag wr _).cell (by exact hBl)]; exact yB
 ·rw [(ag wr _).cell (by exact hCl)]; exact yC
theorem oZ {ah : List Sg} {x y : Sg} {j : Nat} (hy : ah[j]? = some y) (h : ej ah x = false) : ((y.1.toList == x.1.toList) && (y.2.toList == x.2.toList)) = false:=by
 have hm:=List.mem_of_getElem? hy
 simp only [ej,List.any_eq_false] at h
 have:=h y hm
 simpa using this
theorem ry (hs : s.size ≤ 1073741824) (hl : lett s 256 = true) (hah : bj w aa an ah) (h2 : ej ah (p,s) = false)
  (hA : w.cell? ⟨A,0,none⟩ = some (.slice aa an ac)) (hB : w.cell? ⟨B,0,none⟩ = some (.string p)) (hC : w.cell? ⟨C,0,none⟩ = some (.int .i64 beg)) :
  Calls Tryz.prog 178 #[.string s,.int .i64 at_,.pointer (some ⟨A,0,none⟩),.pointer (some ⟨B,0,none⟩),.pointer (some ⟨C,0,none⟩)] w (gH w):=by
 have HL:=hid (bU s at_ w hs hl);have hAl:=block_lt_of_cell hA;have hBl:=block_lt_of_cell hB;have hCl:=block_lt_of_cell hC;have HAH:=hid hah;have hlen:=hah.1;have hbig:=hah.2.1;clear hah
 go_enter Tryz.func178,Tryz.ntmps178
 go_wp2_with fail;refine HL.out.mono ?_;rintro e w1 ⟨rfl,hb⟩
 have hA1 : w1.cell? ⟨A,0,none⟩ = some (.slice aa an ac):=(hb.cell (by exact hAl)).trans hA
 have B1:=hid hb;have HB:=hid hB;have HC:=hid hC;clear hb hA hB hC HL;go_wp2_with fail
 go_loopw [14] (fun i wr => ∃ j : Nat,j ≤ an ∧ i = .int .i64 j ∧ Below w.heap.size w wr) (fun i _ => an - (intOf i).toNat)
 case atStart => exact ⟨0,by omega,rfl,B1.out⟩
 case round =>
  obtain ⟨j,hj,rfl,hB2⟩:=hrel;have BW:=hid hB2;clear hB2
  by_cases hlt : j < an
  ·obtain ⟨x,hx⟩ : ∃ x,ah[j]? = some x:=⟨_,List.getElem?_eq_getElem (by omega)⟩
   obtain ⟨ab,off,rfl,hc⟩ : ∃ b off,aa = some ⟨b,off,none⟩ ∧ ∀ j x,ah[j]? = some x → wr.cell? ⟨b,off + j * 2,none⟩ = some (.string x.1) ∧ wr.cell? ⟨b,off + j * 2 + 1,none⟩ = some (.string x.2):=by
    rcases (HAH.out.later BW.out).2.2 with h0 | h
    ·omega
    ·exact h
   obtain ⟨y0,y1⟩:=hc j x hx;obtain ⟨p',r'⟩:=x;have hne:=oZ hx h2;clear hc
   have yB : wr.cell? ⟨B,0,none⟩ = some (.string p):=(BW.out.cell (by exact hBl)).trans HB.out
   have yC : wr.cell? ⟨C,0,none⟩ = some (.int .i64 beg):=(BW.out.cell (by exact hCl)).trans HC.out
   have hBl':=block_lt_of_cell yB;have hCl':=block_lt_of_cell yC
   simp only at y0 y1 hne
   obtain ⟨z0,z1,z2,z3⟩:=sV (p':=p') (r':=r') p beg B C hBl' hCl' yB yC;go_wp2_with fail;have BN:=hid (ag wr (.cells #[.string p',.string r'] 62));generalize wr.alloc (.cells #[.string p',.string r'] 62) = W1 at *;clear y0 y1 yB yC
   by_cases k1 : (p'.toList == p.toList) = true
   ·have k2 : (r'.toList == s.toList) = false:=by rw [k1] at hne; simpa using hne
    clear hne
    go_region_held3 (fun W => W.cell? ⟨wr.heap.size,0,none⟩ = some (.string p') ∧ W.cell? ⟨wr.heap.size,1,none⟩ = some (.string r') ∧ W.cell? ⟨B,0,none⟩ = some (.string p) ∧ W.cell? ⟨C,0,none⟩ = some (.int .i64 beg))
     (first | assumption | exact ⟨z0,z1,z2,z3⟩)
     (first
      | (go_at_call 77; refine (aZ rfl).mono ?_; rintro e w' ⟨rfl,rfl⟩))
    go_wp2_with fail
    go_roundw
    ·exact ⟨j + 1,by omega,rfl,(BW.out.trans (BN.out.mono BW.out.size)).drew⟩
    ·simp [intOf]; omega
   ·have k1' : (p'.toList == p.toList) = false:=by simpa using k1
    clear hne k1
    go_region_held3 (fun W => W.cell? ⟨wr.heap.size,0,none⟩ = some (.string p') ∧ W.cell? ⟨wr.heap.size,1,none⟩ = some (.string r') ∧ W.cell? ⟨B,0,none⟩ = some (.string p) ∧ W.cell? ⟨C,0,none⟩ = some (.int .i64 beg))
     (first | assumption | exact ⟨z0,z1,z2,z3⟩)
     (first
      | (go_at_call 77; refine (aZ rfl).mono ?_; rintro e w' ⟨rfl,rfl⟩))
    go_wp2_with fail
    go_roundw
    ·exact ⟨j + 1,by omega,rfl,(BW.out.trans (BN.out.mono BW.out.size)).drew⟩
    ·simp [intOf]; omega
  ·go_wp2_with fail;go_end0;exact ⟨rfl,BW.out⟩
theorem uJ (hs : s.size ≤ 1073741824) (hl : lett s 256 = false) :
  Calls Tryz.prog 178 #[.string s,.int .i64 at_,.pointer (some ⟨A,0,none⟩),.pointer (some ⟨B,0,none⟩),.pointer (some ⟨C,0,none⟩)] w (gD 15 w):=by
 have HL:=hid (eq s at_ w hs hl)
 go_enter Tryz.func178,Tryz.ntmps178
 go_wp2_with fail;refine HL.out.mono ?_;rintro e w1 ⟨⟨q,rfl⟩,hb⟩;exact ⟨rfl,⟨q,rfl⟩,hb⟩
theorem nt (hs : s.size ≤ 1073741824) (hl : lett s 256 = true) (hah : bj w aa an ah) (k : Nat) (hk : ∃ y,ah[k]? = some y ∧ y.1.toList = p.toList ∧ y.2.toList = s.toList) (h2 : ej (ah.take k) (p,s) = false)
  (hA : w.cell? ⟨A,0,none⟩ = some (.slice aa an ac)) (hB : w.cell? ⟨B,0,none⟩ = some (.string p)) (hC : w.cell? ⟨C,0,none⟩ = some (.int .i64 beg)) :
  Calls Tryz.prog 178 #[.string s,.int .i64 at_,.pointer (some ⟨A,0,none⟩),.pointer (some ⟨B,0,none⟩),.pointer (some ⟨C,0,none⟩)] w (gD 16 w):=by
 have HL:=hid (bU s at_ w hs hl);have hAl:=block_lt_of_cell hA;have hBl:=block_lt_of_cell hB;have hCl:=block_lt_of_cell hC;have HAH:=hid hah;have hlen:=hah.1;have hbig:=hah.2.1;clear hah;obtain ⟨y,hy,hy1,hy2⟩:=hk;have hkl:=au hy;rw [hlen] at hkl
 go_enter Tryz.func178,Tryz.ntmps178
 go_wp2_with fail;refine HL.out.mono ?_;rintro e w1 ⟨rfl,hb⟩
 have hA1 : w1.cell? ⟨A,0,none⟩ = some (.slice aa an ac):=(hb.cell (by exact hAl)).trans hA
 have B1:=hid hb;have HB:=hid hB;have HC:=hid hC;clear hb hA hB hC HL;go_wp2_with fail
 go_loopw [14] (fun i wr => ∃ j : Nat,j ≤ k ∧ i = .int .i64 j ∧ Below w.heap.size w wr) (fun i _ => an - (intOf i).toNat)
 case atStart => exact ⟨0,by omega,rfl,B1.out⟩
 case round =>
  obtain ⟨j,hj,rfl,hB2⟩:=hrel;have BW:=hid hB2;clear hB2
  obtain ⟨x,hx⟩ : ∃ x,ah[j]? = some x:=⟨_,List.getElem?_eq_getElem (by omega)⟩
  have hlt : j < an:=by omega
  obtain ⟨ab,off,rfl,hc⟩ : ∃ b off,aa = some ⟨b,off,none⟩ ∧ ∀ j x,ah[j]? = some x → wr.cell? ⟨b,off + j * 2,none⟩ = some (.string x.1) ∧ wr.cell? ⟨b,off + j * 2 + 1,none⟩ = some (.string x.2):=by
   rcases (HAH.out.later BW.out).2.2 with h0 | h
   ·omega
   ·exact h
  obtain ⟨y0,y1⟩:=hc j x hx;obtain ⟨p',r'⟩:=x
  have hne : j < k → ((p'.toList == p.toList) && (r'.toList == s.toList)) = false:=fun hlk => oZ (ah:=ah.take k) (x:=(p,s)) (y:=(p',r')) (j:=j) (by rw [List.getElem?_take_of_lt hlk]; exact hx) h2
  have heq : j = k → p' = y.1 ∧ r' = y.2:=fun h => by subst h; rw [hx] at hy; simp at hy; subst hy; exact ⟨rfl,rfl⟩
  clear hc
  have yB : wr.cell? ⟨B,0,none⟩ = some (.string p):=(BW.out.cell (by exact hBl)).trans HB.out
  have yC : wr.cell? ⟨C,0,none⟩ = some (.int .i64 beg):=(BW.out.cell (by exact hCl)).trans HC.out
  have hBl':=block_lt_of_cell yB;have hCl':=block_lt_of_cell yC
  simp only at y0 y1
  obtain ⟨z0,z1,z2,z3⟩:=sV (p':=p') (r':=r') p beg B C hBl' hCl' yB yC;go_wp2_with fail;have BN:=hid (ag wr (.cells #[.string p',.string r'] 62));generalize wr.alloc (.cells #[.string p',.string r'] 62) = W1 at *;clear y0 y1 yB yC
  by_cases hjk : j < k
  ·have hne:=hne hjk;clear heq
   by_cases k1 : (p'.toList == p.toList) = true
   ·have k2 : (r'.toList == s.toList) = false:=by rw [k1] at hne; simpa using hne
    clear hne
    go_region_held3 (fun W => W.cell? ⟨wr.heap.size,0,none⟩ = some (.string p') ∧ W.cell? ⟨wr.heap.size,1,none⟩ = some (.string r') ∧ W.cell? ⟨B,0,none⟩ = some (.string p) ∧ W.cell? ⟨C,0,none⟩ = some (.int .i64 beg))
     (first | assumption | exact ⟨z0,z1,z2,z3⟩)
     (first
      | (go_at_call 77; refine (aZ rfl).mono ?_; rintro e w' ⟨rfl,rfl⟩))
    go_wp2_with fail
    go_roundw
    ·exact ⟨j + 1,by omega,rfl,(BW.out.trans (BN.out.mono BW.out.size)).drew⟩
    ·simp [intOf]; omega
   ·have k1' : (p'.toList == p.toList) = false:=by simpa using k1
    clear hne k1
    go_region_held3 (fun W => W.cell? ⟨wr.heap.size,0,none⟩ = some (.string p') ∧ W.cell? ⟨wr.heap.size,1,none⟩ = some (.string r') ∧ W.cell? ⟨B,0,none⟩ = some (.string p) ∧ W.cell? ⟨C,0,none⟩ = some (.int .i64 beg))
     (first | assumption | exact ⟨z0,z1,z2,z3⟩)
     (first
      | (go_at_call 77; refine (aZ rfl).mono ?_; rintro e w' ⟨rfl,rfl⟩))
    go_wp2_with fail
    go_roundw
    ·exact ⟨j + 1,by omega,rfl,(BW.out.trans (BN.out.mono BW.out.size)).drew⟩
    ·simp [intOf]; omega
  ·obtain ⟨rfl,rfl⟩:=heq (by omega)
   have k1 : (y.1.toList == p.toList) = true:=by simp [hy1]
   have k2 : (y.2.toList == s.toList) = true:=by simp [hy2]
   clear hne hy1 hy2
   go_region_dies
   all_goals (refine (cA rfl).mono ?_; rintro e w' ⟨rfl,rfl⟩; exact ⟨rfl,⟨_,rfl⟩,(BW.out.trans (BN.out.mono BW.out.size)).drew⟩)
end
end Go.Proofs.YtepnnenohjfkbaaGreatDoor
