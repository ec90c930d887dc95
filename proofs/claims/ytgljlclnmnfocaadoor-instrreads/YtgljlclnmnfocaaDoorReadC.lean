/-
  The walks over ReadSvar, the program's and the document's: both answer as one plain function says, and write nothing.
-/
import Derived.Test.YtgljlclnmnfocaaDoorReadB
import Derived.Test.YtgljlclnmnfocaaDoorHid
namespace Go.Proofs.YtgljlclnmnfocaaDoor
open Go.RowKit
set_option linter.unusedVariables false


theorem xor_m1 (x : Int) (h0 : 0 ≤ x) (h1 : x < 9223372036854775808) : bits .xor .i64 x (-1) = -x - 1 := by
  obtain ⟨a, rfl⟩ := Int.eq_ofNat_of_zero_le h0
  show IntKind.i64.wrap ((BitVec.ofInt 64 (a : Int) ^^^ BitVec.ofInt 64 (-1)).toNat : Int) = _
  have e1 : BitVec.ofInt 64 (-1) = BitVec.allOnes 64 := by decide
  rw [e1, BitVec.xor_allOnes, BitVec.toNat_not, ofInt_u64 a (by omega)]
  simp [IntKind.wrap, IntKind.bits, IntKind.signed]
  omega
theorem xor_0 (x : Int) (h0 : 0 ≤ x) (h1 : x < 9223372036854775808) : bits .xor .i64 x 0 = x := by
  obtain ⟨a, rfl⟩ := Int.eq_ofNat_of_zero_le h0
  show IntKind.i64.wrap ((BitVec.ofInt 64 (a : Int) ^^^ BitVec.ofInt 64 0).toNat : Int) = _
  have e1 : BitVec.ofInt 64 0 = 0#64 := by decide
  rw [e1, BitVec.xor_zero, ofInt_u64 a (by omega)]
  simp [IntKind.wrap, IntKind.bits, IntKind.signed]
  omega

theorem i64_in (x : Int) (h0 : -9223372036854775808 ≤ x) (h1 : x < 9223372036854775808) : IntKind.i64.wrap x = x := by
  simp [IntKind.wrap, IntKind.bits, IntKind.signed]; omega

theorem and_one {u : Int} (h0 : 0 ≤ u) (h1 : u < 18446744073709551616) : bits .and .u64 u 1 = u % 2 := by
  rw [u64_and u 1 h0 h1 (by decide) (by decide)]
  simp only [Int.reduceToNat]
  rw [nat_mask1]; omega

set_option maxHeartbeats 400000 in
theorem unfold22 (u : Int) (w : World) (h0 : 0 ≤ u) (h1 : u < 18446744073709551616) :
    Calls Tryd.prog 79 #[.int .u64 u] w fun e w' => e = .returned (.int .i64 (uf u)) ∧ w' = w := by
  have ha := and_one h0 h1
  have hw := i64_in (u / 2) (by omega) (by omega)
  by_cases h : u % 2 = 1
  · have hx := xor_m1 (u / 2) (by omega) (by omega)
    have HU : Hid (uf u = -(u / 2) - 1) := by show uf u = _; simp [uf, h]
    go_enter Tryd.func79, Tryd.ntmps79
    go_wp2
    go_ret
    exact ⟨by rw [HU.out]; rfl, rfl⟩
  · have h' : u % 2 = 0 := by omega
    have hx := xor_0 (u / 2) (by omega) (by omega)
    have HU : Hid (uf u = u / 2) := by show uf u = _; simp [uf, h]
    go_enter Tryd.func79, Tryd.ntmps79
    go_wp2
    go_ret
    exact ⟨by rw [HU.out]; rfl, rfl⟩

set_option maxHeartbeats 1000000 in
/-- wire.ReadSvar. -/
theorem rs9 (a : Option Addr) (n cap : Nat) (zs : List Int) (p : Int) (w : World) (h : Seg w a n cap zs) :
    Calls Tryd.prog 75 #[.slice a n cap, .int .i64 p] w fun e w' => e = .returned (res3 .i64 (rsAt zs p)) ∧ w' = w := by
  have hg := ruAt_range zs p h.2.2.2.1
  have hc := ru7 a n cap zs p w h
  clear h
  unfold rsAt
  generalize ruAt zs p = r at *
  obtain ⟨u, q, x⟩ := r
  simp only [res3] at hc hg ⊢
  have HC := hid hc
  clear hc
  obtain ⟨h0, h1, _, _, _, _, _, h8⟩ := hg
  by_cases hx : x = 0
  · subst hx
    clear h8
    go_enter Tryd.func75, Tryd.ntmps75
    go_wp2_with (first | (go_at_call 74; refine HC.out.mono ?_; rintro e w' ⟨rfl, rfl⟩) | (go_at_call 79; refine (unfold22 u _ h0 h1).mono ?_; rintro e w' ⟨rfl, rfl⟩))
    go_ret3
    exact ⟨rfl, rfl⟩
  · obtain ⟨rfl, rfl⟩ := h8 hx
    have hx' : (x != 0) = true := by simp [hx]
    go_enter Tryd.func75, Tryd.ntmps75
    go_wp2_with (first | (go_at_call 74; refine HC.out.mono ?_; rintro e w' ⟨rfl, rfl⟩))
    go_ret3
    exact ⟨rfl, rfl⟩

set_option maxHeartbeats 1000000 in
/-- The document's ReadSvar. -/
theorem rs10 (a : Option Addr) (n cap : Nat) (zs : List Int) (p : Int) (w : World) (h : Seg w a n cap zs) :
    Calls Tryd.prog 56 #[.slice a n cap, .int .i64 p] w fun e w' => e = .returned (res3 .i64 (rsAt zs p)) ∧ w' = w := by
  have hg := ruAt_range zs p h.2.2.2.1
  have hc := ru8 a n cap zs p w h
  clear h
  unfold rsAt
  generalize ruAt zs p = r at *
  obtain ⟨u, q, x⟩ := r
  simp only [res3] at hc hg ⊢
  have HC := hid hc
  clear hc
  obtain ⟨h0, h1, _, _, _, _, _, h8⟩ := hg
  clear h8
  have hw := i64_in (u / 2) (by omega) (by omega)
  by_cases hx : u % 2 = 1
  · have HU : Hid (uf u = -(u / 2) - 1) := by show uf u = _; simp [uf, hx]
    go_enter Tryd.func56, Tryd.ntmps56
    go_wp2_with (first | (go_at_call 57; refine HC.out.mono ?_; rintro e w' ⟨rfl, rfl⟩))
    go_ret3
    exact ⟨by rw [HU.out]; rfl, rfl⟩
  · have HU : Hid (uf u = u / 2) := by show uf u = _; simp [uf, hx]
    have hx' : u % 2 = 0 := by omega
    go_enter Tryd.func56, Tryd.ntmps56
    go_wp2_with (first | (go_at_call 57; refine HC.out.mono ?_; rintro e w' ⟨rfl, rfl⟩))
    go_ret3
    exact ⟨by rw [HU.out]; rfl, rfl⟩
end Go.Proofs.YtgljlclnmnfocaaDoor
