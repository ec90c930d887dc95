/-
  The walks over ReadSvar, readBounded, ReadCount, ReadText, the program's and the document's: both answer as one plain function says, and write nothing.
-/
import Derived.Test.YtlhopgdafaehhaaReadB
namespace Go.Proofs.Ytlhopgdafaehhaa
open Go.RowKit
set_option linter.unusedVariables false

theorem hid {P : Prop} (h : P) : Hid P := h

/-- The number with a sign that u is as. -/
def uf (u : Int) : Int := if u % 2 = 1 then -(u / 2) - 1 else u / 2

def rsAt (zs : List Int) (p : Int) : Int × Int × Int := (uf (ruAt zs p).1, (ruAt zs p).2.1, (ruAt zs p).2.2)

theorem xor_m1 (x : Int) (h0 : 0 ≤ x) (h1 : x < 9223372036854775808) : bits .xor .i64 x (-1) = -x - 1 := by
  obtain ⟨a, rfl⟩ := Int.eq_ofNat_of_zero_le h0
  show IntKind.i64.wrap ((BitVec.ofInt 64 (a : Int) ^^^ BitVec.ofInt 64 (-1)).toNat : Int) = _
  have e1 : BitVec.ofInt 64 (-1) = BitVec.allOnes 64 := by decide
  rw [e1, BitVec.xor_allOnes, BitVec.toNat_not, ofInt_u64 a (by omega)]
  simp [IntKind.wrap, IntKind.bits, IntKind.signed]
  omega
theorem xor_0 (x : Int) (h0 : 0 ≤ x) (h1 : x < 9223372036854775808) : bits .xor .i64 x 0 = x := by
  obtain ⟨a, rfl⟩ := Int.eq_ofNat_of_zero_le h0
  show IntKind.i64.wrap ((BitVec.ofInt 64 (a : Int) ^^^ BitVec.ofInt 64 0).toNat : Int) = _
  have e1 : BitVec.ofInt 64 0 = 0#64 := by decide
  rw [e1, BitVec.xor_zero, ofInt_u64 a (by omega)]
  simp [IntKind.wrap, IntKind.bits, IntKind.signed]
  omega

theorem i64_in (x : Int) (h0 : -9223372036854775808 ≤ x) (h1 : x < 9223372036854775808) : IntKind.i64.wrap x = x := by
  simp [IntKind.wrap, IntKind.bits, IntKind.signed]; omega

theorem and_one {u : Int} (h0 : 0 ≤ u) (h1 : u < 18446744073709551616) : bits .and .u64 u 1 = u % 2 := by
  rw [u64_and u 1 h0 h1 (by decide) (by decide)]
  simp only [Int.reduceToNat]
  rw [nat_mask1]; omega

set_option maxHeartbeats 400000 in
theorem unfold22 (u : Int) (w : World) (h0 : 0 ≤ u) (h1 : u < 18446744073709551616) :
    Calls Try.prog 22 #[.int .u64 u] w fun e w' => e = .returned (.int .i64 (uf u)) ∧ w' = w := by
  have ha := and_one h0 h1
  have hw := i64_in (u / 2) (by omega) (by omega)
  by_cases h : u % 2 = 1
  · have hx := xor_m1 (u / 2) (by omega) (by omega)
    have HU : Hid (uf u = -(u / 2) - 1) := by show uf u = _; simp [uf, h]
    go_enter Try.func22, Try.ntmps22
    go_wp2
    go_ret
    exact ⟨by rw [HU.out]; rfl, rfl⟩
  · have h' : u % 2 = 0 := by omega
    have hx := xor_0 (u / 2) (by omega) (by omega)
    have HU : Hid (uf u = u / 2) := by show uf u = _; simp [uf, h]
    go_enter Try.func22, Try.ntmps22
    go_wp2
    go_ret
    exact ⟨by rw [HU.out]; rfl, rfl⟩

set_option maxHeartbeats 1000000 in
/-- wire.ReadSvar. -/
theorem rs9 (a : Option Addr) (n cap : Nat) (zs : List Int) (p : Int) (w : World) (h : Seg w a n cap zs) :
    Calls Try.prog 9 #[.slice a n cap, .int .i64 p] w fun e w' => e = .returned (res3 .i64 (rsAt zs p)) ∧ w' = w := by
  have hg := ruAt_range zs p h.2.2.2.1
  have hc := ru7 a n cap zs p w h
  clear h
  unfold rsAt
  generalize ruAt zs p = r at *
  obtain ⟨u, q, x⟩ := r
  simp only [res3] at hc hg ⊢
  have HC := hid hc
  clear hc
  obtain ⟨h0, h1, _, _, _, _, _, h8⟩ := hg
  by_cases hx : x = 0
  · subst hx
    clear h8
    go_enter Try.func9, Try.ntmps9
    go_wp2_with (first | (go_at_call 7; refine HC.out.mono ?_; rintro e w' ⟨rfl, rfl⟩) | (go_at_call 22; refine (unfold22 u _ h0 h1).mono ?_; rintro e w' ⟨rfl, rfl⟩))
    go_ret3
    exact ⟨rfl, rfl⟩
  · obtain ⟨rfl, rfl⟩ := h8 hx
    have hx' : (x != 0) = true := by simp [hx]
    go_enter Try.func9, Try.ntmps9
    go_wp2_with (first | (go_at_call 7; refine HC.out.mono ?_; rintro e w' ⟨rfl, rfl⟩))
    go_ret3
    exact ⟨rfl, rfl⟩

set_option maxHeartbeats 1000000 in
/-- The document's ReadSvar. -/
theorem rs10 (a : Option Addr) (n cap : Nat) (zs : List Int) (p : Int) (w : World) (h : Seg w a n cap zs) :
    Calls Try.prog 10 #[.slice a n cap, .int .i64 p] w fun e w' => e = .returned (res3 .i64 (rsAt zs p)) ∧ w' = w := by
  have hg := ruAt_range zs p h.2.2.2.1
  have hc := ru8 a n cap zs p w h
  clear h
  unfold rsAt
  generalize ruAt zs p = r at *
  obtain ⟨u, q, x⟩ := r
  simp only [res3] at hc hg ⊢
  have HC := hid hc
  clear hc
  obtain ⟨h0, h1, _, _, _, _, _, h8⟩ := hg
  clear h8
  have hw := i64_in (u / 2) (by omega) (by omega)
  by_cases hx : u % 2 = 1
  · have HU : Hid (uf u = -(u / 2) - 1) := by show uf u = _; simp [uf, hx]
    go_enter Try.func10, Try.ntmps10
    go_wp2_with (first | (go_at_call 8; refine HC.out.mono ?_; rintro e w' ⟨rfl, rfl⟩))
    go_ret3
    exact ⟨by rw [HU.out]; rfl, rfl⟩
  · have HU : Hid (uf u = u / 2) := by show uf u = _; simp [uf, hx]
    have hx' : u % 2 = 0 := by omega
    go_enter Try.func10, Try.ntmps10
    go_wp2_with (first | (go_at_call 8; refine HC.out.mono ?_; rintro e w' ⟨rfl, rfl⟩))
    go_ret3
    exact ⟨by rw [HU.out]; rfl, rfl⟩

/-- A number of at most m, else the error x. -/
def rbAt (zs : List Int) (p m x : Int) : Int × Int × Int :=
  if p < 0 ∨ (zs.length : Int) < p ∨ m < 0 then (0, 0, 1)
  else if (ruAt zs p).2.2 ≠ 0 then (0, 0, (ruAt zs p).2.2)
  else if m < (ruAt zs p).1 then (0, 0, x)
  else ((ruAt zs p).1, (ruAt zs p).2.1, 0)

set_option maxHeartbeats 2000000 in
/-- wire.readBounded. -/
theorem rb23 (a : Option Addr) (n cap : Nat) (zs : List Int) (p m x : Int) (w : World) (h : Seg w a n cap zs) (hm : m < 9223372036854775808) :
    Calls Try.prog 23 #[.slice a n cap, .int .i64 p, .int .i64 m, .int .i64 x] w fun e w' => e = .returned (res3 .i64 (rbAt zs p m x)) ∧ w' = w := by
  have hn := h.2.2.1
  have hz : (zs.length : Int) = n := by have := h.1; omega
  have hg := ruAt_range zs p h.2.2.2.1
  have hc := ru7 a n cap zs p w h
  clear h
  unfold rbAt
  generalize ruAt zs p = r at *
  obtain ⟨u, q, y⟩ := r
  rw [hz]
  simp only [res3] at hc hg
  have HC := hid hc
  clear hc hz
  obtain ⟨h0, h1, _, _, _, _, _, h8⟩ := hg
  clear h8
  by_cases hp0 : p < 0
  · have hp0' : ¬ 0 ≤ p := by omega
    rw [if_pos (Or.inl hp0)]
    go_enter Try.func23, Try.ntmps23
    go_wp2_with (first | (go_at_call 7; refine HC.out.mono ?_; rintro e w' ⟨rfl, rfl⟩) | go_in)
    go_ret3
    exact ⟨rfl, rfl⟩
  by_cases hpn : (n : Int) < p
  · have hp0' : 0 ≤ p := by omega
    have hpn' : ¬ p ≤ (n : Int) := by omega
    rw [if_pos (Or.inr (Or.inl hpn))]
    go_enter Try.func23, Try.ntmps23
    go_wp2_with (first | (go_at_call 7; refine HC.out.mono ?_; rintro e w' ⟨rfl, rfl⟩) | go_in)
    go_ret3
    exact ⟨rfl, rfl⟩
  have hp0' : 0 ≤ p := by omega
  have hpn' : p ≤ (n : Int) := by omega
  by_cases hm0 : m < 0
  · rw [if_pos (Or.inr (Or.inr hm0))]
    go_enter Try.func23, Try.ntmps23
    go_wp2_with (first | (go_at_call 7; refine HC.out.mono ?_; rintro e w' ⟨rfl, rfl⟩) | go_in)
    go_ret3
    exact ⟨rfl, rfl⟩
  rw [if_neg (by omega)]
  have hmw := wrap_in m (by omega) (by omega)
  by_cases hy : y = 0
  · subst hy
    rw [if_neg (by simp)]
    by_cases hmu : m < u
    · rw [if_pos hmu]
      go_enter Try.func23, Try.ntmps23
      go_wp2_with (first | (go_at_call 7; refine HC.out.mono ?_; rintro e w' ⟨rfl, rfl⟩) | go_in)
      go_ret3
      exact ⟨rfl, rfl⟩
    · rw [if_neg hmu]
      have huw := i64_in u (by omega) (by omega)
      go_enter Try.func23, Try.ntmps23
      go_wp2_with (first | (go_at_call 7; refine HC.out.mono ?_; rintro e w' ⟨rfl, rfl⟩) | go_in)
      go_ret3
      exact ⟨rfl, rfl⟩
  · rw [if_pos hy]
    have hy' : (y != 0) = true := by simp [hy]
    go_enter Try.func23, Try.ntmps23
    go_wp2_with (first | (go_at_call 7; refine HC.out.mono ?_; rintro e w' ⟨rfl, rfl⟩) | go_in)
    go_ret3
    exact ⟨rfl, rfl⟩

set_option maxHeartbeats 400000 in
/-- wire.ReadCount. -/
theorem rc11 (a : Option Addr) (n cap : Nat) (zs : List Int) (p m : Int) (w : World) (h : Seg w a n cap zs) (hm : m < 9223372036854775808) :
    Calls Try.prog 11 #[.slice a n cap, .int .i64 p, .int .i64 m] w fun e w' => e = .returned (res3 .i64 (rbAt zs p m 20)) ∧ w' = w := by
  have hc := rb23 a n cap zs p m 20 w h hm
  clear h
  generalize rbAt zs p m 20 = r at *
  obtain ⟨u, q, y⟩ := r
  simp only [res3] at hc ⊢
  have HC := hid hc
  clear hc
  go_enter Try.func11, Try.ntmps11
  go_wp2_with (first | (go_at_call 23; refine HC.out.mono ?_; rintro e w' ⟨rfl, rfl⟩))
  go_ret3
  exact ⟨rfl, rfl⟩

set_option maxHeartbeats 2000000 in
/-- The document's ReadCount. -/
theorem rc12 (a : Option Addr) (n cap : Nat) (zs : List Int) (p m : Int) (w : World) (h : Seg w a n cap zs) (hm : m < 9223372036854775808) :
    Calls Try.prog 12 #[.slice a n cap, .int .i64 p, .int .i64 m] w fun e w' => e = .returned (res3 .i64 (rbAt zs p m 20)) ∧ w' = w := by
  have hn := h.2.2.1
  have hz : (zs.length : Int) = n := by have := h.1; omega
  have hg := ruAt_range zs p h.2.2.2.1
  have hc := ru8 a n cap zs p w h
  clear h
  unfold rbAt
  generalize ruAt zs p = r at *
  obtain ⟨u, q, y⟩ := r
  rw [hz]
  simp only [res3] at hc hg
  have HC := hid hc
  clear hc hz
  obtain ⟨h0, h1, _, _, _, _, _, h8⟩ := hg
  clear h8
  by_cases hp0 : p < 0
  · rw [if_pos (Or.inl hp0)]
    go_enter Try.func12, Try.ntmps12
    go_wp2_with (first | (go_at_call 8; refine HC.out.mono ?_; rintro e w' ⟨rfl, rfl⟩) | go_in)
    go_ret3
    exact ⟨rfl, rfl⟩
  by_cases hpn : (n : Int) < p
  · rw [if_pos (Or.inr (Or.inl hpn))]
    go_enter Try.func12, Try.ntmps12
    go_wp2_with (first | (go_at_call 8; refine HC.out.mono ?_; rintro e w' ⟨rfl, rfl⟩) | go_in)
    go_ret3
    exact ⟨rfl, rfl⟩
  by_cases hm0 : m < 0
  · rw [if_pos (Or.inr (Or.inr hm0))]
    go_enter Try.func12, Try.ntmps12
    go_wp2_with (first | (go_at_call 8; refine HC.out.mono ?_; rintro e w' ⟨rfl, rfl⟩) | go_in)
    go_ret3
    exact ⟨rfl, rfl⟩
  rw [if_neg (by omega)]
  have hmw := wrap_in m (by omega) (by omega)
  by_cases hy : y = 0
  · subst hy
    rw [if_neg (by simp)]
    by_cases hmu : m < u
    · rw [if_pos hmu]
      go_enter Try.func12, Try.ntmps12
      go_wp2_with (first | (go_at_call 8; refine HC.out.mono ?_; rintro e w' ⟨rfl, rfl⟩) | go_in)
      go_ret3
      exact ⟨rfl, rfl⟩
    · rw [if_neg hmu]
      have huw := i64_in u (by omega) (by omega)
      go_enter Try.func12, Try.ntmps12
      go_wp2_with (first | (go_at_call 8; refine HC.out.mono ?_; rintro e w' ⟨rfl, rfl⟩) | go_in)
      go_ret3
      exact ⟨rfl, rfl⟩
  · rw [if_pos hy]
    have hy' : (y != 0) = true := by simp [hy]
    go_enter Try.func12, Try.ntmps12
    go_wp2_with (first | (go_at_call 8; refine HC.out.mono ?_; rintro e w' ⟨rfl, rfl⟩) | go_in)
    go_ret3
    exact ⟨rfl, rfl⟩
end Go.Proofs.Ytlhopgdafaehhaa
