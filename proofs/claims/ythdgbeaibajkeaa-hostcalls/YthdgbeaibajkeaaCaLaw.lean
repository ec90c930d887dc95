/-
  The walk over HostCalls.
-/
import Derived.Test.YthdgbeaibajkeaaUn
namespace Go.Proofs.Ythdgbeaibajkeaa
open Go.RowKit
set_option linter.unusedVariables false

/-- The script as it came in. -/
def RawS (w : World) (a : Option Addr) (n c : Nat) (xs : List Rp) : Prop :=
  xs.length = n ∧ n ≤ c ∧ n ≤ 140737488355328 ∧ (n = 0 ∨ ∃ b off, a = some ⟨b, off, none⟩ ∧ ∀ j, j < n → w.cell? ⟨b, off + j * 2, none⟩ = some (.slice (xs.getD j rp0).a (xs.getD j rp0).n (xs.getD j rp0).c) ∧ w.cell? ⟨b, off + j * 2 + 1, none⟩ = some (.bool (xs.getD j rp0).tr) ∧ (xs.getD j rp0).n ≤ 140737488355328 ∧
    ((xs.getD j rp0).n ≤ 2147483647 → SegU (fun k => k < w.heap.size) w (xs.getD j rp0).a (xs.getD j rp0).n (xs.getD j rp0).c (xs.getD j rp0).l))
/-- The calls as they came in. -/
def RawC (w : World) (a : Option Addr) (n : Nat) (ss : List ByteArray) : Prop :=
  ss.length = n ∧ n ≤ 140737488355328 ∧ (∀ s ∈ ss, s.size ≤ 140737488355328) ∧ (n = 0 ∨ ∃ b off, a = some ⟨b, off, none⟩ ∧ ∀ j, j < n → w.cell? ⟨b, off + j, none⟩ = some (.string (ss.getD j ⟨#[]⟩)))

theorem RawS.raw {w : World} {a : Option Addr} {n c : Nat} {xs : List Rp} (h : RawS w a n c xs) : RawR w a n xs := by
  obtain ⟨h1, h2, h3, h4⟩ := h
  refine ⟨h1, h3, ?_, ?_⟩
  · rcases h4 with h4 | ⟨b, off, e, h4⟩
    · intro j hj; omega
    · exact fun j hj => (h4 j hj).2.2.1
  · rcases h4 with h4 | ⟨b, off, e, h4⟩
    · exact .inl h4
    · exact .inr ⟨b, off, e, fun j hj => (h4 j hj).1⟩
theorem szR_mono (xs : List Rp) : ∀ (k j : Nat), j ≤ k → szR xs j ≤ szR xs k
  | 0, j, h => by obtain rfl : j = 0 := by omega
                  exact Nat.le_refl _
  | k + 1, j, h => by
    rcases Nat.lt_or_ge j (k + 1) with h' | h'
    · exact Nat.le_trans (szR_mono xs k j (by omega)) (Nat.le_add_right _ _)
    · obtain rfl : j = k + 1 := by omega
      exact Nat.le_refl _
theorem RawS.rps {w : World} {a : Option Addr} {n c : Nat} {xs : List Rp} (h : RawS w a n c xs) (hn : n ≤ 2000) (hz : szR xs n ≤ 2147483647) : RpS (fun k => k < w.heap.size) w a n c xs := by
  obtain ⟨h1, h2, h3, h4⟩ := h
  refine ⟨h1, h2, hn, ?_⟩
  rcases h4 with h4 | ⟨b, off, e, h4⟩
  · exact .inl h4
  · by_cases h0 : n = 0
    · exact .inl h0
    refine .inr ⟨b, off, e, block_lt_of_cell (h4 0 (by omega)).1, fun j hj => ?_⟩
    obtain ⟨q1, q2, q3, q4⟩ := h4 j hj
    refine ⟨q1, q2, q4 ?_⟩
    have := szR_mono xs n (j + 1) (by omega)
    have e : szR xs (j + 1) = szR xs j + (xs.getD j rp0).n := rfl
    omega

set_option maxRecDepth 100000 in
set_option maxHeartbeats 2000000 in
theorem calls3_big (a : Option Addr) (n c : Nat) (t : Int) (ca : Option Addr) (cn cc : Nat) (w : World) (hn : 2000 < n) (hn2 : n ≤ 140737488355328) :
    Calls Try.prog 3 #[.slice a n c, .int .i64 t, .slice ca cn cc] w fun e w' => e = .returned (.bool true) ∧ Below w.heap.size w w' := by
  have HW := hid (works7 w)
  have d1 : decide ((2000 : Int) < n) = true := by simp; omega
  go_enter Try.func3, Try.ntmps3
  go_wp2_with fail
  refine HW.out.mono ?_
  rintro e w1 ⟨rfl, hb⟩
  have HB := hid hb
  clear hb
  go_wp2_with fail
  go_ret
  exact ⟨rfl, HB.out⟩

set_option maxRecDepth 100000 in
set_option maxHeartbeats 2000000 in
theorem calls3_long (a : Option Addr) (n c : Nat) (t : Int) (ca : Option Addr) (cn cc : Nat) (w : World) (hn : n ≤ 2000)
    (hs : Calls Try.prog 6 #[.slice a n c] w fun e w' => (∃ z : Nat, 2147483647 < z ∧ e = .returned (.int .i64 z)) ∧ w' = w) :
    Calls Try.prog 3 #[.slice a n c, .int .i64 t, .slice ca cn cc] w fun e w' => e = .returned (.bool true) ∧ Below w.heap.size w w' := by
  have HW := hid (works7 w)
  have HS := hid hs
  have d1 : decide ((2000 : Int) < n) = false := by simp; omega
  clear hs
  go_enter Try.func3, Try.ntmps3
  go_wp2_with fail
  refine HS.out.mono ?_
  rintro e w1 ⟨⟨z, hz, rfl⟩, hw⟩
  have hw' := hw.symm; subst hw'; clear hw
  have HL := hid (long5 z w)
  rw [decide_eq_true (show (2147483647 : Int) < (z : Int) by omega)] at HL
  go_wp2_with fail
  refine HL.out.mono ?_
  rintro e w1 ⟨rfl, hw⟩
  have hw' := hw.symm; subst hw'; clear hw
  go_wp2_with fail
  refine HW.out.mono ?_
  rintro e w1 ⟨rfl, hb⟩
  have HB := hid hb
  clear hb
  go_wp2_with fail
  go_ret
  exact ⟨rfl, HB.out⟩

set_option maxRecDepth 100000 in
set_option maxHeartbeats 2000000 in
theorem calls3_many (a : Option Addr) (n c : Nat) (t : Int) (ca : Option Addr) (cn cc z : Nat) (w : World) (hn : n ≤ 2000) (hz : z ≤ 2147483647) (hcn : 2000 < cn) (hcn2 : cn ≤ 140737488355328)
    (hs : Calls Try.prog 6 #[.slice a n c] w fun e w' => e = .returned (.int .i64 z) ∧ w' = w) :
    Calls Try.prog 3 #[.slice a n c, .int .i64 t, .slice ca cn cc] w fun e w' => e = .returned (.bool true) ∧ Below w.heap.size w w' := by
  have HW := hid (works7 w)
  have HS := hid hs
  have HL := hid (long5 z w)
  rw [decide_eq_false (show ¬ (2147483647 : Int) < (z : Int) by omega)] at HL
  have d1 : decide ((2000 : Int) < n) = false := by simp; omega
  have d2 : decide ((2000 : Int) < cn) = true := by simp; omega
  clear hs
  go_enter Try.func3, Try.ntmps3
  go_wp2_with fail
  refine HS.out.mono ?_
  rintro e w1 ⟨rfl, hw⟩
  have hw' := hw.symm; subst hw'; clear hw
  go_wp2_with fail
  refine HL.out.mono ?_
  rintro e w1 ⟨rfl, hw⟩
  have hw' := hw.symm; subst hw'; clear hw
  go_wp2_with fail
  refine HW.out.mono ?_
  rintro e w1 ⟨rfl, hb⟩
  have HB := hid hb
  clear hb
  go_wp2_with fail
  go_ret
  exact ⟨rfl, HB.out⟩
end Go.Proofs.Ythdgbeaibajkeaa
