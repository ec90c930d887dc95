/-
  The walks over holds, Size and Clean.
-/
import Derived.Test.YtedkmfklobipaaaDoorMm
namespace Go.Proofs.YtedkmfklobipaaaDoor
open Go.RowKit
set_option linter.unusedVariables false

/-- All n bytes from a on lie in N pages. -/
def hol (N a : Nat) (n : Int) : Bool := wid n && decide ((a : Int) < N * 4096) && decide (n ≤ N * 4096 - a)

theorem hol_nil (a : Nat) (n : Int) (w : World) : Calls Tryd.prog 40 #[.pointer none, .int .u64 a, .int .i64 n] w fun e w' => e = .returned (.bool false) ∧ w' = w := by
  go_enter Tryd.func40, Tryd.ntmps40
  go_wp2_with fail
  refine (is_nil _).mono ?_
  rintro e w' ⟨rfl, hw⟩
  have hw' := hw.symm; subst hw'
  go_wp2_with fail
  go_ret
  exact ⟨rfl, rfl⟩
theorem hol_plain (R : Nat) (a : Nat) (n : Int) (w : World) (h : w.cell? ⟨R, 0, none⟩ = some (.bool false)) : Calls Tryd.prog 40 #[.pointer (some ⟨R, 0, none⟩), .int .u64 a, .int .i64 n] w fun e w' => e = .returned (.bool false) ∧ w' = w := by
  go_enter Tryd.func40, Tryd.ntmps40
  go_wp2_with fail
  refine (is_cell R false _ h).mono ?_
  rintro e w' ⟨rfl, hw⟩
  have hw' := hw.symm; subst hw'
  go_wp2_with fail
  go_ret
  exact ⟨rfl, rfl⟩
theorem hol_mem (R most : Nat) (sv : Value) (PB : List Nat) (f : Nat → Int) (d : Nat → Bool) (a : Nat) (n : Int) (w : World) (h : Mem w R most sv PB f d) (ha : a ≤ 18446744073709551615) :
    Calls Tryd.prog 40 #[.pointer (some ⟨R, 0, none⟩), .int .u64 a, .int .i64 n] w fun e w' => e = .returned (.bool (hol PB.length a n)) ∧ w' = w := by
  obtain ⟨sa, sc, rfl, hsc⟩ := h.sl
  have c0 := h.c0
  have c2 := h.c2
  have hN : PB.length ≤ 64 := Nat.le_trans h.le h.top
  clear h
  generalize PB.length = N at *
  by_cases hw : wid n = true
  · have hn : n = 1 ∨ n = 2 ∨ n = 4 ∨ n = 8 := by simpa [wid, or_assoc] using hw
    have h0 : 0 < n ∧ n ≤ 8 := by omega
    clear hn
    by_cases h1 : (a : Int) < N * 4096
    · have e1 : decide ((a : Int) < (N : Int) * 4096) = true := by simpa using h1
      by_cases h2 : n ≤ N * 4096 - a
      · have e2 : decide (n ≤ (N : Int) * 4096 - a) = true := by simpa using h2
        have HQ := hid (show hol N a n = true by simp only [hol, hw, e1, e2]; rfl)
        have HW := hid hw
        clear hw e1 e2
        go_enter Tryd.func40, Tryd.ntmps40
        go_wp2_with fail
        refine (is_cell R true _ c0).mono ?_
        rintro e w' ⟨rfl, hw⟩
        have hw' := hw.symm; subst hw'; clear hw
        go_wp2_with fail
        refine (width_any n _).mono ?_
        rintro e w' ⟨rfl, hw⟩
        have hw' := hw.symm; subst hw'; clear hw
        rw [HW.out]
        go_wp2_with fail
        go_ret
        exact ⟨by rw [HQ.out]; rfl, rfl⟩
      · have e2 : decide (n ≤ (N : Int) * 4096 - a) = false := by simpa using h2
        have HQ := hid (show hol N a n = false by simp only [hol, hw, e1, e2]; rfl)
        have HW := hid hw
        clear hw e1
        go_enter Tryd.func40, Tryd.ntmps40
        go_wp2_with fail
        refine (is_cell R true _ c0).mono ?_
        rintro e w' ⟨rfl, hw⟩
        have hw' := hw.symm; subst hw'; clear hw
        go_wp2_with fail
        refine (width_any n _).mono ?_
        rintro e w' ⟨rfl, hw⟩
        have hw' := hw.symm; subst hw'; clear hw
        rw [HW.out]
        go_wp2_with fail
        go_ret
        exact ⟨by rw [HQ.out]; rfl, rfl⟩
    · have e1 : decide ((a : Int) < (N : Int) * 4096) = false := by simpa using h1
      have HQ := hid (show hol N a n = false by simp only [hol, hw, e1]; rfl)
      have HW := hid hw
      clear hw e1
      go_enter Tryd.func40, Tryd.ntmps40
      go_wp2_with fail
      refine (is_cell R true _ c0).mono ?_
      rintro e w' ⟨rfl, hw⟩
      have hw' := hw.symm; subst hw'; clear hw
      go_wp2_with fail
      refine (width_any n _).mono ?_
      rintro e w' ⟨rfl, hw⟩
      have hw' := hw.symm; subst hw'; clear hw
      rw [HW.out]
      go_wp2_with fail
      go_ret
      exact ⟨by rw [HQ.out]; rfl, rfl⟩
  · have hw0 : wid n = false := by simpa using hw
    have HQ := hid (show hol N a n = false by simp only [hol, hw0]; rfl)
    have HW := hid hw0
    clear hw hw0
    go_enter Tryd.func40, Tryd.ntmps40
    go_wp2_with fail
    refine (is_cell R true _ c0).mono ?_
    rintro e w' ⟨rfl, hw⟩
    have hw' := hw.symm; subst hw'; clear hw
    go_wp2_with fail
    refine (width_any n _).mono ?_
    rintro e w' ⟨rfl, hw⟩
    have hw' := hw.symm; subst hw'; clear hw
    rw [HW.out]
    go_wp2_with fail
    go_ret
    exact ⟨by rw [HQ.out]; rfl, rfl⟩

theorem size_nil (w : World) : Calls Tryd.prog 14 #[.pointer none] w fun e w' => e = .returned (.int .i64 0) ∧ w' = w := by
  go_enter Tryd.func14, Tryd.ntmps14
  go_wp2_with fail
  refine (is_nil _).mono ?_
  rintro e w' ⟨rfl, hw⟩
  have hw' := hw.symm; subst hw'
  go_wp2_with fail
  go_ret
  exact ⟨rfl, rfl⟩
theorem size_mem (R most : Nat) (sv : Value) (PB : List Nat) (f : Nat → Int) (d : Nat → Bool) (w : World) (h : Mem w R most sv PB f d) :
    Calls Tryd.prog 14 #[.pointer (some ⟨R, 0, none⟩)] w fun e w' => e = .returned (.int .i64 PB.length) ∧ w' = w := by
  obtain ⟨sa, sc, rfl, hsc⟩ := h.sl
  have c0 := h.c0
  have c2 := h.c2
  have hN : PB.length ≤ 64 := Nat.le_trans h.le h.top
  clear h
  generalize PB.length = N at *
  go_enter Tryd.func14, Tryd.ntmps14
  go_wp2_with fail
  refine (is_cell R true _ c0).mono ?_
  rintro e w' ⟨rfl, hw⟩
  have hw' := hw.symm; subst hw'; clear hw
  go_wp2_with fail
  go_ret
  exact ⟨rfl, rfl⟩
theorem clean_nil (w : World) : Calls Tryd.prog 27 #[.pointer none] w fun e w' => e = .returned (.bool false) ∧ w' = w := by
  go_enter Tryd.func27, Tryd.ntmps27
  go_wp2_with fail
  refine (is_nil _).mono ?_
  rintro e w' ⟨rfl, hw⟩
  have hw' := hw.symm; subst hw'
  go_wp2_with fail
  go_ret
  exact ⟨rfl, rfl⟩
end Go.Proofs.YtedkmfklobipaaaDoor
