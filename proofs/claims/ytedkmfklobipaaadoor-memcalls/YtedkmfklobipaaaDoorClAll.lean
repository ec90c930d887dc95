/-
  MemCalls, whatever is handed in.
-/
import Derived.Test.YtedkmfklobipaaaDoorCl
namespace Go.Proofs.YtedkmfklobipaaaDoor
open Go.RowKit
set_option linter.unusedVariables false

set_option maxRecDepth 100000 in
set_option maxHeartbeats 4000000 in
theorem calls_many (p m : Int) (ca : Option Addr) (n cap : Nat) (w : World) (hn : 300 < n) (hn2 : n ≤ 140737488355328) :
    Calls Tryd.prog 4 #[.int .i64 p, .int .i64 m, .slice ca n cap] w fun e w' => e = .returned (.bool true) ∧ Below w.heap.size w w' := by
  have hn3 : (300 : Int) < (n : Int) := by omega
  go_enter Tryd.func4, Tryd.ntmps4
  go_wp2_with fail
  refine (works_yes w).mono ?_
  rintro e w1 ⟨rfl, hb1⟩
  have B1 := hid hb1
  clear hb1
  go_wp2_with fail
  go_ret
  exact ⟨rfl, B1.out⟩

set_option maxRecDepth 100000 in
set_option maxHeartbeats 4000000 in
theorem calls_none (p m : Int) (ca : Option Addr) (n cap : Nat) (w : World) (hn : n ≤ 300) (hmy : mayB p m = false) :
    Calls Tryd.prog 4 #[.int .i64 p, .int .i64 m, .slice ca n cap] w fun e w' => e = .returned (.bool true) ∧ Below w.heap.size w w' := by
  have hn3 : ¬ (300 : Int) < (n : Int) := by omega
  have HMY := hid hmy
  clear hmy
  go_enter Tryd.func4, Tryd.ntmps4
  go_wp2_with fail
  refine (works_yes w).mono ?_
  rintro e w1 ⟨rfl, hb1⟩
  have B1 := hid hb1
  clear hb1
  go_wp2_with fail
  refine (new_no p m w1 HMY.out).mono ?_
  rintro e w' ⟨rfl, hw⟩
  have hw' := hw.symm; subst hw'; clear hw
  go_wp2_with fail
  refine (rnew_no p m w1 HMY.out).mono ?_
  rintro e w' ⟨rfl, hw⟩
  have hw' := hw.symm; subst hw'; clear hw
  go_wp2_with fail
  refine (new_no p m w1 HMY.out).mono ?_
  rintro e w' ⟨rfl, hw⟩
  have hw' := hw.symm; subst hw'; clear hw
  go_wp2_with fail
  refine (rnew_no p m w1 HMY.out).mono ?_
  rintro e w' ⟨rfl, hw⟩
  have hw' := hw.symm; subst hw'; clear hw
  go_wp2_with fail
  go_ret
  exact ⟨rfl, B1.out⟩

theorem calls_all (p m : Int) (ca : Option Addr) (n cap : Nat) (xs : List Cl) (w : World) (hxl : xs.length = n) (hn2 : n ≤ 140737488355328) (hcs : n = 0 ∨ ∃ b off, ca = some ⟨b, off, none⟩ ∧ ∀ j x, xs[j]? = some x → CAt w b (off + j * 5) x) (ht : Tens w.heap.size w) :
    Calls Tryd.prog 4 #[.int .i64 p, .int .i64 m, .slice ca n cap] w fun e w' => e = .returned (.bool true) ∧ Below w.heap.size w w' := by
  have nat : ∀ {x y : Int}, mayB x y = true → 0 ≤ x ∧ 0 ≤ y := fun h => by simp [mayB] at h; omega
  by_cases hn : n ≤ 300
  · cases hmy : mayB p m
    · exact calls_none p m ca n cap w hn hmy
    · obtain ⟨p, rfl⟩ := Int.eq_ofNat_of_zero_le (nat hmy).1
      obtain ⟨m, rfl⟩ := Int.eq_ofNat_of_zero_le (nat hmy).2
      exact calls_law p m ca n cap xs w hxl hn hcs ht hmy
  · exact calls_many p m ca n cap w (by omega) hn2
end Go.Proofs.YtedkmfklobipaaaDoor
