/-
  The walks over package types' questions on letters: Letter, Fits, the closures, each, letters, and the document's Letter and Letters.
-/
import Derived.Test.YtngcidcfmolahaaRows
import Derived.WalkKit
import Derived.WalkSpells
import Derived.WalkLawsBesides
namespace Go.Proofs.Ytngcidcfmolahaa
open Go.RowKit
set_option linter.unusedVariables false

theorem hid {P : Prop} (h : P) : Hid P := h

/-- Is it the letter of a value? -/
def isL (c : Int) : Bool := decide (c = 119) || decide (c = 108)
theorem isL_low {c : Int} (h : isL c = true) : c < 128 := by
  simp only [isL, Bool.or_eq_true, decide_eq_true_eq] at h; omega

theorem isL_cases (c : Int) : (c = 119 ∧ isL c = true) ∨ (c = 108 ∧ isL c = true) ∨ ((c == 119) = false ∧ (c == 108) = false ∧ isL c = false) := by
  by_cases h : c = 119
  · exact .inl ⟨h, by subst h; rfl⟩
  by_cases h' : c = 108
  · exact .inr (.inl ⟨h', by subst h'; rfl⟩)
  · exact .inr (.inr ⟨by simpa using h, by simpa using h', by simp [isL, h, h']⟩)

/-- types.Letter. -/
theorem letter27 (c : Int) (w : World) : Calls Try.prog 27 #[.int .u8 c] w fun e w' => e = .returned (.bool (isL c)) ∧ w' = w := by
  rcases isL_cases c with ⟨rfl, h⟩ | ⟨rfl, h⟩ | ⟨h1, h2, h⟩
  all_goals
    go_enter Try.func27, Try.ntmps27
    go_wp2
    go_ret
    first | exact ⟨rfl, rfl⟩ | (rw [h]; simp_all)

/-- The document's Letter. -/
theorem letter24 (c : Int) (w : World) : Calls Try.prog 24 #[.int .u8 c] w fun e w' => e = .returned (.bool (isL c)) ∧ w' = w := by
  rcases isL_cases c with ⟨rfl, h⟩ | ⟨rfl, h⟩ | ⟨h1, h2, h⟩
  all_goals
    go_enter Try.func24, Try.ntmps24
    go_wp2
    go_ret
    first | exact ⟨rfl, rfl⟩ | (rw [h]; simp_all)

/-- The closure of letters. -/
theorem ask26 (k m c : Int) (B : Nat) (w : World) (hm : w.cell? ⟨B, 0, none⟩ = some (.int .i64 m)) :
    Calls Try.prog 26 #[.int .i64 k, .int .u8 c, .pointer (some ⟨B, 0, none⟩)] w fun e w' => e = .returned (.bool (decide (k < m))) ∧ w' = w := by
  go_enter Try.func26, Try.ntmps26
  go_wp2
  go_ret
  exact ⟨rfl, rfl⟩

end Go.Proofs.Ytngcidcfmolahaa
