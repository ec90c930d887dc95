/-
  What the program's table and the document's say of one another, without a program: rows, words, the list of all.
-/
import Derived.Test.YtgljlclnmnfocaaDoorOf
namespace Go.Proofs.YtgljlclnmnfocaaDoor
set_option linter.unusedVariables false

/-- The document's row of a number. -/
def refD : List RefRow → Int → RefRow × Bool
  | [], _ => (zeroRow, false)
  | x :: r, c => if c = x.1 then (x, true) else refD r c
theorem refLook_eq : ∀ (l : List RefRow) (c : Int), refLook l c = (rv (refD l c).1, (refD l c).2)
  | [], _ => rfl
  | x :: r, c => by
    unfold refLook refD
    by_cases h : c = x.1
    · rw [if_pos h, if_pos h]; rfl
    · rw [if_neg h, if_neg h]; exact refLook_eq r c

theorem rows_all : ((List.range 256).all fun (n : Nat) => decide (ofV (n : Int) = refD refTab (n : Int))) = true := by decide +kernel
/-- The two tables tell the same rows. -/
theorem of_ref (c : Int) (h0 : 0 ≤ c) (h1 : c ≤ 255) : ofV c = refD refTab c := by
  obtain ⟨n, rfl⟩ := Int.eq_ofNat_of_zero_le h0
  have := List.all_eq_true.1 rows_all n (List.mem_range.2 (by omega))
  exact of_decide_eq_true this
end Go.Proofs.YtgljlclnmnfocaaDoor
