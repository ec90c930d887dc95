/-
  Of a code that is taken: what ends where, plainly.
-/
import Derived.Test.YtfcklkmfdjjfoaaDoorMap
namespace Go.Proofs.YtfcklkmfdjjfoaaDoor
open Go.RowKit
set_option linter.unusedVariables false

theorem good_en {O : Nat → Int} {n : Nat} (h : Good O n) (i : Nat) : enF O n i = enF O (n - 1) i := by
  have e : n = n - 1 + 1 := by have := h.1; omega
  conv => lhs; rw [e]
  exact enF_none h.2.2.2.2 i
theorem good_el {O : Nat → Int} {n : Nat} (h : Good O n) (i : Nat) : elF O n i = elF O (n - 1) i := by
  have e : n = n - 1 + 1 := by have := h.1; omega
  conv => lhs; rw [e]
  exact elF_none h.2.2.2.2 i
theorem good_last {O : Nat → Int} {n i : Nat} (h : Good O n) (hi : i < n) (h6 : O i ≠ 6) : i < n - 1 := by
  have h1 := h.2.2.2.1
  have : i ≠ n - 1 := fun e => h6 (e ▸ h1)
  omega

/-- An opener: where it ends. -/
theorem good_open {O : Nat → Int} {n i : Nat} (h : Good O n) (hi : i < n) (hO : isO (O i) = true) : ∃ j : Nat, enF O n i = j ∧ i < j ∧ j < n - 1 ∧ O j = 6 ∧ stk O j = i :: stk O i ∧ elF O n i < j := by
  have hiv := iv_of h.2.1
  rcases hiv.opn i (good_last h hi (isO_ne5 hO).2) hO with ⟨hm, _⟩ | ⟨_, j, h1, h2, h3, h4, h5, h6⟩
  · rw [h.2.2.2.2] at hm; cases hm
  · exact ⟨j, by rw [good_en h]; exact h1, h2, h3, h4, h5, by rw [good_el h]; exact h6⟩
/-- Its else. -/
theorem good_els {O : Nat → Int} {n i : Nat} (h : Good O n) : elF O n i = -1 ∨ ∃ j : Nat, elF O n i = j ∧ i < j ∧ j < n - 1 ∧ O i = 4 ∧ O j = 5 ∧ enF O n j = enF O n i := by
  have hiv := iv_of h.2.1
  rcases hiv.els i with h1 | ⟨j, h1, h2, h3, h4, h5, _, h7⟩
  · exact .inl (by rw [good_el h]; exact h1)
  · exact .inr ⟨j, by rw [good_el h]; exact h1, h2, h3, h4, h5, by rw [good_en h, good_en h]; exact h7⟩
/-- An else: where it ends. -/
theorem good_else {O : Nat → Int} {n i : Nat} (h : Good O n) (hi : i < n) (h5 : O i = 5) : elF O n i = -1 ∧ ∃ j : Nat, enF O n i = j ∧ i < j ∧ j < n - 1 ∧ O j = 6 := by
  have hiv := iv_of h.2.1
  constructor
  · rcases good_els (i := i) h with h1 | ⟨j, _, _, _, h4, _⟩
    · exact h1
    · omega
  · obtain ⟨t, ht, hx⟩ := hiv.elp i (good_last h hi (by omega)) h5
    rcases hiv.els t with h1 | ⟨j, h1, h2, h3, h4, h5', _, h7⟩
    · omega
    · have e : j = i := by omega
      subst e
      obtain ⟨q, q1, q2, q3, q4, q5, q6⟩ := good_open h (show t < n by omega) (isO_iff.2 (by omega))
      refine ⟨q, ?_, ?_, q3, q4⟩
      · rw [good_en h, h7, ← good_en h]; exact q1
      · rw [good_el h] at q6; omega
theorem good_oth {O : Nat → Int} {n i : Nat} (h : Good O n) (hO : isO (O i) = false) (h5 : O i ≠ 5) : enF O n i = -1 ∧ elF O n i = -1 := by
  constructor
  · rw [good_en h]; exact (iv_of h.2.1).oth i hO h5
  · rcases good_els (i := i) h with h1 | ⟨j, _, _, _, h4, _⟩
    · exact h1
    · have := isO_not hO; omega
/-- No two cross. -/
theorem good_nest {O : Nat → Int} {n t u : Nat} (h : Good O n) (htu : t < u) (ht : isO (O t) = true) (hu : isO (O u) = true) (hlt : (u : Int) < enF O n t) : enF O n u < enF O n t := by
  rw [good_en h] at hlt ⊢
  rw [good_en h]
  exact ((iv_of h.2.1).nest t u htu ht hu hlt).2.2
theorem good_ended {O : Nat → Int} {n j : Nat} (h : Good O n) (hj : j < n - 1) (h6 : O j = 6) : ∃ t, t < j ∧ isO (O t) = true ∧ enF O n t = j := by
  obtain ⟨t, a, b, c⟩ := (iv_of h.2.1).ended j hj h6
  exact ⟨t, a, b, by rw [good_en h]; exact c⟩
theorem good_uniq {O : Nat → Int} {n t u j : Nat} (h : Good O n) (ht : t < n) (hu : u < n) (hOt : isO (O t) = true) (hOu : isO (O u) = true) (h1 : enF O n t = j) (h2 : enF O n u = j) : t = u := by
  obtain ⟨a, a1, a2, a3, _⟩ := good_open h ht hOt
  obtain ⟨b, b1, b2, b3, _⟩ := good_open h hu hOu
  rcases Nat.lt_trichotomy t u with hl | hl | hl
  · have := good_nest h hl hOt hOu (by omega); omega
  · exact hl
  · have := good_nest h hl hOu hOt (by omega); omega


theorem enF_range {O : Nat → Int} : ∀ (k i : Nat), -1 ≤ enF O k i ∧ enF O k i < k
  | 0, i => by simp [enF]
  | k + 1, i => by
    have ih := enF_range (O := O) k i
    unfold enF
    split
    · omega
    · split <;> omega
theorem elF_range {O : Nat → Int} : ∀ (k i : Nat), -1 ≤ elF O k i ∧ elF O k i < k
  | 0, i => by simp [elF]
  | k + 1, i => by
    have ih := elF_range (O := O) k i
    unfold elF
    split
    · omega
    · split <;> omega
end Go.Proofs.YtfcklkmfdjjfoaaDoor
