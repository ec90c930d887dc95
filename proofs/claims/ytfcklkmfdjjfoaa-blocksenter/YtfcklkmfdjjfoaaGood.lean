/-
  Of a code that is taken: labels and places, plainly.
-/
import Derived.Test.YtfcklkmfdjjfoaaPlace
import Derived.Test.YtfcklkmfdjjfoaaGp
namespace Go.Proofs.Ytfcklkmfdjjfoaa
open Go.RowKit
set_option linter.unusedVariables false

/-- How many openers ahead of k end at j. -/
def cnt (O : Nat → Int) (n : Nat) : Nat → Nat → Nat
  | 0, _ => 0
  | k + 1, j => cnt O n k j + (if isO (O k) = true ∧ enF O n k = (j : Int) then 1 else 0)
theorem cnt_none {O : Nat → Int} {n j : Nat} : ∀ (k : Nat), (∀ i, i < k → ¬ (isO (O i) = true ∧ enF O n i = (j : Int))) → cnt O n k j = 0
  | 0, _ => rfl
  | k + 1, h => by unfold cnt; rw [cnt_none k (fun i hi => h i (by omega)), if_neg (h k (by omega))]
theorem cnt_one {O : Nat → Int} {n j t : Nat} : ∀ (k : Nat), t < k → isO (O t) = true → enF O n t = (j : Int) → (∀ i, i < k → isO (O i) = true → enF O n i = (j : Int) → i = t) → cnt O n k j = 1
  | 0, h, _, _, _ => by omega
  | k + 1, h, hO, he, hu => by
    unfold cnt
    by_cases e : t = k
    · subst e
      rw [cnt_none t (fun i hi hx => by have := hu i (by omega) hx.1 hx.2; omega), if_pos ⟨hO, he⟩]
    · rw [cnt_one k (by omega) hO he (fun i hi => hu i (by omega)), if_neg (fun hx => e (hu k (by omega) hx.1 hx.2).symm)]
theorem cnt_le (O : Nat → Int) (n : Nat) : ∀ (k j : Nat), cnt O n k j ≤ k
  | 0, _ => Nat.le_refl _
  | k + 1, j => by unfold cnt; have := cnt_le O n k j; split <;> omega
theorem cnt_good {O : Nat → Int} {n j : Nat} (h : Good O n) (hj : j < n) (h6 : O j = 6) : cnt O n n j = if j = n - 1 then 0 else 1 := by
  by_cases e : j = n - 1
  · rw [if_pos e]
    refine cnt_none n (fun i hi hx => ?_)
    obtain ⟨q, q1, q2, q3, _⟩ := good_open h hi hx.1
    omega
  · rw [if_neg e]
    obtain ⟨t, a, b, c⟩ := good_ended h (show j < n - 1 by omega) h6
    exact cnt_one n (by omega) b c (fun i hi hO he => good_uniq h hi (by omega) hO b he c)

/-! The labels. -/
theorem stk_drop (O : Nat → Int) : ∀ (k i t : Nat), (stk O i)[k]? = some t → stk O t = (stk O i).drop (k + 1)
  | 0, i, t, h => by
    rcases stk_cases O i with h0 | ⟨u, _, _, h0⟩
    · rw [h0] at h; simp at h
    · rw [h0] at h ⊢
      simp at h
      subst h; rfl
  | k + 1, i, t, h => by
    rcases stk_cases O i with h0 | ⟨u, _, _, h0⟩
    · rw [h0] at h; simp at h
    · rw [h0] at h
      simp only [List.getElem?_cons_succ] at h
      rw [h0, List.drop_succ_cons]
      exact stk_drop O k u t h
theorem labs_length (O : Nat → Int) (i : Nat) : (labs O i).length = (stk O i).length + 1 := by simp [labs]
theorem labs_lt {O : Nat → Int} {i k : Nat} (hk : k < (stk O i).length) : (labs O i).getD k 0 = ((stk O i)[k] : Nat) := by
  unfold labs
  rw [List.getD_eq_getElem?_getD, List.getElem?_append_left (by simpa using hk)]
  simp [hk]
theorem labs_last (O : Nat → Int) (i : Nat) : (labs O i).getD (stk O i).length 0 = -1 := by
  unfold labs
  rw [List.getD_eq_getElem?_getD, List.getElem?_append_right (by simp)]
  simp
theorem top_labs (O : Nat → Int) (i k : Nat) (hk : k ≤ (stk O i).length) : top ((stk O i).drop k) = (labs O i).getD k 0 := by
  by_cases h : k < (stk O i).length
  · rw [labs_lt h, List.drop_eq_getElem_cons h]; rfl
  · have e : k = (stk O i).length := by omega
    subst e
    rw [labs_last, List.drop_length]; rfl
/-- What is open at i ends at i or behind. -/
theorem good_behind {O : Nat → Int} {n i t : Nat} (h : Good O n) (hi : i < n) (ht : t ∈ stk O i) : (i : Int) ≤ enF O n t := by
  obtain ⟨hlt, hO⟩ := stk_mem O i t ht
  obtain ⟨j, h1, h2, h3, h4, h5, _⟩ := good_open h (show t < n by omega) hO
  by_cases hx : j < i
  · exact absurd ht (stk_gone h4 h5 i hx)
  · omega

/-! The places lie within the code, or just behind it. -/
theorem plc_range {O : Nat → Int} {n : Nat} {q : Int} (h0 : -1 ≤ q) (h1 : q < n) : 0 ≤ plc O n q ∧ plc O n q ≤ n := by
  unfold plc
  have := enF_range (O := O) n q.toNat
  split
  · omega
  · split <;> omega
theorem brn_range {O : Nat → Int} {n i : Nat} {a : Int} (hi : i < n) : ∀ z ∈ brn O n i a, 0 ≤ z ∧ z ≤ n := by
  intro z hz
  unfold brn at hz
  split at hz
  · next h =>
    simp only [List.mem_singleton] at hz
    subst hz
    have hl : a.toNat < (labs O i).length := by omega
    have hm : (labs O i).getD a.toNat (-1) ∈ labs O i := by
      rw [List.getD_eq_getElem?_getD, List.getElem?_eq_getElem hl]; exact List.getElem_mem hl
    have := labs_mem _ hm
    exact plc_range (by omega) (by omega)
  · cases hz
theorem pls_range {O : Nat → Int} {n i : Nat} {a : Int} {l : List Int} (h : Good O n) (hi : i < n) : ∀ z ∈ pls O n i (O i) a l, 0 ≤ z ∧ z ≤ n := by
  intro z hz
  unfold pls at hz
  split at hz
  · cases hz
  split at hz
  · next h4 =>
    have hO : isO (O i) = true := isO_iff.2 (by omega)
    obtain ⟨j, h1, h2, h3, _⟩ := good_open h hi hO
    simp only [List.mem_cons, List.not_mem_nil, or_false] at hz
    rcases hz with rfl | rfl
    · omega
    · unfold oth
      have := elF_range (O := O) n i
      split <;> omega
  split at hz
  · next h5 =>
    obtain ⟨_, j, h1, h2, h3, _⟩ := good_else h hi h5
    simp only [List.mem_singleton] at hz
    omega
  split at hz
  · rcases List.mem_cons.1 hz with rfl | hz
    · omega
    · exact brn_range hi z hz
  split at hz
  · exact brn_range hi z hz
  split at hz
  · obtain ⟨a', _, hz⟩ := List.mem_flatMap.1 hz
    exact brn_range hi z hz
  split at hz
  · simp only [List.mem_singleton] at hz; omega
  · simp only [List.mem_singleton] at hz; omega
end Go.Proofs.Ytfcklkmfdjjfoaa
