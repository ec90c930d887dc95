/-
  Plain facts: what is written is read as itself, a beginning of it is at its end, and what is read is written so.
-/
import Derived.Test.YtlhopgdafaehhaaUvar
namespace Go.Proofs.Ytlhopgdafaehhaa
set_option linter.unusedVariables false

/-- What is written is read, whatever stands behind. -/
theorem ru_uv (rest : List Int) : ∀ (f k : Nat) (p V acc : Int), f + k = 9 → 0 ≤ V → V * 128 ^ k < 18446744073709551616 → (V ≠ 0 ∨ k = 0) →
    ru (uv f V ++ rest) k p acc = (acc + V * 128 ^ k, p + (uv f V).length, 0) := by
  intro f
  induction f with
  | zero =>
    intro k p V acc hk h0 hroom hne
    obtain rfl : k = 9 := by omega
    have e9 : (128 : Int) ^ 9 = 9223372036854775808 := by decide
    have hV : V ≤ 1 := by rw [e9] at hroom; omega
    have h1 : ¬ 1 < V := by omega
    have h2 : ¬ V = 0 := by omega
    have h3 : V < 128 := by omega
    simp [uv, ru, h1, h2, h3]
  | succ f ih =>
    intro k p V acc hk h0 hroom hne
    have hk9 : ¬ (k = 9) := by omega
    by_cases h : V < 128
    · have h2 : ¬ (V = 0 ∧ 0 < k) := by omega
      simp only [uv, h, if_true, List.cons_append, List.nil_append, ru, h2, hk9, false_and, if_false, List.length_cons, List.length_nil]
      simp
    · have hc0 : ¬ (V % 128 + 128 = 0) := by omega
      have hc1 : ¬ (V % 128 + 128 < 128) := by omega
      have step := ih (k + 1) (p + 1) (V / 128) (acc + (V % 128) * 128 ^ k) (by omega) (by omega) (room_up V k hroom h0) (by omega)
      have hs : (128 : Int) ^ (k + 1) = 128 * 128 ^ k := by rw [Int.pow_succ, Int.mul_comm]
      have e1 : V % 128 + 128 - 128 = V % 128 := by omega
      have e2 : V % 128 * 128 ^ k + V / 128 * (128 * 128 ^ k) = V * 128 ^ k := by
        rw [← Int.mul_assoc, ← Int.add_mul]
        congr 1
        omega
      simp only [uv, h, if_false, List.cons_append, ru, hk9, hc0, hc1, false_and, List.length_cons]
      rw [e1, step, hs]
      congr 1
      · omega
      · congr 1
        simp only [Int.natCast_add]
        omega

/-- A beginning of it has no end. -/
theorem ru_cut : ∀ (f k i : Nat) (p V acc : Int), f + k = 9 → 0 ≤ V → V * 128 ^ k < 18446744073709551616 → i < (uv f V).length →
    ru ((uv f V).take i) k p acc = (0, 0, 10) := by
  intro f
  induction f with
  | zero =>
    intro k i p V acc hk h0 hroom hi
    simp [uv] at hi
    subst hi
    simp [ru]
  | succ f ih =>
    intro k i p V acc hk h0 hroom hi
    have hk9 : ¬ (k = 9) := by omega
    by_cases h : V < 128
    · simp [uv, h] at hi
      subst hi
      simp [ru]
    · cases i with
      | zero => simp [ru]
      | succ i =>
        have hc0 : ¬ (V % 128 + 128 = 0) := by omega
        have hc1 : ¬ (V % 128 + 128 < 128) := by omega
        simp only [uv, h, if_false, List.length_cons] at hi
        simp only [uv, h, if_false, List.take_succ_cons, ru, hk9, hc0, hc1, false_and]
        exact ih (k + 1) i (p + 1) (V / 128) _ (by omega) (by omega) (room_up V k hroom h0) (by omega)

/-- What is read is written so. -/
theorem uv_ru : ∀ (l : List Int) (f k : Nat) (p acc v q : Int), f + k = 9 → (∀ z ∈ l, 0 ≤ z ∧ z ≤ 255) → ru l k p acc = (v, q, 0) →
    ∃ (V : Int) (m : Nat), q = p + m ∧ m ≤ l.length ∧ l.take m = uv f V ∧ v = acc + V * 128 ^ k ∧ 0 ≤ V ∧ (V ≠ 0 ∨ k = 0) := by
  intro l
  induction l with
  | nil => intro f k p acc v q _ _ h; simp [ru] at h
  | cons c l ih =>
    intro f k p acc v q hf hz h
    have hc := hz c (by simp)
    unfold ru at h
    by_cases h9 : k = 9 ∧ 1 < c
    · rw [if_pos h9] at h; simp at h
    rw [if_neg h9] at h
    by_cases hl : c = 0 ∧ 0 < k
    · rw [if_pos hl] at h; simp at h
    rw [if_neg hl] at h
    by_cases h128 : c < 128
    · rw [if_pos h128] at h
      simp only [Prod.mk.injEq] at h
      refine ⟨c, 1, by omega, by simp, ?_, by omega, hc.1, by omega⟩
      cases f with
      | zero => simp [uv]
      | succ f => simp [uv, h128]
    · rw [if_neg h128] at h
      cases f with
      | zero => omega
      | succ f =>
        obtain ⟨V, m, e1, e2, e3, e4, e5, e6⟩ := ih f (k + 1) (p + 1) _ v q (by omega) (fun z h => hz z (by simp [h])) h
        have hs : (128 : Int) ^ (k + 1) = 128 * 128 ^ k := by rw [Int.pow_succ, Int.mul_comm]
        have hn : ¬ (c - 128 + 128 * V < 128) := by omega
        have hm : (c - 128 + 128 * V) % 128 + 128 = c := by omega
        have hd : (c - 128 + 128 * V) / 128 = V := by omega
        refine ⟨c - 128 + 128 * V, m + 1, by omega, by simp; omega, ?_, ?_, by omega, by omega⟩
        · simp only [uv, hn, if_false, hm, hd, List.take_succ_cons, e3]
        · rw [e4, hs, Int.add_mul, ← Int.mul_assoc, Int.mul_comm V 128]
          omega

/-- The number as which one with a sign is written. -/
def fo (n : Int) : Int := if n < 0 then -2 * n - 1 else 2 * n

theorem uf_fo (n : Int) : uf (fo n) = n := by
  unfold uf fo
  split <;> split <;> omega
theorem fo_uf (u : Int) (h : 0 ≤ u) : fo (uf u) = u := by
  unfold uf fo
  split <;> split <;> omega
theorem fo_range (n : Int) (h0 : -9223372036854775808 ≤ n) (h1 : n < 9223372036854775808) : 0 ≤ fo n ∧ fo n < 18446744073709551616 := by
  unfold fo; split <;> omega

theorem uvar_len (v : Int) : 1 ≤ (uvar v).length ∧ (uvar v).length ≤ 10 := uv_len 9 v

/-- Read as itself, to its end, whatever stands ahead and behind. -/
theorem read_back (A R : List Int) (v : Int) (h0 : 0 ≤ v) (h1 : v < 18446744073709551616) : ruAt (A ++ uvar v ++ R) A.length = (v, (A.length : Int) + (uvar v).length, 0) := by
  unfold ruAt
  rw [if_neg (by simp; omega), Int.toNat_natCast, List.append_assoc, List.drop_left]
  rw [uvar, ru_uv R 9 0 A.length v 0 (by omega) h0 (by simpa using h1) (.inr rfl)]
  simp
theorem read_cut (A : List Int) (v : Int) (i : Nat) (h0 : 0 ≤ v) (h1 : v < 18446744073709551616) (hi : i < (uvar v).length) : ruAt (A ++ (uvar v).take i ++ []) A.length = (0, 0, 10) := by
  unfold ruAt
  rw [if_neg (by simp; omega), Int.toNat_natCast, List.append_assoc, List.drop_left, List.append_nil]
  exact ru_cut 9 0 i A.length v 0 (by omega) h0 (by simpa using h1) hi
theorem read_same (zs : List Int) (p v q : Int) (hz : ∀ z ∈ zs, 0 ≤ z ∧ z ≤ 255) (h : ruAt zs p = (v, q, 0)) : (zs.drop p.toNat).take (q - p).toNat = uvar v ∧ 0 ≤ v ∧ v < 18446744073709551616 ∧ 0 ≤ p ∧ p < q ∧ q ≤ zs.length := by
  have hr := ruAt_range zs p hz
  rw [h] at hr
  simp only at hr
  obtain ⟨r0, r1, _, r3, _, _, r6, _⟩ := hr
  have r6 := r6 trivial
  unfold ruAt at h
  rw [if_neg (by omega)] at h
  obtain ⟨V, m, e1, e2, e3, e4, _, _⟩ := uv_ru (zs.drop p.toNat) 9 0 p 0 v q (by omega) (fun z h => hz z (List.mem_of_mem_drop h)) h
  have e : (q - p).toNat = m := by omega
  have ev : v = V := by simpa using e4
  rw [e, e3, ev]
  exact ⟨rfl, by omega, by omega, r6.1, r6.2, r3⟩
end Go.Proofs.Ytlhopgdafaehhaa
