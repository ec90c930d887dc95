/-
  Bytes that were stored, and loaded again. No Go in sight, but for Load of any number of bytes.
-/
import Derived.Test.YtedkmfklobipaaaDoorWk
namespace Go.Proofs.YtedkmfklobipaaaDoor
open Go.RowKit
set_option linter.unusedVariables false

/-- What Load answers. -/
def ldA (N : Nat) (f : Nat → Int) (a : Nat) (n : Int) : Int := if hol N a n = true then ldv f a n.toNat else 0

theorem load_any (R most : Nat) (sv : Value) (PB : List Nat) (f : Nat → Int) (d : Nat → Bool) (a : Nat) (n : Int) (w : World) (h : Mem w R most sv PB f d) (ha : a ≤ 18446744073709551615) :
    Calls Tryd.prog 19 #[.pointer (some ⟨R, 0, none⟩), .int .u64 a, .int .i64 n] w fun e w' => e = .returned (.tuple #[.int .u64 (ldA PB.length f a n), .bool (hol PB.length a n)]) ∧ w' = w := by
  have hc := hol_mem R most sv PB f d a n w h ha
  cases hh : hol PB.length a n
  · rw [hh] at hc
    refine (load_not _ a n w hc).mono fun e w' ⟨he, hw⟩ => ⟨?_, hw⟩
    rw [he]; simp [ldA, hh]
  · have hn : 0 < n := by simp [hol, wid] at hh; omega
    obtain ⟨m, rfl⟩ := Int.eq_ofNat_of_zero_le (Int.le_of_lt hn)
    refine (load_mem R most sv PB f d a m w h ha hh).mono fun e w' ⟨he, hw⟩ => ⟨?_, hw⟩
    rw [he]; simp [ldA, hh]

theorem stR_in (f : Nat → Int) (a : Nat) (v : Int) : ∀ (n j : Nat), j < n → stR f a v n (a + j) = v / 2 ^ (8 * j) % 256
  | 0, j, h => by omega
  | n + 1, j, h => by
    simp only [stR, upd]
    by_cases e : j = n
    · subst e; rw [if_pos rfl]
    · rw [if_neg (by omega)]
      exact stR_in f a v n j (by omega)
theorem stR_out (f : Nat → Int) (a : Nat) (v : Int) (x : Nat) : ∀ (n : Nat), x < a ∨ a + n ≤ x → stR f a v n x = f x
  | 0, h => rfl
  | n + 1, h => by
    simp only [stR, upd]
    rw [if_neg (by omega)]
    exact stR_out f a v x n (by omega)
theorem ldv_congr {f g : Nat → Int} {a : Nat} : ∀ (n : Nat), (∀ j, j < n → f (a + j) = g (a + j)) → ldv f a n = ldv g a n
  | 0, h => rfl
  | n + 1, h => by
    simp only [ldv]
    rw [ldv_congr n (fun j hj => h j (by omega)), h n (by omega)]
theorem emod_step (v : Int) (m : Int) (hm : 0 < m) : v % (m * 256) = v % m + v / m % 256 * m := by
  have h1 : v / (m * 256) = v / m / 256 := Int.ediv_ediv_of_nonneg (Int.le_of_lt hm) |>.symm
  rw [Int.emod_def, Int.emod_def, Int.emod_def, h1]
  rw [Int.sub_mul]
  have e1 : m * 256 * (v / m / 256) = 256 * (v / m / 256) * m := by
    rw [Int.mul_comm m 256, Int.mul_assoc, Int.mul_comm m, Int.mul_assoc]
  have e2 : v / m * m = m * (v / m) := Int.mul_comm _ _
  rw [e1, e2]
  omega
theorem ldv_back (f : Nat → Int) (a : Nat) (v : Int) : ∀ (n m : Nat), n ≤ m → ldv (stR f a v m) a n = v % 2 ^ (8 * n)
  | 0, m, h => by simp [ldv]
  | n + 1, m, h => by
    simp only [ldv]
    rw [ldv_back f a v n m (by omega), stR_in f a v m n (by omega)]
    have e : (2 : Int) ^ (8 * (n + 1)) = 2 ^ (8 * n) * 256 := by rw [show 8 * (n + 1) = 8 * n + 8 by omega, Int.pow_add]; rfl
    rw [e, emod_step v _ (Int.pow_pos (by decide))]
theorem hol_byte {N a n i : Nat} (h : hol N a n = true) (hi : i < n) : hol N (a + i) 1 = true := by
  simp [hol, wid] at h ⊢
  omega
/-- What is loaded of it. -/
theorem ldA_back {N a n : Nat} (f : Nat → Int) (v : Int) (h : hol N a n = true) : ldA N (stR f a v n) a n = v % 2 ^ (8 * n) := by
  unfold ldA
  rw [if_pos h, Int.toNat_natCast, ldv_back f a v n n (Nat.le_refl _)]
theorem ldA_byte {N a n i : Nat} (f : Nat → Int) (v : Int) (h : hol N a n = true) (hi : i < n) : ldA N (stR f a v n) (a + i) 1 = v / 2 ^ (8 * i) % 256 := by
  unfold ldA
  rw [if_pos (hol_byte h hi)]
  show ldv _ _ 1 = _
  simp [ldv, stR_in f a v n i hi]
theorem ldA_out {N a n x : Nat} (f : Nat → Int) (v : Int) (h : x < a ∨ a + n ≤ x) : ldA N (stR f a v n) x 1 = ldA N f x 1 := by
  unfold ldA
  split
  · show ldv _ _ 1 = ldv _ _ 1
    simp [ldv, stR_out f a v x n h]
  · rfl

/-! The dirty pages. -/
theorem stM_iff (a : Nat) : ∀ (n i : Nat), stM (fun _ => false) a n i = true ↔ ∃ j, j < n ∧ (a + j) / 4096 = i
  | 0, i => by simp [stM]
  | n + 1, i => by
    simp only [stM, upd]
    by_cases e : i = (a + n) / 4096
    · rw [if_pos e]
      exact ⟨fun _ => ⟨n, by omega, e.symm⟩, fun _ => rfl⟩
    · rw [if_neg e, stM_iff a n i]
      constructor
      · rintro ⟨j, h1, h2⟩; exact ⟨j, by omega, h2⟩
      · rintro ⟨j, h1, h2⟩
        by_cases ej : j = n
        · subst ej; omega
        · exact ⟨j, by omega, h2⟩
theorem dl_one {d : Nat → Bool} {x : Nat} (h : ∀ i, d i = true ↔ i = x) : ∀ k, dl d k = if x < k then [(x : Int)] else []
  | 0 => by simp [dl]
  | k + 1 => by
    rw [dl_succ, dl_one h k]
    by_cases e : k = x
    · subst e
      rw [if_pos ((h k).2 rfl), if_neg (by omega), if_pos (by omega)]; rfl
    · rw [if_neg (fun q => e ((h k).1 q))]
      by_cases e2 : x < k
      · rw [if_pos e2, if_pos (by omega)]
      · rw [if_neg e2, if_neg (by omega)]
theorem dl_two {d : Nat → Bool} {x : Nat} (h : ∀ i, d i = true ↔ i = x ∨ i = x + 1) : ∀ k, dl d k = if x + 1 < k then [(x : Int), ((x + 1 : Nat) : Int)] else if x < k then [(x : Int)] else []
  | 0 => by simp [dl]
  | k + 1 => by
    rw [dl_succ, dl_two h k]
    by_cases e : k = x
    · subst e
      rw [if_pos ((h k).2 (.inl rfl)), if_neg (by omega), if_neg (by omega), if_neg (by omega), if_pos (by omega)]; rfl
    · by_cases e1 : k = x + 1
      · subst e1
        rw [if_pos ((h _).2 (.inr rfl)), if_neg (by omega), if_pos (by omega), if_pos (by omega)]; rfl
      · rw [if_neg (fun q => by have := (h k).1 q; omega)]
        by_cases e2 : x + 1 < k
        · rw [if_pos e2, if_pos (by omega)]
        · rw [if_neg e2, if_neg (show ¬ x + 1 < k + 1 by omega)]
          by_cases e3 : x < k
          · rw [if_pos e3, if_pos (by omega)]
          · rw [if_neg e3, if_neg (by omega)]
/-- The first and the last of them. -/
theorem dl_store {N a n : Nat} (hN : N ≤ 64) (h : hol N a n = true) : ∃ l : List Int, dl (stM (fun _ => false) a n) 64 = l ∧ 0 < l.length ∧ l.length ≤ 2 ∧ l.getD 0 0 = ((a / 4096 : Nat) : Int) ∧ l.getD (l.length - 1) 0 = (((a + n - 1) / 4096 : Nat) : Int) := by
  have hb : 0 < n ∧ n ≤ 8 ∧ a + n ≤ N * 4096 := by simp [hol, wid] at h; omega
  by_cases e : (a + n - 1) / 4096 = a / 4096
  · refine ⟨[((a / 4096 : Nat) : Int)], ?_, by simp, by simp, rfl, by rw [e]; rfl⟩
    rw [dl_one (x := a / 4096) (fun i => ?_), if_pos (by omega)]
    rw [stM_iff]
    constructor
    · rintro ⟨j, h1, h2⟩; omega
    · rintro rfl; exact ⟨0, by omega, rfl⟩
  · refine ⟨[((a / 4096 : Nat) : Int), ((a / 4096 + 1 : Nat) : Int)], ?_, by simp, by simp, rfl, ?_⟩
    · rw [dl_two (x := a / 4096) (fun i => ?_), if_pos (by omega)]
      rw [stM_iff]
      constructor
      · rintro ⟨j, h1, h2⟩; omega
      · rintro (rfl | rfl)
        · exact ⟨0, by omega, rfl⟩
        · exact ⟨n - 1, by omega, by omega⟩
    · show ((a / 4096 + 1 : Nat) : Int) = _
      congr 1; omega
theorem any_store {N a n : Nat} (hN : N ≤ 64) (h : hol N a n = true) : anyD (stM (fun _ => false) a n) = true := by
  have hb : 0 < n ∧ n ≤ 8 ∧ a + n ≤ N * 4096 := by simp [hol, wid] at h; omega
  unfold anyD
  rw [List.any_eq_true]
  exact ⟨a / 4096, by simp; omega, (stM_iff a n _).2 ⟨0, by omega, rfl⟩⟩
theorem any_none : anyD (fun _ => false) = false := by decide
end Go.Proofs.YtedkmfklobipaaaDoor
