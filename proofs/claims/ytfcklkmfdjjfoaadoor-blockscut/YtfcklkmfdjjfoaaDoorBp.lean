/-
  Code cut into segments, plainly. No Go in sight.
-/
import Derived.Test.YtfcklkmfdjjfoaaDoorGp
namespace Go.Proofs.YtfcklkmfdjjfoaaDoor
set_option linter.unusedVariables false

/-- A segment begins behind that opcode. -/
def cutB (c : Int) : Bool := decide (c = 0) || (decide (3 ≤ c) && decide (c ≤ 12))
theorem cutB_iff {c : Int} : cutB c = true ↔ c = 0 ∨ (3 ≤ c ∧ c ≤ 12) := by simp [cutB]

/-- pc begins a segment by what lies ahead of it. -/
def begB (O : Nat → Int) : Nat → Bool
  | 0 => true
  | k + 1 => cutB (O k)

/-- i is the end of an if among the first k. -/
def ifB (O : Nat → Int) (n i : Nat) : Nat → Bool
  | 0 => false
  | k + 1 => ifB O n i k || (decide (O k = 4) && decide (enF O n k = i))

theorem ifB_iff {O : Nat → Int} {n i : Nat} : ∀ {k : Nat}, ifB O n i k = true ↔ ∃ j, j < k ∧ O j = 4 ∧ enF O n j = i
  | 0 => by simp [ifB]
  | k + 1 => by
    simp only [ifB, Bool.or_eq_true, Bool.and_eq_true, decide_eq_true_eq, ifB_iff (k := k)]
    constructor
    · rintro (⟨j, h1, h2, h3⟩ | ⟨h2, h3⟩)
      · exact ⟨j, by omega, h2, h3⟩
      · exact ⟨k, by omega, h2, h3⟩
    · rintro ⟨j, h1, h2, h3⟩
      by_cases e : j = k
      · subst e; exact .inr ⟨h2, h3⟩
      · exact .inl ⟨j, by omega, h2, h3⟩

/-- The leaders that are known when the first k instructions were looked at. -/
def ldF (O : Nat → Int) (n k i : Nat) : Bool := (decide (i < k) && begB O i) || ifB O n i k
/-- A leader. -/
def leB (O : Nat → Int) (n i : Nat) : Bool := begB O i || ifB O n i n
theorem ldF_all {O : Nat → Int} {n i : Nat} (h : i < n) : ldF O n n i = leB O n i := by simp [ldF, leB, h]

/-- Round k, its first half: list[k] = list[k] || begins. -/
def lhF (O : Nat → Int) (n k i : Nat) : Bool := (decide (i < k + 1) && begB O i) || ifB O n i k
theorem lh_step (O : Nat → Int) (n k i : Nat) : lhF O n k i = if i = k then (ldF O n k k || begB O k) else ldF O n k i := by
  unfold lhF ldF
  by_cases e : i = k
  · subst e; simp [Bool.or_comm]
  · rw [if_neg e]
    by_cases h : i < k
    · simp [h, Nat.lt_succ_of_lt h]
    · have : ¬ i < k + 1 := by omega
      simp [h, this]
theorem ld_else {O : Nat → Int} {n k i : Nat} (h : O k ≠ 4) : ldF O n (k + 1) i = lhF O n k i := by
  simp [ldF, lhF, ifB, h]
theorem ld_if {O : Nat → Int} {n k j i : Nat} (h : O k = 4) (he : enF O n k = j) : ldF O n (k + 1) i = if i = j then true else lhF O n k i := by
  unfold ldF lhF
  simp only [ifB, h, he]
  by_cases e : i = j
  · subst e; simp
  · have : ¬ (j : Int) = (i : Int) := by omega
    simp [e, this]

/-- Only an end that lies behind. -/
theorem ifB_cut {O : Nat → Int} {n i : Nat} (h : Good O n) (hi : i ≤ n) : ifB O n i n = ifB O n i i := by
  rw [Bool.eq_iff_iff, ifB_iff, ifB_iff]
  constructor
  · rintro ⟨j, h1, h2, h3⟩
    obtain ⟨q, q1, q2, _⟩ := good_open h h1 (isO_iff.2 (by omega))
    exact ⟨j, by omega, h2, h3⟩
  · rintro ⟨j, h1, h2, h3⟩
    exact ⟨j, by omega, h2, h3⟩

/-- Where the segment of a pc begins. -/
def stF (L : Nat → Bool) : Nat → Nat
  | 0 => 0
  | k + 1 => if L (k + 1) = true ∨ k + 1 - stF L k = 16 then k + 1 else stF L k

theorem st_succ (L : Nat → Bool) (k : Nat) : stF L (k + 1) = if L (k + 1) = true ∨ k + 1 - stF L k = 16 then k + 1 else stF L k := rfl

theorem st_le (L : Nat → Bool) : ∀ k, stF L k ≤ k ∧ k - stF L k < 16
  | 0 => by simp [stF]
  | k + 1 => by
    have ih := st_le L k
    rw [st_succ]
    split
    · omega
    · next h => rw [not_or] at h; omega
theorem st_self (L : Nat → Bool) : ∀ k, stF L (stF L k) = stF L k
  | 0 => rfl
  | k + 1 => by
    have ih := st_self L k
    conv => lhs; arg 2; rw [st_succ]
    conv => rhs; rw [st_succ]
    split
    · next h => rw [st_succ, if_pos h]
    · exact ih
theorem st_lead {L : Nat → Bool} : ∀ {k}, L k = true → stF L k = k
  | 0, _ => rfl
  | k + 1, h => by rw [st_succ, if_pos (.inl h)]
/-- One that goes on. -/
theorem st_next {L : Nat → Bool} {k : Nat} (h : stF L (k + 1) ≠ k + 1) : stF L (k + 1) = stF L k ∧ L (k + 1) = false := by
  rw [st_succ] at h ⊢
  split
  · next h2 => rw [if_pos h2] at h; exact absurd rfl h
  · next h2 => rw [not_or] at h2; exact ⟨rfl, by simpa using h2.1⟩
theorem st_or (L : Nat → Bool) (k : Nat) : stF L (k + 1) = k + 1 ∨ stF L (k + 1) = stF L k := by
  rw [st_succ]; split
  · exact .inl rfl
  · exact .inr rfl
theorem st_on {L : Nat → Bool} {s b : Nat} (h1 : stF L b = s) (h2 : L (b + 1) = false) (h3 : b + 1 - s < 16) : stF L (b + 1) = s := by
  rw [st_succ]
  rw [if_neg (by rw [not_or]; exact ⟨by simp [h2], by omega⟩), h1]
theorem st_off {L : Nat → Bool} {s b : Nat} (h1 : stF L b = s) (h2 : L (b + 1) = true ∨ ¬ b + 1 - s < 16) : stF L (b + 1) = b + 1 := by
  have := st_le L b
  rw [st_succ]
  rw [if_pos]
  rcases h2 with h2 | h2
  · exact .inl h2
  · right; omega
/-- All between the beginning and it. -/
theorem st_mid {L : Nat → Bool} : ∀ {k q : Nat}, stF L k ≤ q → q ≤ k → stF L q = stF L k
  | 0, q, _, h => by
    have : q = 0 := by omega
    subst this; rfl
  | k + 1, q, h1, h2 => by
    by_cases e : q = k + 1
    · rw [e]
    rcases st_or L k with h | h
    · omega
    · rw [h] at h1 ⊢
      exact st_mid h1 (by omega)

/-- How many there are from p on that have the same S. -/
def lfG (S : Nat → Nat) (n p : Nat) : Nat → Nat → Nat
  | 0, k => k
  | f + 1, k => if p + k < n ∧ S (p + k) = S p then lfG S n p f (k + 1) else k
/-- How many instructions are left of a segment. -/
def lfF (S : Nat → Nat) (n p : Nat) : Nat := lfG S n p (n - p) 1

theorem lfG_eq {S : Nat → Nat} {n p k : Nat} (h1 : ∀ j, j < k → S (p + j) = S p) (h2 : p + k ≤ n) (h3 : p + k = n ∨ S (p + k) ≠ S p) :
    ∀ f q, q ≤ k → k - q ≤ f → lfG S n p f q = k
  | 0, q, a, b => by unfold lfG; omega
  | f + 1, q, a, b => by
    unfold lfG
    by_cases e : q = k
    · rw [if_neg]
      · exact e
      · rintro ⟨c, d⟩
        subst e
        rcases h3 with h3 | h3
        · omega
        · exact h3 d
    · rw [if_pos ⟨by omega, h1 q (by omega)⟩]
      exact lfG_eq h1 h2 h3 f (q + 1) (by omega) (by omega)
theorem lfF_eq {S : Nat → Nat} {n p k : Nat} (h0 : 1 ≤ k) (h1 : ∀ j, j < k → S (p + j) = S p) (h2 : p + k ≤ n) (h3 : p + k = n ∨ S (p + k) ≠ S p) : lfF S n p = k :=
  lfG_eq h1 h2 h3 _ _ h0 (by omega)
theorem lfG_spec {S : Nat → Nat} {n p : Nat} : ∀ f q, q + f = n - p + 1 → 1 ≤ q → p + q ≤ n → (∀ j, j < q → S (p + j) = S p) →
    1 ≤ lfG S n p f q ∧ (∀ j, j < lfG S n p f q → S (p + j) = S p) ∧ p + lfG S n p f q ≤ n ∧ (p + lfG S n p f q = n ∨ S (p + lfG S n p f q) ≠ S p)
  | 0, q, a, b, c, d => by omega
  | f + 1, q, a, b, c, d => by
    unfold lfG
    by_cases h : p + q < n ∧ S (p + q) = S p
    · rw [if_pos h]
      refine lfG_spec f (q + 1) (by omega) (by omega) (by omega) (fun j hj => ?_)
      by_cases e : j = q
      · subst e; exact h.2
      · exact d j (by omega)
    · rw [if_neg h]
      refine ⟨b, d, c, ?_⟩
      by_cases e : p + q = n
      · exact .inl e
      · exact .inr (fun x => h ⟨by omega, x⟩)
theorem lfF_spec {S : Nat → Nat} {n p : Nat} (hp : p < n) :
    1 ≤ lfF S n p ∧ (∀ j, j < lfF S n p → S (p + j) = S p) ∧ p + lfF S n p ≤ n ∧ (p + lfF S n p = n ∨ S (p + lfF S n p) ≠ S p) :=
  lfG_spec (n - p) 1 (by omega) (Nat.le_refl _) (by omega) (fun j hj => by
    have : j = 0 := by omega
    subst this; rfl)
/-- One step further. -/
theorem lfF_next {S : Nat → Nat} {n p : Nat} (hp : p + 1 < n) (h : S (p + 1) = S p) : lfF S n p = lfF S n (p + 1) + 1 := by
  obtain ⟨a, b, c, d⟩ := lfF_spec (S := S) hp
  refine lfF_eq (by omega) (fun j hj => ?_) (by omega) ?_
  · rcases j with _ | j
    · rfl
    · have e := b j (by omega)
      rw [show p + 1 + j = p + (j + 1) by omega] at e
      rw [e, h]
  · rcases d with d | d
    · left; omega
    · right; intro x; apply d
      rw [show p + 1 + lfF S n (p + 1) = p + (lfF S n (p + 1) + 1) by omega, x, h]
theorem lfF_stop {S : Nat → Nat} {n p : Nat} (hp : p < n) (h : p + 1 = n ∨ S (p + 1) ≠ S p) : lfF S n p = 1 :=
  lfF_eq (Nat.le_refl _) (fun j hj => by
    have : j = 0 := by omega
    subst this; rfl) (by omega) h

/-- The length that a segment has, from its beginning. -/
theorem lfF_whole {L : Nat → Bool} {n p : Nat} (hp : p < n) : lfF (stF L) n (stF L p) = p - stF L p + lfF (stF L) n p := by
  obtain ⟨a, b, c, d⟩ := lfF_spec (S := stF L) hp
  have hle := st_le L p
  have hs := st_self L p
  refine lfF_eq (by omega) (fun j hj => ?_) (by omega) ?_
  · rw [hs]
    by_cases h : stF L p + j ≤ p
    · exact st_mid (by omega) h
    · have e := b (stF L p + j - p) (by omega)
      rw [show p + (stF L p + j - p) = stF L p + j by omega] at e
      exact e
  · rw [hs, show stF L p + (p - stF L p + lfF (stF L) n p) = p + lfF (stF L) n p by omega]
    exact d
theorem lfF_sixteen {L : Nat → Bool} {n p : Nat} (hp : p < n) : p - stF L p + lfF (stF L) n p ≤ 16 := by
  obtain ⟨a, b, c, d⟩ := lfF_spec (S := stF L) hp
  have hle := st_le L p
  have h1 := b (lfF (stF L) n p - 1) (by omega)
  have h2 := st_le L (p + (lfF (stF L) n p - 1))
  omega
/-- Behind a segment another one begins. -/
theorem st_behind {L : Nat → Bool} {n p : Nat} (hp : p < n) (h : p + lfF (stF L) n p < n) : stF L (p + lfF (stF L) n p) = p + lfF (stF L) n p := by
  obtain ⟨a, b, c, d⟩ := lfF_spec (S := stF L) hp
  obtain ⟨k, hk⟩ : ∃ k, p + lfF (stF L) n p = k + 1 := ⟨p + lfF (stF L) n p - 1, by omega⟩
  rcases d with d | d
  · omega
  · rw [hk] at d ⊢
    rcases st_or L k with e | e
    · exact e
    · exfalso; apply d
      have e2 := b (lfF (stF L) n p - 1) (by omega)
      rw [show p + (lfF (stF L) n p - 1) = k by omega] at e2
      rw [e, e2]
end Go.Proofs.YtfcklkmfdjjfoaaDoor
