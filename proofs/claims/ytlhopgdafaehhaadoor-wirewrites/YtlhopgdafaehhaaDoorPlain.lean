/-
  Plain facts on numbers and lists that the walks over package wire lean on: no Go in sight.
-/
import Derived.Laws.BitsAllLaws
namespace Go.Proofs.YtlhopgdafaehhaaDoor

/-- What the bytes read as, from the i-th on: the number, the place behind it, the error. -/
def ru : List Int → Nat → Int → Int → Int × Int × Int
  | [], _, _, _ => (0, 0, 10)
  | c :: l, i, p, v =>
    if i = 9 ∧ 1 < c then (0, 0, 11)
    else if c = 0 ∧ 0 < i then (0, 0, 12)
    else if c < 128 then (v + c * 128 ^ i, p + 1, 0)
    else ru l (i + 1) (p + 1) (v + (c - 128) * 128 ^ i)

/-- ReadUvar's answer. -/
def ruAt (zs : List Int) (p : Int) : Int × Int × Int :=
  if p < 0 ∨ (zs.length : Int) < p then (0, 0, 1) else ru (zs.drop p.toNat) 0 p 0

theorem pow_split (k : Nat) (hk : k ≤ 9) : k = 0 ∨ k = 1 ∨ k = 2 ∨ k = 3 ∨ k = 4 ∨ k = 5 ∨ k = 6 ∨ k = 7 ∨ k = 8 ∨ k = 9 := by omega

theorem pow_pos (k : Nat) : (0 : Int) < 128 ^ k := Int.pow_pos (by decide)

theorem pow_le (k : Nat) (hk : k ≤ 9) : (128 : Int) ^ k ≤ 9223372036854775808 := by
  rcases pow_split k hk with rfl | rfl | rfl | rfl | rfl | rfl | rfl | rfl | rfl | rfl <;> decide

theorem two_pow (k : Nat) : (2 : Int) ^ (7 * k) = 128 ^ k := by
  rw [Int.pow_mul]; rfl

/-- 'v | c << 7k' where v has 7k bits: the sum. -/
theorem or_shift (V c : Int) (k : Nat) (hk : k ≤ 8) (h0 : 0 ≤ V) (hV : V < 128 ^ k) (hc0 : 0 ≤ c) (hc : c < 128) :
    bits .or .u64 V (IntKind.u64.wrap (c * 2 ^ (7 * k))) = V + c * 128 ^ k := by
  obtain ⟨V, rfl⟩ := Int.eq_ofNat_of_zero_le h0
  obtain ⟨c, rfl⟩ := Int.eq_ofNat_of_zero_le hc0
  have hpn : ((128 ^ k : Nat) : Int) = (128 : Int) ^ k := by simp
  have hle := pow_le k (by omega)
  have hcc : (128 : Int) ^ k ≤ 72057594037927936 := by
    rcases pow_split k (by omega) with rfl | rfl | rfl | rfl | rfl | rfl | rfl | rfl | rfl | rfl <;> first | decide | omega
  have hmul : (c : Int) * 128 ^ k ≤ 127 * 72057594037927936 := Int.mul_le_mul (by omega) hcc (Int.le_of_lt (pow_pos k)) (by decide)
  have hmul0 : 0 ≤ (c : Int) * 128 ^ k := Int.mul_nonneg hc0 (Int.le_of_lt (pow_pos k))
  rw [two_pow, IntKind.wrap_u64, Int.emod_eq_of_lt hmul0 (by omega)]
  have hcast : (c : Int) * 128 ^ k = ((c * 128 ^ k : Nat) : Int) := by rw [Int.natCast_mul, hpn]
  rw [hcast] at hmul hmul0 ⊢
  rw [u64_or_nat V (c * 128 ^ k) (by omega) (by omega)]
  have hV' : V < 128 ^ k := by rw [← hpn] at hV; omega
  have h2 : (128 : Nat) ^ k = 2 ^ (7 * k) := by rw [Nat.pow_mul]
  rw [Nat.or_comm, nat_join (7 * k) (c * 128 ^ k) V (by rw [h2]; exact Nat.mul_mod_left _ _) (by rw [← h2]; exact hV')]
  omega

theorem or_top (V : Int) (h0 : 0 ≤ V) (hV : V < 128 ^ 9) : bits .or .u64 V 9223372036854775808 = V + 9223372036854775808 := by
  obtain ⟨V, rfl⟩ := Int.eq_ofNat_of_zero_le h0
  have e : (128 : Int) ^ 9 = 9223372036854775808 := by decide
  rw [e] at hV
  have := u64_or_nat V 9223372036854775808 (by omega) (by decide)
  rw [show (9223372036854775808 : Int) = ((9223372036854775808 : Nat) : Int) from rfl, this]
  rw [Nat.or_comm, nat_join 63 9223372036854775808 V (by decide) (by simpa using by omega)]
  omega

/-- The number is one of 64 bits. -/
theorem ru_range : ∀ (l : List Int) (i : Nat) (p v : Int), i ≤ 9 → 0 ≤ v → v < 128 ^ i → (∀ z ∈ l, 0 ≤ z ∧ z ≤ 255) → 0 ≤ p →
    0 ≤ (ru l i p v).1 ∧ (ru l i p v).1 < 18446744073709551616 ∧ 0 ≤ (ru l i p v).2.1 ∧ (ru l i p v).2.1 ≤ p + l.length ∧ 0 ≤ (ru l i p v).2.2 ∧ (ru l i p v).2.2 ≤ 12 ∧
    ((ru l i p v).2.2 = 0 → p < (ru l i p v).2.1) ∧ ((ru l i p v).2.2 ≠ 0 → (ru l i p v).1 = 0 ∧ (ru l i p v).2.1 = 0) := by
  intro l
  induction l with
  | nil => intro i p v _ _ _ _ hp; simp [ru]; omega
  | cons c l ih =>
    intro i p v hi h0 hv hz hp
    have hc := hz c (by simp)
    have hpp := pow_pos i
    have hle := pow_le i hi
    unfold ru
    by_cases h9 : i = 9 ∧ 1 < c
    · rw [if_pos h9]; simp; omega
    rw [if_neg h9]
    by_cases hl : c = 0 ∧ 0 < i
    · rw [if_pos hl]; simp; omega
    rw [if_neg hl]
    by_cases h128 : c < 128
    · rw [if_pos h128]
      have hm0 : 0 ≤ c * 128 ^ i := Int.mul_nonneg hc.1 (Int.le_of_lt hpp)
      have hm : c * 128 ^ i ≤ 9223372036854775808 := by
        by_cases e : i = 9
        · subst e
          have : c ≤ 1 := by omega
          have := Int.mul_le_mul_of_nonneg_right this (Int.le_of_lt hpp)
          omega
        · have hcc : (128 : Int) ^ i ≤ 72057594037927936 := by
            rcases pow_split i (by omega) with rfl | rfl | rfl | rfl | rfl | rfl | rfl | rfl | rfl | rfl <;> first | decide | omega
          have : c * 128 ^ i ≤ 128 * 72057594037927936 := Int.mul_le_mul (by omega) hcc (Int.le_of_lt hpp) (by decide)
          omega
      refine ⟨by omega, by simp only; omega, by simp only; omega, by simp only [List.length_cons]; omega, by simp, by simp, by simp only; omega, by simp⟩
    · rw [if_neg h128]
      have hi8 : i ≤ 8 := by omega
      have hs : (128 : Int) ^ (i + 1) = 128 ^ i * 128 := Int.pow_succ _ _
      have hm0 : 0 ≤ (c - 128) * 128 ^ i := Int.mul_nonneg (by omega) (Int.le_of_lt hpp)
      have hm : (c - 128) * 128 ^ i ≤ 127 * 128 ^ i := Int.mul_le_mul_of_nonneg_right (by omega) (Int.le_of_lt hpp)
      have := ih (i + 1) (p + 1) (v + (c - 128) * 128 ^ i) (by omega) (by omega) (by rw [hs]; omega) (fun z h => hz z (by simp [h])) (by omega)
      refine ⟨this.1, this.2.1, this.2.2.1, by have h4 := this.2.2.2.1; simp only [List.length_cons]; omega, this.2.2.2.2.1, this.2.2.2.2.2.1, fun h => by have h7 := this.2.2.2.2.2.2.1 h; omega, this.2.2.2.2.2.2.2⟩

theorem ruAt_range (zs : List Int) (p : Int) (hz : ∀ z ∈ zs, 0 ≤ z ∧ z ≤ 255) :
    0 ≤ (ruAt zs p).1 ∧ (ruAt zs p).1 < 18446744073709551616 ∧ 0 ≤ (ruAt zs p).2.1 ∧ (ruAt zs p).2.1 ≤ zs.length ∧ 0 ≤ (ruAt zs p).2.2 ∧ (ruAt zs p).2.2 ≤ 12 ∧
    ((ruAt zs p).2.2 = 0 → 0 ≤ p ∧ p < (ruAt zs p).2.1) ∧ ((ruAt zs p).2.2 ≠ 0 → (ruAt zs p).1 = 0 ∧ (ruAt zs p).2.1 = 0) := by
  unfold ruAt
  by_cases h : p < 0 ∨ (zs.length : Int) < p
  · rw [if_pos h]; simp
  rw [if_neg h]
  have := ru_range (zs.drop p.toNat) 0 p 0 (by omega) (by omega) (by decide) (fun z hz' => hz z (List.mem_of_mem_drop hz')) (by omega)
  refine ⟨this.1, this.2.1, this.2.2.1, ?_, this.2.2.2.2.1, this.2.2.2.2.2.1, fun h' => ⟨by omega, this.2.2.2.2.2.2.1 h'⟩, this.2.2.2.2.2.2.2⟩
  have h4 := this.2.2.2.1
  rw [List.length_drop] at h4
  omega

theorem drop_cons (zs : List Int) (j : Nat) (h : j < zs.length) : zs.drop j = zs[j]?.getD 0 :: zs.drop (j + 1) := by
  rw [List.drop_eq_getElem_cons h]; simp [h]

end Go.Proofs.YtlhopgdafaehhaaDoor
