/-
  Turned by program from the seat YtbdjghokedfkfaaDoor.
-/
import Derived.Laws.BitsAllLaws
import Derived.WalkKit
import Derived.WalkSpells
import Derived.WalkLawsBesides
import Derived.Test.YtbdjghokedfkfaaDoorAa
namespace Go.Proofs.YtbdjghokedfkfaaDoor
open Go.RowKit
set_option linter.unusedVariables false
set_option maxRecDepth 100000
/-- What the bytes read as, from the i-th on: the number, the place behind it, the error. -/
def ru : List Int → Nat → Int → Int → Int × Int × Int
  | [], _, _, _ => (0, 0, 10)
  | c :: l, i, p, v =>
    if i = 9 ∧ 1 < c then (0, 0, 11)
    else if c = 0 ∧ 0 < i then (0, 0, 12)
    else if c < 128 then (v + c * 128 ^ i, p + 1, 0)
    else ru l (i + 1) (p + 1) (v + (c - 128) * 128 ^ i)
/-- ReadUvar's answer. -/
def ruAt (zs : List Int) (p : Int) : Int × Int × Int :=
  if p < 0 ∨ (zs.length : Int) < p then (0, 0, 1) else ru (zs.drop p.toNat) 0 p 0
theorem pow_split (k : Nat) (hk : k ≤ 9) : k = 0 ∨ k = 1 ∨ k = 2 ∨ k = 3 ∨ k = 4 ∨ k = 5 ∨ k = 6 ∨ k = 7 ∨ k = 8 ∨ k = 9 := by omega
theorem pow_le (k : Nat) (hk : k ≤ 9) : (128 : Int) ^ k ≤ 9223372036854775808 := by
  rcases pow_split k hk with rfl | rfl | rfl | rfl | rfl | rfl | rfl | rfl | rfl | rfl <;> decide
theorem two_pow (k : Nat) : (2 : Int) ^ (7 * k) = 128 ^ k := by
  rw [Int.pow_mul]; rfl
/-- 'v | c << 7k' where v has 7k bits: the sum. -/
theorem or_shift (V c : Int) (k : Nat) (hk : k ≤ 8) (h0 : 0 ≤ V) (hV : V < 128 ^ k) (hc0 : 0 ≤ c) (hc : c < 128) :
    bits .or .u64 V (IntKind.u64.wrap (c * 2 ^ (7 * k))) = V + c * 128 ^ k := by
  obtain ⟨V, rfl⟩ := Int.eq_ofNat_of_zero_le h0
  obtain ⟨c, rfl⟩ := Int.eq_ofNat_of_zero_le hc0
  have hpn : ((128 ^ k : Nat) : Int) = (128 : Int) ^ k := by simp
  have hle := pow_le k (by omega)
  have hcc : (128 : Int) ^ k ≤ 72057594037927936 := by
    rcases pow_split k (by omega) with rfl | rfl | rfl | rfl | rfl | rfl | rfl | rfl | rfl | rfl <;> first | decide | omega
  have hmul : (c : Int) * 128 ^ k ≤ 127 * 72057594037927936 := Int.mul_le_mul (by omega) hcc (Int.le_of_lt (pow_pos k)) (by decide)
  have hmul0 : 0 ≤ (c : Int) * 128 ^ k := Int.mul_nonneg hc0 (Int.le_of_lt (pow_pos k))
  rw [two_pow, IntKind.wrap_u64, Int.emod_eq_of_lt hmul0 (by omega)]
  have hcast : (c : Int) * 128 ^ k = ((c * 128 ^ k : Nat) : Int) := by rw [Int.natCast_mul, hpn]
  rw [hcast] at hmul hmul0 ⊢
  rw [u64_or_nat V (c * 128 ^ k) (by omega) (by omega)]
  have hV' : V < 128 ^ k := by rw [← hpn] at hV; omega
  have h2 : (128 : Nat) ^ k = 2 ^ (7 * k) := by rw [Nat.pow_mul]
  rw [Nat.or_comm, nat_join (7 * k) (c * 128 ^ k) V (by rw [h2]; exact Nat.mul_mod_left _ _) (by rw [← h2]; exact hV')]
  omega
theorem or_top (V : Int) (h0 : 0 ≤ V) (hV : V < 128 ^ 9) : bits .or .u64 V 9223372036854775808 = V + 9223372036854775808 := by
  obtain ⟨V, rfl⟩ := Int.eq_ofNat_of_zero_le h0
  have e : (128 : Int) ^ 9 = 9223372036854775808 := by decide
  rw [e] at hV
  have := u64_or_nat V 9223372036854775808 (by omega) (by decide)
  rw [show (9223372036854775808 : Int) = ((9223372036854775808 : Nat) : Int) from rfl, this]
  rw [Nat.or_comm, nat_join 63 9223372036854775808 V (by decide) (by simpa using by omega)]
  omega
/-- The number is one of 64 bits. -/
theorem ru_range : ∀ (l : List Int) (i : Nat) (p v : Int), i ≤ 9 → 0 ≤ v → v < 128 ^ i → (∀ z ∈ l, 0 ≤ z ∧ z ≤ 255) → 0 ≤ p →
    0 ≤ (ru l i p v).1 ∧ (ru l i p v).1 < 18446744073709551616 ∧ 0 ≤ (ru l i p v).2.1 ∧ (ru l i p v).2.1 ≤ p + l.length ∧ 0 ≤ (ru l i p v).2.2 ∧ (ru l i p v).2.2 ≤ 12 ∧
    ((ru l i p v).2.2 = 0 → p < (ru l i p v).2.1) ∧ ((ru l i p v).2.2 ≠ 0 → (ru l i p v).1 = 0 ∧ (ru l i p v).2.1 = 0) := by
  intro l
  induction l with
  | nil => intro i p v _ _ _ _ hp; simp [ru]; omega
  | cons c l ih =>
    intro i p v hi h0 hv hz hp
    have hc := hz c (by simp)
    have hpp := pow_pos i
    have hle := pow_le i hi
    unfold ru
    by_cases h9 : i = 9 ∧ 1 < c
    · rw [if_pos h9]; simp; omega
    rw [if_neg h9]
    by_cases hl : c = 0 ∧ 0 < i
    · rw [if_pos hl]; simp; omega
    rw [if_neg hl]
    by_cases h128 : c < 128
    · rw [if_pos h128]
      have hm0 : 0 ≤ c * 128 ^ i := Int.mul_nonneg hc.1 (Int.le_of_lt hpp)
      have hm : c * 128 ^ i ≤ 9223372036854775808 := by
        by_cases e : i = 9
        · subst e
          have : c ≤ 1 := by omega
          have := Int.mul_le_mul_of_nonneg_right this (Int.le_of_lt hpp)
          omega
        · have hcc : (128 : Int) ^ i ≤ 72057594037927936 := by
            rcases pow_split i (by omega) with rfl | rfl | rfl | rfl | rfl | rfl | rfl | rfl | rfl | rfl <;> first | decide | omega
          have : c * 128 ^ i ≤ 128 * 72057594037927936 := Int.mul_le_mul (by omega) hcc (Int.le_of_lt hpp) (by decide)
          omega
      refine ⟨by omega, by simp only; omega, by simp only; omega, by simp only [List.length_cons]; omega, by simp, by simp, by simp only; omega, by simp⟩
    · rw [if_neg h128]
      have hi8 : i ≤ 8 := by omega
      have hs : (128 : Int) ^ (i + 1) = 128 ^ i * 128 := Int.pow_succ _ _
      have hm0 : 0 ≤ (c - 128) * 128 ^ i := Int.mul_nonneg (by omega) (Int.le_of_lt hpp)
      have hm : (c - 128) * 128 ^ i ≤ 127 * 128 ^ i := Int.mul_le_mul_of_nonneg_right (by omega) (Int.le_of_lt hpp)
      have := ih (i + 1) (p + 1) (v + (c - 128) * 128 ^ i) (by omega) (by omega) (by rw [hs]; omega) (fun z h => hz z (by simp [h])) (by omega)
      refine ⟨this.1, this.2.1, this.2.2.1, by have h4 := this.2.2.2.1; simp only [List.length_cons]; omega, this.2.2.2.2.1, this.2.2.2.2.2.1, fun h => by have h7 := this.2.2.2.2.2.2.1 h; omega, this.2.2.2.2.2.2.2⟩
theorem ruAt_range (zs : List Int) (p : Int) (hz : ∀ z ∈ zs, 0 ≤ z ∧ z ≤ 255) :
    0 ≤ (ruAt zs p).1 ∧ (ruAt zs p).1 < 18446744073709551616 ∧ 0 ≤ (ruAt zs p).2.1 ∧ (ruAt zs p).2.1 ≤ zs.length ∧ 0 ≤ (ruAt zs p).2.2 ∧ (ruAt zs p).2.2 ≤ 12 ∧
    ((ruAt zs p).2.2 = 0 → 0 ≤ p ∧ p < (ruAt zs p).2.1) ∧ ((ruAt zs p).2.2 ≠ 0 → (ruAt zs p).1 = 0 ∧ (ruAt zs p).2.1 = 0) := by
  unfold ruAt
  by_cases h : p < 0 ∨ (zs.length : Int) < p
  · rw [if_pos h]; simp
  rw [if_neg h]
  have := ru_range (zs.drop p.toNat) 0 p 0 (by omega) (by omega) (by decide) (fun z hz' => hz z (List.mem_of_mem_drop hz')) (by omega)
  refine ⟨this.1, this.2.1, this.2.2.1, ?_, this.2.2.2.2.1, this.2.2.2.2.2.1, fun h' => ⟨by omega, this.2.2.2.2.2.2.1 h'⟩, this.2.2.2.2.2.2.2⟩
  have h4 := this.2.2.2.1
  rw [List.length_drop] at h4
  omega
theorem drop_cons (zs : List Int) (j : Nat) (h : j < zs.length) : zs.drop j = zs[j]?.getD 0 :: zs.drop (j + 1) := by
  rw [List.drop_eq_getElem_cons h]; simp [h]
/-- Three results. -/
def res3 (k : IntKind) (r : Int × Int × Int) : Value := .tuple #[.int k r.1, .int .i64 r.2.1, .int .i64 r.2.2]
theorem res3_mk (k : IntKind) (a b c : Int) (r : Int × Int × Int) (h : r = (a, b, c)) : Ending.returned (.tuple #[.int k a, .int .i64 b, .int .i64 c]) = .returned (res3 k r) := by subst h; rfl
theorem mask127 {c : Int} (h₀ : 0 ≤ c) (h₁ : c ≤ 255) : bits .and .u8 c 127 = c % 128 := bits_mask .u8 8 (by decide) wraps_u8 7 (by decide) c h₀ (by omega)
theorem top_no {c : Int} (h₀ : 0 ≤ c) (h₁ : c < 128) : bits .and .u8 c 128 = 0 := by
  rw [u8_and c 128 h₀ (by omega) (by decide) (by decide)]
  have := nat_bit 7 c.toNat
  simp only [Int.reduceToNat]
  rw [show (128 : Nat) = 2 ^ 7 from rfl, this]
  have : c.toNat / 2 ^ 7 = 0 := Nat.div_eq_of_lt (by simp only [Nat.reducePow]; omega)
  rw [this]; rfl
theorem top_yes {c : Int} (h₀ : 128 ≤ c) (h₁ : c ≤ 255) : bits .and .u8 c 128 = 128 := by
  rw [u8_and c 128 (by omega) (by omega) (by decide) (by decide)]
  have := nat_bit 7 c.toNat
  simp only [Int.reduceToNat]
  rw [show (128 : Nat) = 2 ^ 7 from rfl, this]
  simp only [Nat.reducePow]
  have : c.toNat / 128 = 1 := by omega
  rw [this]; rfl
theorem getD_range (zs : List Int) (hr : ∀ z ∈ zs, 0 ≤ z ∧ z ≤ 255) (j : Nat) : 0 ≤ zs[j]?.getD 0 ∧ zs[j]?.getD 0 ≤ 255 := by
  by_cases h : j < zs.length
  · simp only [List.getElem?_eq_getElem h, Option.getD_some]; exact hr _ (List.getElem_mem h)
  · simp only [List.getElem?_eq_none (by omega : zs.length ≤ j), Option.getD_none]; omega
set_option maxHeartbeats 1000000 in
theorem ru7_in (b off n cap p : Nat) (zs : List Int) (w : World) (hz : zs.length = n) (hn : n ≤ 1099511627776) (hp : p < n) (hcap : n ≤ cap)
    (hc : ∀ j, j < n → w.cell? ⟨b, off + j, none⟩ = some (.int .u8 (zs.getD j 0)))
    (hr : ∀ j : Nat, 0 ≤ zs[j]?.getD 0 ∧ zs[j]?.getD 0 ≤ 255) :
    Calls Tryd.prog 95 #[.slice (some ⟨b, off, none⟩) n cap, .int .i64 p] w fun e w' => e = .returned (res3 .u64 (ru (zs.drop p) 0 p 0)) ∧ w' = w := by
  have hp' : (p : Int) ≤ (n : Int) := by omega
  go_enter Tryd.func95, Tryd.ntmps95
  go_wp2
  go_loop [7, 18] (fun v i => ∃ (k : Nat) (V : Int), k ≤ n - p ∧ k ≤ 9 ∧ i = .int .i64 k ∧ v = .int .u64 V ∧ 0 ≤ V ∧ V < 128 ^ k ∧ ru (zs.drop p) 0 p 0 = ru (zs.drop (p + k)) k (p + k : Nat) V) (fun _ i => n - (intOf i).toNat)
  case atStart => exact ⟨0, 0, by omega, by omega, rfl, rfl, by omega, by decide, rfl⟩
  case round =>
    obtain ⟨k, V, hk, hk9, rfl, rfl, hV0, hV1, hd⟩ := hrel
    by_cases hlt : k < n - p
    · have hdr := drop_cons zs (p + k) (by omega)
      have hcell : w.cell? ⟨b, off + p + k, none⟩ = some (.int .u8 (zs[p + k]?.getD 0)) := by have := hc (p + k) (by omega); rw [Nat.add_assoc]; exact this
      have hrk := hr (p + k)
      clear hc hr
      generalize hgc : zs[p + k]?.getD 0 = c at *
      clear hgc
      obtain ⟨hc0, hc255⟩ := hrk
      have hd' : ru (zs.drop p) 0 p 0 = ru (c :: zs.drop (p + k + 1)) k (p + k : Nat) V := by rw [hd, hdr]
      have HD : Hid (ru (zs.drop p) 0 p 0 = ru (c :: zs.drop (p + k + 1)) k (p + k : Nat) V) := hd'
      have hmask := mask127 hc0 hc255
      have HV : Hid (V < 128 ^ k) := hV1
      clear hd hd' hdr hV1
      by_cases h9 : k = 9
      · subst h9
        by_cases h1 : 1 < c
        · go_wp2
          go_ret3
          exact ⟨res3_mk _ _ _ _ _ (by rw [HD.out]; simp [ru, h1]), rfl⟩
        · by_cases h0 : c = 0
          · subst h0
            have htop := top_no (c := 0) (by decide) (by decide)
            go_wp2
            go_ret3
            exact ⟨res3_mk _ _ _ _ _ (by rw [HD.out]; simp [ru]), rfl⟩
          · obtain rfl : c = 1 := by omega
            have htop := top_no (c := 1) (by decide) (by decide)
            have hor := or_top V hV0 HV.out
            go_wp2
            go_ret3
            exact ⟨res3_mk _ _ _ _ _ (by rw [HD.out]; simp [ru]), rfl⟩
      · have hk8 : k ≤ 8 := by omega
        have h9' : ¬ (k : Int) = 9 := by omega
        by_cases h128 : c < 128
        · have htop := top_no hc0 h128
          have hmm : c % 128 = c := by omega
          have hor := or_shift V c k hk8 hV0 HV.out hc0 h128
          by_cases h0 : c = 0
          · by_cases hk0 : 0 < k
            · subst h0
              go_wp2
              go_ret3
              exact ⟨res3_mk _ _ _ _ _ (by rw [HD.out]; simp [ru, h9, hk0]), rfl⟩
            · obtain rfl : k = 0 := by omega
              subst h0
              obtain rfl : V = 0 := by have := HV.out; simp at this; omega
              have hor0 : bits .or .u64 0 0 = 0 := by decide
              clear hor
              simp only [Nat.add_zero] at hcell
              go_wp2
              go_ret3
              exact ⟨res3_mk _ _ _ _ _ (by rw [HD.out]; simp [ru]), rfl⟩
          · have h0' : (c == 0) = false := by simp [h0]
            go_wp2
            go_ret3
            exact ⟨res3_mk _ _ _ _ _ (by rw [HD.out]; simp [ru, h9, h0, h128]), rfl⟩
        · have htop := top_yes (by omega : 128 ≤ c) hc255
          have hmm : c % 128 = c - 128 := by omega
          have hor := or_shift V (c - 128) k hk8 hV0 HV.out (by omega) (by omega)
          have hs : (128 : Int) ^ (k + 1) = 128 ^ k * 128 := Int.pow_succ _ _
          have hm0 : 0 ≤ (c - 128) * 128 ^ k := Int.mul_nonneg (by omega) (Int.le_of_lt (pow_pos k))
          have hm1 : (c - 128) * 128 ^ k ≤ 127 * 128 ^ k := Int.mul_le_mul_of_nonneg_right (by omega) (Int.le_of_lt (pow_pos k))
          have HS : Hid ((128 : Int) ^ (k + 1) = 128 ^ k * 128) := hs
          clear hs
          have hlo : 0 ≤ V + (c - 128) * 128 ^ k := by omega
          have hhi : Hid (V + (c - 128) * 128 ^ k < 128 ^ (k + 1)) := by have h1 := HV.out; show V + (c - 128) * 128 ^ k < 128 ^ (k + 1); rw [HS.out]; omega
          have HN : Hid (ru (zs.drop p) 0 p 0 = ru (zs.drop (p + (k + 1))) (k + 1) (p + (k + 1) : Nat) (V + (c - 128) * 128 ^ k)) := by
            have h1 := HD.out
            have hge : ¬ c = 0 := by omega
            simp only [ru, h9, hge, h128, false_and, if_false] at h1
            show ru (zs.drop p) 0 p 0 = _
            rw [h1, Nat.add_assoc]; congr 1
          clear hm0 hm1
          go_wp2
          refine ⟨⟨_, _, _, _, _, _, _, ⟨k + 1, by omega, by omega, rfl, _, rfl, hlo, hhi.out, HN.out⟩, rfl, rfl, rfl, rfl, rfl, rfl, by go_num⟩, ?_⟩
          simp [intOf]; omega
    · have hkn : k = n - p := by omega
      have hnil : zs.drop (p + k) = [] := List.drop_eq_nil_of_le (by omega)
      have HD : Hid (ru (zs.drop p) 0 p 0 = (0, 0, 10)) := by show ru (zs.drop p) 0 p 0 = _; rw [hd, hnil]; rfl
      clear hd hnil
      go_wp2
      go_ret3
      exact ⟨res3_mk _ _ _ _ _ HD.out, rfl⟩
set_option maxHeartbeats 1000000 in
/-- At the slice's end, an empty one's too. -/
theorem ru7_end (a : Option Addr) (n cap : Nat) (w : World) (hn : n ≤ 1099511627776) (hcap : n ≤ cap) :
    Calls Tryd.prog 95 #[.slice a n cap, .int .i64 n] w fun e w' => e = .returned (res3 .u64 (0, 0, 10)) ∧ w' = w := by
  go_enter Tryd.func95, Tryd.ntmps95
  go_wp2
  all_goals
    refine wp_loop_rounds 1 ?_
    rw [rounds_succ]
    go_wp2
    go_ret3
    exact ⟨rfl, rfl⟩
set_option maxHeartbeats 1000000 in
theorem ru7_out (a : Option Addr) (n cap : Nat) (p : Int) (w : World) (hn : n ≤ 1099511627776) (hp : p < 0 ∨ (n : Int) < p) :
    Calls Tryd.prog 95 #[.slice a n cap, .int .i64 p] w fun e w' => e = .returned (res3 .u64 (0, 0, 1)) ∧ w' = w := by
  rcases hp with hp | hp
  · have hp' : ¬ 0 ≤ p := by omega
    go_enter Tryd.func95, Tryd.ntmps95
    go_wp2
    go_ret3
    exact ⟨rfl, rfl⟩
  · have h0 : 0 ≤ p := by omega
    have hp' : ¬ p ≤ (n : Int) := by omega
    go_enter Tryd.func95, Tryd.ntmps95
    go_wp2
    go_ret3
    exact ⟨rfl, rfl⟩
/-- wire.ReadUvar, of whatever bytes, at whatever place. -/
theorem ru7 (a : Option Addr) (n cap : Nat) (zs : List Int) (p : Int) (w : World) (h : Seg w a n cap zs) :
    Calls Tryd.prog 95 #[.slice a n cap, .int .i64 p] w fun e w' => e = .returned (res3 .u64 (ruAt zs p)) ∧ w' = w := by
  obtain ⟨hz, hcap, hn, hr, ha⟩ := h
  unfold ruAt
  by_cases hp : p < 0 ∨ (zs.length : Int) < p
  · rw [if_pos hp]
    exact ru7_out a n cap p w hn (by omega)
  rw [if_neg hp]
  obtain ⟨p, rfl⟩ := Int.eq_ofNat_of_zero_le (by omega : 0 ≤ p)
  rw [Int.toNat_natCast]
  by_cases hpn : p < n
  · rcases ha with ha | ⟨b, off, rfl, hc⟩
    · omega
    · exact ru7_in b off n cap p zs w hz hn hpn hcap hc (getD_range zs hr)
  · obtain rfl : p = n := by omega
    rw [List.drop_eq_nil_of_le (by omega)]
    exact ru7_end a p cap w hn hcap
theorem uv_len (f : Nat) : ∀ v, 1 ≤ (uv f v).length ∧ (uv f v).length ≤ f + 1 := by
  induction f with
  | zero => intro v; simp [uv]
  | succ f ih =>
    intro v
    by_cases h : v < 128
    · simp [uv, h]
    · have := ih (v / 128)
      simp only [uv, h, if_false, List.length_cons]; omega
/-- What is written is read, whatever stands behind. -/
theorem ru_uv (rest : List Int) : ∀ (f k : Nat) (p V acc : Int), f + k = 9 → 0 ≤ V → V * 128 ^ k < 18446744073709551616 → (V ≠ 0 ∨ k = 0) →
    ru (uv f V ++ rest) k p acc = (acc + V * 128 ^ k, p + (uv f V).length, 0) := by
  intro f
  induction f with
  | zero =>
    intro k p V acc hk h0 hroom hne
    obtain rfl : k = 9 := by omega
    have e9 : (128 : Int) ^ 9 = 9223372036854775808 := by decide
    have hV : V ≤ 1 := by rw [e9] at hroom; omega
    have h1 : ¬ 1 < V := by omega
    have h2 : ¬ V = 0 := by omega
    have h3 : V < 128 := by omega
    simp [uv, ru, h1, h2, h3]
  | succ f ih =>
    intro k p V acc hk h0 hroom hne
    have hk9 : ¬ (k = 9) := by omega
    by_cases h : V < 128
    · have h2 : ¬ (V = 0 ∧ 0 < k) := by omega
      simp only [uv, h, if_true, List.cons_append, List.nil_append, ru, h2, hk9, false_and, if_false, List.length_cons, List.length_nil]
      simp
    · have hc0 : ¬ (V % 128 + 128 = 0) := by omega
      have hc1 : ¬ (V % 128 + 128 < 128) := by omega
      have step := ih (k + 1) (p + 1) (V / 128) (acc + (V % 128) * 128 ^ k) (by omega) (by omega) (room_up V k hroom h0) (by omega)
      have hs : (128 : Int) ^ (k + 1) = 128 * 128 ^ k := by rw [Int.pow_succ, Int.mul_comm]
      have e1 : V % 128 + 128 - 128 = V % 128 := by omega
      have e2 : V % 128 * 128 ^ k + V / 128 * (128 * 128 ^ k) = V * 128 ^ k := by
        rw [← Int.mul_assoc, ← Int.add_mul]
        congr 1
        omega
      simp only [uv, h, if_false, List.cons_append, ru, hk9, hc0, hc1, false_and, List.length_cons]
      rw [e1, step, hs]
      congr 1
      · omega
      · congr 1
        simp only [Int.natCast_add]
        omega
/-- A beginning of it has no end. -/
theorem ru_cut : ∀ (f k i : Nat) (p V acc : Int), f + k = 9 → 0 ≤ V → V * 128 ^ k < 18446744073709551616 → i < (uv f V).length →
    ru ((uv f V).take i) k p acc = (0, 0, 10) := by
  intro f
  induction f with
  | zero =>
    intro k i p V acc hk h0 hroom hi
    simp [uv] at hi
    subst hi
    simp [ru]
  | succ f ih =>
    intro k i p V acc hk h0 hroom hi
    have hk9 : ¬ (k = 9) := by omega
    by_cases h : V < 128
    · simp [uv, h] at hi
      subst hi
      simp [ru]
    · cases i with
      | zero => simp [ru]
      | succ i =>
        have hc0 : ¬ (V % 128 + 128 = 0) := by omega
        have hc1 : ¬ (V % 128 + 128 < 128) := by omega
        simp only [uv, h, if_false, List.length_cons] at hi
        simp only [uv, h, if_false, List.take_succ_cons, ru, hk9, hc0, hc1, false_and]
        exact ih (k + 1) i (p + 1) (V / 128) _ (by omega) (by omega) (room_up V k hroom h0) (by omega)
/-- What is read is written so. -/
theorem uv_ru : ∀ (l : List Int) (f k : Nat) (p acc v q : Int), f + k = 9 → (∀ z ∈ l, 0 ≤ z ∧ z ≤ 255) → ru l k p acc = (v, q, 0) →
    ∃ (V : Int) (m : Nat), q = p + m ∧ m ≤ l.length ∧ l.take m = uv f V ∧ v = acc + V * 128 ^ k ∧ 0 ≤ V ∧ (V ≠ 0 ∨ k = 0) := by
  intro l
  induction l with
  | nil => intro f k p acc v q _ _ h; simp [ru] at h
  | cons c l ih =>
    intro f k p acc v q hf hz h
    have hc := hz c (by simp)
    unfold ru at h
    by_cases h9 : k = 9 ∧ 1 < c
    · rw [if_pos h9] at h; simp at h
    rw [if_neg h9] at h
    by_cases hl : c = 0 ∧ 0 < k
    · rw [if_pos hl] at h; simp at h
    rw [if_neg hl] at h
    by_cases h128 : c < 128
    · rw [if_pos h128] at h
      simp only [Prod.mk.injEq] at h
      refine ⟨c, 1, by omega, by simp, ?_, by omega, hc.1, by omega⟩
      cases f with
      | zero => simp [uv]
      | succ f => simp [uv, h128]
    · rw [if_neg h128] at h
      cases f with
      | zero => omega
      | succ f =>
        obtain ⟨V, m, e1, e2, e3, e4, e5, e6⟩ := ih f (k + 1) (p + 1) _ v q (by omega) (fun z h => hz z (by simp [h])) h
        have hs : (128 : Int) ^ (k + 1) = 128 * 128 ^ k := by rw [Int.pow_succ, Int.mul_comm]
        have hn : ¬ (c - 128 + 128 * V < 128) := by omega
        have hm : (c - 128 + 128 * V) % 128 + 128 = c := by omega
        have hd : (c - 128 + 128 * V) / 128 = V := by omega
        refine ⟨c - 128 + 128 * V, m + 1, by omega, by simp; omega, ?_, ?_, by omega, by omega⟩
        · simp only [uv, hn, if_false, hm, hd, List.take_succ_cons, e3]
        · rw [e4, hs, Int.add_mul, ← Int.mul_assoc, Int.mul_comm V 128]
          omega
theorem uvar_len (v : Int) : 1 ≤ (uvar v).length ∧ (uvar v).length ≤ 10 := uv_len 9 v
/-- Read as itself, to its end, whatever stands ahead and behind. -/
theorem read_back (A R : List Int) (v : Int) (h0 : 0 ≤ v) (h1 : v < 18446744073709551616) : ruAt (A ++ uvar v ++ R) A.length = (v, (A.length : Int) + (uvar v).length, 0) := by
  unfold ruAt
  rw [if_neg (by simp; omega), Int.toNat_natCast, List.append_assoc, List.drop_left]
  rw [uvar, ru_uv R 9 0 A.length v 0 (by omega) h0 (by simpa using h1) (.inr rfl)]
  simp
theorem read_cut (A : List Int) (v : Int) (i : Nat) (h0 : 0 ≤ v) (h1 : v < 18446744073709551616) (hi : i < (uvar v).length) : ruAt (A ++ (uvar v).take i ++ []) A.length = (0, 0, 10) := by
  unfold ruAt
  rw [if_neg (by simp; omega), Int.toNat_natCast, List.append_assoc, List.drop_left, List.append_nil]
  exact ru_cut 9 0 i A.length v 0 (by omega) h0 (by simpa using h1) hi
theorem read_same (zs : List Int) (p v q : Int) (hz : ∀ z ∈ zs, 0 ≤ z ∧ z ≤ 255) (h : ruAt zs p = (v, q, 0)) : (zs.drop p.toNat).take (q - p).toNat = uvar v ∧ 0 ≤ v ∧ v < 18446744073709551616 ∧ 0 ≤ p ∧ p < q ∧ q ≤ zs.length := by
  have hr := ruAt_range zs p hz
  rw [h] at hr
  simp only at hr
  obtain ⟨r0, r1, _, r3, _, _, r6, _⟩ := hr
  have r6 := r6 trivial
  unfold ruAt at h
  rw [if_neg (by omega)] at h
  obtain ⟨V, m, e1, e2, e3, e4, _, _⟩ := uv_ru (zs.drop p.toNat) 9 0 p 0 v q (by omega) (fun z h => hz z (List.mem_of_mem_drop h)) h
  have e : (q - p).toNat = m := by omega
  have ev : v = V := by simpa using e4
  rw [e, e3, ev]
  exact ⟨rfl, by omega, by omega, r6.1, r6.2, r3⟩
end Go.Proofs.YtbdjghokedfkfaaDoor
