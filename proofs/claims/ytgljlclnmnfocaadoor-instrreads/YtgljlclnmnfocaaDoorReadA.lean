/-
  The walk over wire.ReadUvar: it answers as 'ruAt' says, and writes nothing.
-/
import Derived.Test.YtgljlclnmnfocaaDoorRows
import Derived.Test.YtgljlclnmnfocaaDoorPlain
import Derived.WalkKit
import Derived.WalkSpells
import Derived.WalkLawsBesides
namespace Go.Proofs.YtgljlclnmnfocaaDoor
open Go.RowKit
set_option linter.unusedVariables false

/-- A slice of bytes: its elements are 'zs'. -/
def Seg (w : World) (a : Option Addr) (n cap : Nat) (zs : List Int) : Prop :=
  zs.length = n ∧ n ≤ cap ∧ n ≤ 1099511627776 ∧ (∀ z ∈ zs, 0 ≤ z ∧ z ≤ 255) ∧
  (n = 0 ∨ ∃ b off, a = some ⟨b, off, none⟩ ∧ ∀ j, j < n → w.cell? ⟨b, off + j, none⟩ = some (.int .u8 (zs.getD j 0)))

/-- Three results. -/
def res3 (k : IntKind) (r : Int × Int × Int) : Value := .tuple #[.int k r.1, .int .i64 r.2.1, .int .i64 r.2.2]

theorem res3_mk (k : IntKind) (a b c : Int) (r : Int × Int × Int) (h : r = (a, b, c)) : Ending.returned (.tuple #[.int k a, .int .i64 b, .int .i64 c]) = .returned (res3 k r) := by subst h; rfl

theorem mask127 {c : Int} (h₀ : 0 ≤ c) (h₁ : c ≤ 255) : bits .and .u8 c 127 = c % 128 := bits_mask .u8 8 (by decide) wraps_u8 7 (by decide) c h₀ (by omega)
theorem top_no {c : Int} (h₀ : 0 ≤ c) (h₁ : c < 128) : bits .and .u8 c 128 = 0 := by
  rw [u8_and c 128 h₀ (by omega) (by decide) (by decide)]
  have := nat_bit 7 c.toNat
  simp only [Int.reduceToNat]
  rw [show (128 : Nat) = 2 ^ 7 from rfl, this]
  have : c.toNat / 2 ^ 7 = 0 := Nat.div_eq_of_lt (by simp only [Nat.reducePow]; omega)
  rw [this]; rfl
theorem top_yes {c : Int} (h₀ : 128 ≤ c) (h₁ : c ≤ 255) : bits .and .u8 c 128 = 128 := by
  rw [u8_and c 128 (by omega) (by omega) (by decide) (by decide)]
  have := nat_bit 7 c.toNat
  simp only [Int.reduceToNat]
  rw [show (128 : Nat) = 2 ^ 7 from rfl, this]
  simp only [Nat.reducePow]
  have : c.toNat / 128 = 1 := by omega
  rw [this]; rfl

theorem getD_range (zs : List Int) (hr : ∀ z ∈ zs, 0 ≤ z ∧ z ≤ 255) (j : Nat) : 0 ≤ zs[j]?.getD 0 ∧ zs[j]?.getD 0 ≤ 255 := by
  by_cases h : j < zs.length
  · simp only [List.getElem?_eq_getElem h, Option.getD_some]; exact hr _ (List.getElem_mem h)
  · simp only [List.getElem?_eq_none (by omega : zs.length ≤ j), Option.getD_none]; omega

set_option maxHeartbeats 1000000 in
theorem ru7_in (b off n cap p : Nat) (zs : List Int) (w : World) (hz : zs.length = n) (hn : n ≤ 1099511627776) (hp : p < n) (hcap : n ≤ cap)
    (hc : ∀ j, j < n → w.cell? ⟨b, off + j, none⟩ = some (.int .u8 (zs.getD j 0)))
    (hr : ∀ j : Nat, 0 ≤ zs[j]?.getD 0 ∧ zs[j]?.getD 0 ≤ 255) :
    Calls Tryd.prog 74 #[.slice (some ⟨b, off, none⟩) n cap, .int .i64 p] w fun e w' => e = .returned (res3 .u64 (ru (zs.drop p) 0 p 0)) ∧ w' = w := by
  have hp' : (p : Int) ≤ (n : Int) := by omega
  go_enter Tryd.func74, Tryd.ntmps74
  go_wp2
  go_loop [7, 18] (fun v i => ∃ (k : Nat) (V : Int), k ≤ n - p ∧ k ≤ 9 ∧ i = .int .i64 k ∧ v = .int .u64 V ∧ 0 ≤ V ∧ V < 128 ^ k ∧ ru (zs.drop p) 0 p 0 = ru (zs.drop (p + k)) k (p + k : Nat) V) (fun _ i => n - (intOf i).toNat)
  case atStart => exact ⟨0, 0, by omega, by omega, rfl, rfl, by omega, by decide, rfl⟩
  case round =>
    obtain ⟨k, V, hk, hk9, rfl, rfl, hV0, hV1, hd⟩ := hrel
    by_cases hlt : k < n - p
    · have hdr := drop_cons zs (p + k) (by omega)
      have hcell : w.cell? ⟨b, off + p + k, none⟩ = some (.int .u8 (zs[p + k]?.getD 0)) := by have := hc (p + k) (by omega); rw [Nat.add_assoc]; exact this
      have hrk := hr (p + k)
      clear hc hr
      generalize hgc : zs[p + k]?.getD 0 = c at *
      clear hgc
      obtain ⟨hc0, hc255⟩ := hrk
      have hd' : ru (zs.drop p) 0 p 0 = ru (c :: zs.drop (p + k + 1)) k (p + k : Nat) V := by rw [hd, hdr]
      have HD : Hid (ru (zs.drop p) 0 p 0 = ru (c :: zs.drop (p + k + 1)) k (p + k : Nat) V) := hd'
      have hmask := mask127 hc0 hc255
      have HV : Hid (V < 128 ^ k) := hV1
      clear hd hd' hdr hV1
      by_cases h9 : k = 9
      · subst h9
        by_cases h1 : 1 < c
        · go_wp2
          go_ret3
          exact ⟨res3_mk _ _ _ _ _ (by rw [HD.out]; simp [ru, h1]), rfl⟩
        · by_cases h0 : c = 0
          · subst h0
            have htop := top_no (c := 0) (by decide) (by decide)
            go_wp2
            go_ret3
            exact ⟨res3_mk _ _ _ _ _ (by rw [HD.out]; simp [ru]), rfl⟩
          · obtain rfl : c = 1 := by omega
            have htop := top_no (c := 1) (by decide) (by decide)
            have hor := or_top V hV0 HV.out
            go_wp2
            go_ret3
            exact ⟨res3_mk _ _ _ _ _ (by rw [HD.out]; simp [ru]), rfl⟩
      · have hk8 : k ≤ 8 := by omega
        have h9' : ¬ (k : Int) = 9 := by omega
        by_cases h128 : c < 128
        · have htop := top_no hc0 h128
          have hmm : c % 128 = c := by omega
          have hor := or_shift V c k hk8 hV0 HV.out hc0 h128
          by_cases h0 : c = 0
          · by_cases hk0 : 0 < k
            · subst h0
              go_wp2
              go_ret3
              exact ⟨res3_mk _ _ _ _ _ (by rw [HD.out]; simp [ru, h9, hk0]), rfl⟩
            · obtain rfl : k = 0 := by omega
              subst h0
              obtain rfl : V = 0 := by have := HV.out; simp at this; omega
              have hor0 : bits .or .u64 0 0 = 0 := by decide
              clear hor
              simp only [Nat.add_zero] at hcell
              go_wp2
              go_ret3
              exact ⟨res3_mk _ _ _ _ _ (by rw [HD.out]; simp [ru]), rfl⟩
          · have h0' : (c == 0) = false := by simp [h0]
            go_wp2
            go_ret3
            exact ⟨res3_mk _ _ _ _ _ (by rw [HD.out]; simp [ru, h9, h0, h128]), rfl⟩
        · have htop := top_yes (by omega : 128 ≤ c) hc255
          have hmm : c % 128 = c - 128 := by omega
          have hor := or_shift V (c - 128) k hk8 hV0 HV.out (by omega) (by omega)
          have hs : (128 : Int) ^ (k + 1) = 128 ^ k * 128 := Int.pow_succ _ _
          have hm0 : 0 ≤ (c - 128) * 128 ^ k := Int.mul_nonneg (by omega) (Int.le_of_lt (pow_pos k))
          have hm1 : (c - 128) * 128 ^ k ≤ 127 * 128 ^ k := Int.mul_le_mul_of_nonneg_right (by omega) (Int.le_of_lt (pow_pos k))
          have HS : Hid ((128 : Int) ^ (k + 1) = 128 ^ k * 128) := hs
          clear hs
          have hlo : 0 ≤ V + (c - 128) * 128 ^ k := by omega
          have hhi : Hid (V + (c - 128) * 128 ^ k < 128 ^ (k + 1)) := by have h1 := HV.out; show V + (c - 128) * 128 ^ k < 128 ^ (k + 1); rw [HS.out]; omega
          have HN : Hid (ru (zs.drop p) 0 p 0 = ru (zs.drop (p + (k + 1))) (k + 1) (p + (k + 1) : Nat) (V + (c - 128) * 128 ^ k)) := by
            have h1 := HD.out
            have hge : ¬ c = 0 := by omega
            simp only [ru, h9, hge, h128, false_and, if_false] at h1
            show ru (zs.drop p) 0 p 0 = _
            rw [h1, Nat.add_assoc]; congr 1
          clear hm0 hm1
          go_wp2
          refine ⟨⟨_, _, _, _, _, _, _, ⟨k + 1, by omega, by omega, rfl, _, rfl, hlo, hhi.out, HN.out⟩, rfl, rfl, rfl, rfl, rfl, rfl, by go_num⟩, ?_⟩
          simp [intOf]; omega
    · have hkn : k = n - p := by omega
      have hnil : zs.drop (p + k) = [] := List.drop_eq_nil_of_le (by omega)
      have HD : Hid (ru (zs.drop p) 0 p 0 = (0, 0, 10)) := by show ru (zs.drop p) 0 p 0 = _; rw [hd, hnil]; rfl
      clear hd hnil
      go_wp2
      go_ret3
      exact ⟨res3_mk _ _ _ _ _ HD.out, rfl⟩

set_option maxHeartbeats 1000000 in
/-- At the slice's end, an empty one's too. -/
theorem ru7_end (a : Option Addr) (n cap : Nat) (w : World) (hn : n ≤ 1099511627776) (hcap : n ≤ cap) :
    Calls Tryd.prog 74 #[.slice a n cap, .int .i64 n] w fun e w' => e = .returned (res3 .u64 (0, 0, 10)) ∧ w' = w := by
  go_enter Tryd.func74, Tryd.ntmps74
  go_wp2
  all_goals
    refine wp_loop_rounds 1 ?_
    rw [rounds_succ]
    go_wp2
    go_ret3
    exact ⟨rfl, rfl⟩

set_option maxHeartbeats 1000000 in
theorem ru7_out (a : Option Addr) (n cap : Nat) (p : Int) (w : World) (hn : n ≤ 1099511627776) (hp : p < 0 ∨ (n : Int) < p) :
    Calls Tryd.prog 74 #[.slice a n cap, .int .i64 p] w fun e w' => e = .returned (res3 .u64 (0, 0, 1)) ∧ w' = w := by
  rcases hp with hp | hp
  · have hp' : ¬ 0 ≤ p := by omega
    go_enter Tryd.func74, Tryd.ntmps74
    go_wp2
    go_ret3
    exact ⟨rfl, rfl⟩
  · have h0 : 0 ≤ p := by omega
    have hp' : ¬ p ≤ (n : Int) := by omega
    go_enter Tryd.func74, Tryd.ntmps74
    go_wp2
    go_ret3
    exact ⟨rfl, rfl⟩

/-- wire.ReadUvar, of whatever bytes, at whatever place. -/
theorem ru7 (a : Option Addr) (n cap : Nat) (zs : List Int) (p : Int) (w : World) (h : Seg w a n cap zs) :
    Calls Tryd.prog 74 #[.slice a n cap, .int .i64 p] w fun e w' => e = .returned (res3 .u64 (ruAt zs p)) ∧ w' = w := by
  obtain ⟨hz, hcap, hn, hr, ha⟩ := h
  unfold ruAt
  by_cases hp : p < 0 ∨ (zs.length : Int) < p
  · rw [if_pos hp]
    exact ru7_out a n cap p w hn (by omega)
  rw [if_neg hp]
  obtain ⟨p, rfl⟩ := Int.eq_ofNat_of_zero_le (by omega : 0 ≤ p)
  rw [Int.toNat_natCast]
  by_cases hpn : p < n
  · rcases ha with ha | ⟨b, off, rfl, hc⟩
    · omega
    · exact ru7_in b off n cap p zs w hz hn hpn hcap hc (getD_range zs hr)
  · obtain rfl : p = n := by omega
    rw [List.drop_eq_nil_of_le (by omega)]
    exact ru7_end a p cap w hn hcap
end Go.Proofs.YtgljlclnmnfocaaDoor
