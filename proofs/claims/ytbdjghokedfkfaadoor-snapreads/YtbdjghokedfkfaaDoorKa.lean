/-
  The walk over the document's own ReadUvar: it answers as 'ruAt' says, and writes nothing.
-/
import Derived.Test.YtbdjghokedfkfaaDoorJPd
namespace Go.Proofs.YtbdjghokedfkfaaDoor
open Go.RowKit
set_option linter.unusedVariables false

theorem wrap_in (x : Int) (h0 : 0 ≤ x) (h1 : x < 18446744073709551616) : IntKind.u64.wrap x = x := by
  rw [IntKind.wrap_u64]; exact Int.emod_eq_of_lt h0 h1

theorem add_mul (V c : Int) (k : Nat) (hk : k ≤ 8) (h0 : 0 ≤ V) (hV : V < 128 ^ k) (hc0 : 0 ≤ c) (hc : c < 128) :
    IntKind.u64.wrap (V + IntKind.u64.wrap (c * 128 ^ k)) = V + c * 128 ^ k := by
  have hcc : (128 : Int) ^ k ≤ 72057594037927936 := by
    rcases pow_split k (by omega) with rfl | rfl | rfl | rfl | rfl | rfl | rfl | rfl | rfl | rfl <;> first | decide | omega
  have hmul : c * 128 ^ k ≤ 127 * 72057594037927936 := Int.mul_le_mul (by omega) hcc (Int.le_of_lt (pow_pos k)) (by decide)
  have hmul0 : 0 ≤ c * 128 ^ k := Int.mul_nonneg hc0 (Int.le_of_lt (pow_pos k))
  rw [wrap_in (c * 128 ^ k) hmul0 (by omega), wrap_in _ (by omega) (by omega)]

theorem unit_up (k : Nat) (hk : k ≤ 8) : IntKind.u64.wrap (128 ^ k * 128) = 128 ^ (k + 1) := by
  have hs : (128 : Int) ^ (k + 1) = 128 ^ k * 128 := Int.pow_succ _ _
  have hle := pow_le (k + 1) (by omega)
  have hpp := pow_pos (k + 1)
  rw [← hs]
  exact wrap_in _ (by omega) (by omega)

set_option maxHeartbeats 2000000 in
theorem rru86_in (b off n cap p : Nat) (zs : List Int) (w : World) (hz : zs.length = n) (hn : n ≤ 1099511627776) (hp : p ≤ n) (hcap : n ≤ cap)
    (hc : ∀ j, j < n → w.cell? ⟨b, off + j, none⟩ = some (.int .u8 (zs.getD j 0)))
    (hr : ∀ j : Nat, 0 ≤ zs[j]?.getD 0 ∧ zs[j]?.getD 0 ≤ 255) :
    Calls Tryd.prog 86 #[.slice (some ⟨b, off, none⟩) n cap, .int .i64 p] w fun e w' => e = .returned (res3 .u64 (ru (zs.drop p) 0 p 0)) ∧ w' = w := by
  have hp' : (p : Int) ≤ (n : Int) := by omega
  go_enter Tryd.func86, Tryd.ntmps86
  go_wp2
  go_loop [7, 8, 9] (fun v u i => ∃ (k : Nat) (V : Int), k ≤ n - p ∧ k ≤ 9 ∧ i = .int .i64 k ∧ v = .int .u64 V ∧ u = .int .u64 (128 ^ k) ∧ 0 ≤ V ∧ V < 128 ^ k ∧ ru (zs.drop p) 0 p 0 = ru (zs.drop (p + k)) k (p + k : Nat) V) (fun _ _ i => 10 - (intOf i).toNat)
  case atStart => exact ⟨0, 0, by omega, by omega, rfl, rfl, rfl, by omega, by decide, rfl⟩
  case round =>
    obtain ⟨k, V, hk, hk9, rfl, rfl, rfl, hV0, hV1, hd⟩ := hrel
    by_cases hlt : k < n - p
    · have hdr := drop_cons zs (p + k) (by omega)
      have hcell : w.cell? ⟨b, off + (p + k), none⟩ = some (.int .u8 (zs[p + k]?.getD 0)) := hc (p + k) (by omega)
      have hrk := hr (p + k)
      clear hc hr
      generalize hgc : zs[p + k]?.getD 0 = c at *
      clear hgc
      obtain ⟨hc0, hc255⟩ := hrk
      have hd' : ru (zs.drop p) 0 p 0 = ru (c :: zs.drop (p + k + 1)) k (p + k : Nat) V := by rw [hd, hdr]
      have HD : Hid (ru (zs.drop p) 0 p 0 = ru (c :: zs.drop (p + k + 1)) k (p + k : Nat) V) := hd'
      have HV : Hid (V < 128 ^ k) := hV1
      clear hd hd' hdr hV1
      have hne : ((p : Int) + k == n) = false := by simp; omega
      by_cases h9 : k = 9
      · subst h9
        by_cases h1 : 1 < c
        · go_wp2
          go_ret3
          exact ⟨res3_mk _ _ _ _ _ (by rw [HD.out]; simp [ru, h1]), rfl⟩
        · by_cases h0 : c = 0
          · subst h0
            go_wp2
            go_ret3
            exact ⟨res3_mk _ _ _ _ _ (by rw [HD.out]; simp [ru]), rfl⟩
          · obtain rfl : c = 1 := by omega
            have e : (128 : Int) ^ 9 = 9223372036854775808 := by decide
            have hV9 : V < 9223372036854775808 := by have := HV.out; rw [e] at this; exact this
            have hw := wrap_in (V + 9223372036854775808) (by omega) (by omega)
            clear e
            go_wp2
            go_ret3
            exact ⟨res3_mk _ _ _ _ _ (by rw [HD.out]; simp [ru]), rfl⟩
      · have hk8 : k ≤ 8 := by omega
        have h9' : ((k : Int) == 9) = false := by simp; omega
        by_cases h128 : c < 128
        · have hmm : c % 128 = c := by omega
          by_cases h0 : c = 0
          · subst h0
            by_cases hk0 : 0 < k
            · go_wp2
              go_ret3
              exact ⟨res3_mk _ _ _ _ _ (by rw [HD.out]; simp [ru, h9, hk0]), rfl⟩
            · obtain rfl : k = 0 := by omega
              obtain rfl : V = 0 := by have := HV.out; simp at this; omega
              have hw0 : IntKind.u64.wrap 0 = 0 := by decide
              simp only [Nat.add_zero] at hcell
              go_wp2
              go_ret3
              exact ⟨res3_mk _ _ _ _ _ (by rw [HD.out]; simp [ru]), rfl⟩
          · have h0' : (c == 0) = false := by simp [h0]
            have hw := add_mul V c k hk8 hV0 HV.out hc0 h128
            go_wp2
            go_ret3
            exact ⟨res3_mk _ _ _ _ _ (by rw [HD.out]; simp [ru, h9, h0, h128]), rfl⟩
        · have hmm : c % 128 = c - 128 := by omega
          have h0' : (c == 0) = false := by simp; omega
          have hw := add_mul V (c - 128) k hk8 hV0 HV.out (by omega) (by omega)
          have hu := unit_up k hk8
          have hs : (128 : Int) ^ (k + 1) = 128 ^ k * 128 := Int.pow_succ _ _
          have hm0 : 0 ≤ (c - 128) * 128 ^ k := Int.mul_nonneg (by omega) (Int.le_of_lt (pow_pos k))
          have hm1 : (c - 128) * 128 ^ k ≤ 127 * 128 ^ k := Int.mul_le_mul_of_nonneg_right (by omega) (Int.le_of_lt (pow_pos k))
          have hlo : 0 ≤ V + (c - 128) * 128 ^ k := by omega
          have hhi : Hid (V + (c - 128) * 128 ^ k < 128 ^ (k + 1)) := by have h1 := HV.out; show V + (c - 128) * 128 ^ k < 128 ^ (k + 1); rw [hs]; omega
          have HN : Hid (ru (zs.drop p) 0 p 0 = ru (zs.drop (p + (k + 1))) (k + 1) (p + (k + 1) : Nat) (V + (c - 128) * 128 ^ k)) := by
            have h1 := HD.out
            have hge : ¬ c = 0 := by omega
            simp only [ru, h9, hge, h128, false_and, if_false] at h1
            show ru (zs.drop p) 0 p 0 = _
            rw [h1, Nat.add_assoc]; congr 1
          clear hm0 hm1 hs
          go_wp2
          go_round
          case rel => exact ⟨k + 1, _, by omega, by omega, by go_num, rfl, rfl, hlo, hhi.out, HN.out⟩
          case measure => simp [intOf]; omega
    · have hkn : k = n - p := by omega
      have hnil : zs.drop (p + k) = [] := List.drop_eq_nil_of_le (by omega)
      have HD : Hid (ru (zs.drop p) 0 p 0 = (0, 0, 10)) := by show ru (zs.drop p) 0 p 0 = _; rw [hd, hnil]; rfl
      have hne : ((p : Int) + k == n) = true := by simp; omega
      clear hd hnil hkn
      go_wp2
      go_ret3
      exact ⟨res3_mk _ _ _ _ _ HD.out, rfl⟩

set_option maxHeartbeats 1000000 in
/-- An empty slice. -/
theorem rru86_end (a : Option Addr) (cap : Nat) (w : World) :
    Calls Tryd.prog 86 #[.slice a 0 cap, .int .i64 0] w fun e w' => e = .returned (res3 .u64 (0, 0, 10)) ∧ w' = w := by
  go_enter Tryd.func86, Tryd.ntmps86
  go_wp2
  all_goals
    refine wp_loop_rounds 1 ?_
    rw [rounds_succ]
    go_wp2
    go_ret3
    exact ⟨rfl, rfl⟩

set_option maxHeartbeats 1000000 in
theorem rru86_out (a : Option Addr) (n cap : Nat) (p : Int) (w : World) (hn : n ≤ 1099511627776) (hp : p < 0 ∨ (n : Int) < p) :
    Calls Tryd.prog 86 #[.slice a n cap, .int .i64 p] w fun e w' => e = .returned (res3 .u64 (0, 0, 1)) ∧ w' = w := by
  rcases hp with hp | hp
  · go_enter Tryd.func86, Tryd.ntmps86
    go_wp2
    go_ret3
    exact ⟨rfl, rfl⟩
  · have h0 : ¬ p < 0 := by omega
    go_enter Tryd.func86, Tryd.ntmps86
    go_wp2
    go_ret3
    exact ⟨rfl, rfl⟩

/-- The document's ReadUvar, of whatever bytes, at whatever place. -/
theorem rru86 (a : Option Addr) (n cap : Nat) (zs : List Int) (p : Int) (w : World) (h : Seg w a n cap zs) :
    Calls Tryd.prog 86 #[.slice a n cap, .int .i64 p] w fun e w' => e = .returned (res3 .u64 (ruAt zs p)) ∧ w' = w := by
  obtain ⟨hz, hcap, hn, hr, ha⟩ := h
  unfold ruAt
  by_cases hp : p < 0 ∨ (zs.length : Int) < p
  · rw [if_pos hp]
    exact rru86_out a n cap p w hn (by omega)
  rw [if_neg hp]
  obtain ⟨p, rfl⟩ := Int.eq_ofNat_of_zero_le (by omega : 0 ≤ p)
  rw [Int.toNat_natCast]
  rcases ha with rfl | ⟨b, off, rfl, hc⟩
  · obtain rfl : p = 0 := by omega
    rw [List.drop_eq_nil_of_le (by omega)]
    exact rru86_end a cap w
  · exact rru86_in b off n cap p zs w hz hn (by omega) hcap hc (getD_range zs hr)
end Go.Proofs.YtbdjghokedfkfaaDoor
