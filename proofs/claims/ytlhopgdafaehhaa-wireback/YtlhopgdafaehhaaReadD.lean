/-
  The walks over ReadText, the program's and the document's: both answer as one plain function says, and write nothing.
-/
import Derived.Test.YtlhopgdafaehhaaReadC
namespace Go.Proofs.Ytlhopgdafaehhaa
open Go.RowKit
set_option linter.unusedVariables false

/-- ReadText's answer. -/
def rtAt (zs : List Int) (p m : Int) : List Int × Int × Int :=
  if (rbAt zs p m 13).2.2 ≠ 0 then ([], 0, (rbAt zs p m 13).2.2)
  else if (zs.length : Int) - (rbAt zs p m 13).2.1 < (rbAt zs p m 13).1 then ([], 0, 10)
  else ((zs.drop (rbAt zs p m 13).2.1.toNat).take (rbAt zs p m 13).1.toNat, (rbAt zs p m 13).2.1 + (rbAt zs p m 13).1, 0)

def resT (r : List Int × Int × Int) : Value := .tuple #[.string (strOfNums r.1), .int .i64 r.2.1, .int .i64 r.2.2]

theorem resT_mk (s : ByteArray) (a b c : Int) (l : List Int) (h : s = strOfNums l) : Ending.returned (.tuple #[.string s, .int .i64 b, .int .i64 c]) = .returned (resT (l, b, c)) := by subst h; rfl

/-- The number and the place that readBounded answers. -/
theorem rbAt_range (zs : List Int) (p m x : Int) (hz : ∀ z ∈ zs, 0 ≤ z ∧ z ≤ 255) (hx : x ≠ 0) :
    0 ≤ (rbAt zs p m x).1 ∧ ((rbAt zs p m x).2.2 = 0 → (rbAt zs p m x).1 ≤ m) ∧ 0 ≤ (rbAt zs p m x).2.1 ∧ (rbAt zs p m x).2.1 ≤ zs.length ∧ ((rbAt zs p m x).2.2 = 0 → 0 ≤ p ∧ p < (rbAt zs p m x).2.1) := by
  have h := ruAt_range zs p hz
  unfold rbAt
  by_cases h1 : p < 0 ∨ (zs.length : Int) < p ∨ m < 0
  · rw [if_pos h1]; simp
  rw [if_neg h1]
  by_cases h2 : (ruAt zs p).2.2 ≠ 0
  · rw [if_pos h2]; simp; exact ⟨fun e => absurd e h2, fun e => absurd e h2⟩
  rw [if_neg h2]
  by_cases h3 : m < (ruAt zs p).1
  · rw [if_pos h3]; simp; exact ⟨fun e => absurd e hx, fun e => absurd e hx⟩
  rw [if_neg h3]
  refine ⟨h.1, fun _ => by simp only; omega, h.2.2.1, h.2.2.2.1, fun _ => h.2.2.2.2.2.2.1 (by simpa using h2)⟩

/-- Where 20 stands for 'above', 13 stands in the other. -/
theorem rbAt_two (zs : List Int) (p m : Int) (hz : ∀ z ∈ zs, 0 ≤ z ∧ z ≤ 255) :
    ((rbAt zs p m 20).2.2 = 20 ∧ (rbAt zs p m 13).2.2 = 13) ∨ ((rbAt zs p m 20).2.2 ≠ 20 ∧ rbAt zs p m 13 = rbAt zs p m 20) := by
  have h := ruAt_range zs p hz
  unfold rbAt
  by_cases h1 : p < 0 ∨ (zs.length : Int) < p ∨ m < 0
  · rw [if_pos h1, if_pos h1]; simp
  rw [if_neg h1, if_neg h1]
  by_cases h2 : (ruAt zs p).2.2 ≠ 0
  · rw [if_pos h2]; simp [h2]; omega
  rw [if_neg h2, if_neg h2]
  by_cases h3 : m < (ruAt zs p).1
  · rw [if_pos h3, if_pos h3]; simp
  rw [if_neg h3, if_neg h3]
  simp

/-- 'string(b[q:q+u])'. -/
theorem conv_at (w : World) (b off n cap : Nat) (zs : List Int) (q u : Nat) (hz : zs.length = n) (hq : q + u ≤ n)
    (hc : ∀ j, j < n → w.cell? ⟨b, off + j, none⟩ = some (.int .u8 (zs.getD j 0))) (c' : Nat) :
    (convert 22 9 (.slice (some ⟨b, off + q, none⟩) u c')).run Try.prog w = .ok (.string (strOfNums ((zs.drop q).take u))) w := by
  refine run_convert_bytes_arg w 22 5 Try.underlying22 Try.underlying5 b (off + q) u c' ((zs.drop q).take u) (by simp; omega) ?_ 9 Try.underlying9
  intro i hi
  have := hc (q + i) (by omega)
  rw [Nat.add_assoc, this]
  simp [hi]

theorem conv_zero (w : World) (b off c : Nat) (zs : List Int) :
    (convert 22 9 (.slice (some ⟨b, off, none⟩) 0 c)).run Try.prog w = .ok (.string (strOfNums (zs.take 0))) w :=
  run_convert_bytes_arg w 22 5 Try.underlying22 Try.underlying5 b off 0 c (zs.take 0) (by simp) (fun i hi => absurd hi (by omega)) 9 Try.underlying9

set_option maxHeartbeats 1000000 in
/-- wire.ReadText. -/
theorem rt13 (a : Option Addr) (n cap : Nat) (zs : List Int) (p m : Int) (w : World) (h : Seg w a n cap zs) (hm : m < 9223372036854775808) :
    Calls Try.prog 13 #[.slice a n cap, .int .i64 p, .int .i64 m] w fun e w' => e = .returned (resT (rtAt zs p m)) ∧ w' = w := by
  have hg := rbAt_range zs p m 13 h.2.2.2.1 (by decide)
  have hc := rb23 a n cap zs p m 13 w h hm
  obtain ⟨hz, hcap, hn, hr, ha⟩ := h
  unfold rtAt
  generalize rbAt zs p m 13 = r at *
  obtain ⟨u, q, x⟩ := r
  simp only [res3] at hc hg ⊢
  have HC := hid hc
  clear hc hr
  obtain ⟨h0, h1, h2, h3, h4⟩ := hg
  by_cases hx : x = 0
  · subst hx
    have g1 := h1 rfl
    have g4 := h4 rfl
    clear h1 h4
    rw [if_neg (by simp)]
    obtain ⟨u, rfl⟩ := Int.eq_ofNat_of_zero_le h0
    obtain ⟨q, rfl⟩ := Int.eq_ofNat_of_zero_le h2
    have hlen : (zs.length : Int) = n := by omega
    rcases ha with ha | ⟨b, off, rfl, hcell⟩
    · omega
    by_cases hb : (zs.length : Int) - q < u
    · rw [if_pos hb]
      rw [hlen] at hb h3
      clear hcell g4 hz hlen
      go_enter Try.func13, Try.ntmps13
      go_wp2_with (first | (go_at_call 23; refine HC.out.mono ?_; rintro e w' ⟨rfl, rfl⟩))
      go_ret3
      exact ⟨rfl, rfl⟩
    · rw [if_neg hb]
      rw [Int.toNat_natCast, Int.toNat_natCast]
      have hv := conv_at w b off n cap zs q u hz (by omega) hcell
      rw [hlen] at hb h3
      by_cases hqc : q = cap
      · obtain rfl : u = 0 := by omega
        have hv0 : ∀ c, (convert 22 9 (.slice (some ⟨b, off, none⟩) 0 c)).run Try.prog w = .ok (.string (strOfNums ((zs.drop q).take 0))) w := fun c => conv_zero w b off c _
        subst hqc
        clear hcell hv g4
        go_enter Try.func13, Try.ntmps13
        go_wp2_with (first | (go_at_call 23; refine HC.out.mono ?_; rintro e w' ⟨rfl, rfl⟩))
        go_ret3
        exact ⟨rfl, rfl⟩
      · have hv' := hv (cap - q)
        clear hcell hv g4
        go_enter Try.func13, Try.ntmps13
        go_wp2_with (first | (go_at_call 23; refine HC.out.mono ?_; rintro e w' ⟨rfl, rfl⟩))
        go_ret3
        exact ⟨rfl, rfl⟩
  · rw [if_pos hx]
    have hx' : (x != 0) = true := by simp [hx]
    clear ha h1 h4
    go_enter Try.func13, Try.ntmps13
    go_wp2_with (first | (go_at_call 23; refine HC.out.mono ?_; rintro e w' ⟨rfl, rfl⟩))
    go_ret3
    exact ⟨rfl, rfl⟩

set_option maxHeartbeats 1000000 in
/-- The document's ReadText. -/
theorem rt14 (a : Option Addr) (n cap : Nat) (zs : List Int) (p m : Int) (w : World) (h : Seg w a n cap zs) (hm : m < 9223372036854775808) :
    Calls Try.prog 14 #[.slice a n cap, .int .i64 p, .int .i64 m] w fun e w' => e = .returned (resT (rtAt zs p m)) ∧ w' = w := by
  have hg := rbAt_range zs p m 13 h.2.2.2.1 (by decide)
  have hc := rc12 a n cap zs p m w h hm
  obtain ⟨hz, hcap, hn, hr, ha⟩ := h
  unfold rtAt
  rcases rbAt_two zs p m hr with ⟨ht, ht'⟩ | ⟨ht, ht'⟩
  · rw [if_pos (by rw [ht']; decide), ht']
    generalize rbAt zs p m 20 = r at *
    obtain ⟨u, q, x⟩ := r
    simp only [res3] at hc ht
    subst ht
    have HC := hid hc
    clear hc hr hg ht' ha hz
    go_enter Try.func14, Try.ntmps14
    go_wp2_with (first | (go_at_call 12; refine HC.out.mono ?_; rintro e w' ⟨rfl, rfl⟩))
    go_ret3
    exact ⟨rfl, rfl⟩
  rw [ht'] at hg ⊢
  clear ht'
  generalize rbAt zs p m 20 = r at *
  obtain ⟨u, q, x⟩ := r
  simp only [res3] at hc hg ht ⊢
  have HC := hid hc
  clear hc hr
  obtain ⟨h0, h1, h2, h3, h4⟩ := hg
  by_cases hx : x = 0
  · subst hx
    have g1 := h1 rfl
    have g4 := h4 rfl
    clear h1 h4 ht
    rw [if_neg (by simp)]
    obtain ⟨u, rfl⟩ := Int.eq_ofNat_of_zero_le h0
    obtain ⟨q, rfl⟩ := Int.eq_ofNat_of_zero_le h2
    have hlen : (zs.length : Int) = n := by omega
    rcases ha with ha | ⟨b, off, rfl, hcell⟩
    · omega
    by_cases hb : (zs.length : Int) - q < u
    · rw [if_pos hb]
      rw [hlen] at hb h3
      clear hcell g4 hz hlen
      go_enter Try.func14, Try.ntmps14
      go_wp2_with (first | (go_at_call 12; refine HC.out.mono ?_; rintro e w' ⟨rfl, rfl⟩))
      go_ret3
      exact ⟨rfl, rfl⟩
    · rw [if_neg hb]
      rw [Int.toNat_natCast, Int.toNat_natCast]
      have hv := conv_at w b off n cap zs q u hz (by omega) hcell
      rw [hlen] at hb h3
      by_cases hqc : q = cap
      · obtain rfl : u = 0 := by omega
        have hv0 : ∀ c, (convert 22 9 (.slice (some ⟨b, off, none⟩) 0 c)).run Try.prog w = .ok (.string (strOfNums ((zs.drop q).take 0))) w := fun c => conv_zero w b off c _
        subst hqc
        clear hcell hv g4
        go_enter Try.func14, Try.ntmps14
        go_wp2_with (first | (go_at_call 12; refine HC.out.mono ?_; rintro e w' ⟨rfl, rfl⟩))
        go_ret3
        exact ⟨rfl, rfl⟩
      · have hv' := hv (cap - q)
        clear hcell hv g4
        go_enter Try.func14, Try.ntmps14
        go_wp2_with (first | (go_at_call 12; refine HC.out.mono ?_; rintro e w' ⟨rfl, rfl⟩))
        go_ret3
        exact ⟨rfl, rfl⟩
  · rw [if_pos hx]
    have hx' : (x != 0) = true := by simp [hx]
    have hx20 : (x == 20) = false := by simpa using ht
    clear ha h1 h4 ht
    go_enter Try.func14, Try.ntmps14
    go_wp2_with (first | (go_at_call 12; refine HC.out.mono ?_; rintro e w' ⟨rfl, rfl⟩))
    go_ret3
    exact ⟨rfl, rfl⟩
end Go.Proofs.Ytlhopgdafaehhaa
