/-
  The walks over EqBytes (two lists that are alike), WideBytes and SpareBytes.
-/
import Derived.Test.YtgljlclnmnfocaaDoorReadC
import Derived.Deep.QuietTactic
import Derived.BigQuiet
namespace Go.Proofs.YtgljlclnmnfocaaDoor
open Go.RowKit
set_option linter.unusedVariables false

set_option maxHeartbeats 1000000 in
theorem eq15_in (b1 o1 b2 o2 n c1 c2 : Nat) (zs : List Int) (w : World) (hz : zs.length = n) (hn : n ≤ 1099511627776)
    (hc1 : ∀ j, j < n → w.cell? ⟨b1, o1 + j, none⟩ = some (.int .u8 (zs.getD j 0)))
    (hc2 : ∀ j, j < n → w.cell? ⟨b2, o2 + j, none⟩ = some (.int .u8 (zs.getD j 0))) :
    Calls Tryd.prog 14 #[.slice (some ⟨b1, o1, none⟩) n c1, .slice (some ⟨b2, o2, none⟩) n c2] w fun e w' => e = .returned (.bool true) ∧ ∃ m, w' = w.drewN m := by
  have hne : ((n : Int) != n) = false := by simp
  go_enter Tryd.func14, Tryd.ntmps14
  go_wp2
  go_loopw [5] (fun i wr => ∃ k m : Nat, k ≤ n ∧ i = .int .i64 k ∧ wr = w.drewN m) (fun i _ => n - (intOf i).toNat)
  case atStart => exact ⟨0, 0, by omega, rfl, rfl⟩
  case round =>
    obtain ⟨k, m, hk, rfl, rfl⟩ := hrel
    by_cases hlt : k < n
    · have g1 : w.cell? ⟨b1, o1 + k, none⟩ = some (.int .u8 (zs.getD k 0)) := hc1 k hlt
      have g2 : w.cell? ⟨b2, o2 + k, none⟩ = some (.int .u8 (zs.getD k 0)) := hc2 k hlt
      clear hc1 hc2
      have hlt' : (k : Int) < (n : Int) := by omega
      go_wp2
      go_quiet (fail)
      go_wp2
      exact ⟨⟨k + 1, m + nq, by omega, by go_num, rfl⟩, by simp [intOf]; omega⟩
    · clear hc1 hc2
      go_wp2
      go_ret
      exact ⟨rfl, m, rfl⟩

set_option maxHeartbeats 400000 in
theorem eq15_none (a1 a2 : Option Addr) (c1 c2 : Nat) (w : World) :
    Calls Tryd.prog 14 #[.slice a1 0 c1, .slice a2 0 c2] w fun e w' => e = .returned (.bool true) ∧ ∃ m, w' = w.drewN m := by
  go_enter Tryd.func14, Tryd.ntmps14
  go_wp2
  refine wp_loop_rounds 1 ?_
  rw [rounds_succ]
  go_wp2
  go_ret
  exact ⟨rfl, 0, rfl⟩

/-- EqBytes of two lists that are alike. -/
theorem eq15 (a1 a2 : Option Addr) (n c1 c2 : Nat) (zs : List Int) (w : World) (h1 : Seg w a1 n c1 zs) (h2 : Seg w a2 n c2 zs) :
    Calls Tryd.prog 14 #[.slice a1 n c1, .slice a2 n c2] w fun e w' => e = .returned (.bool true) ∧ ∃ m, w' = w.drewN m := by
  obtain ⟨hz, _, hn, _, g1⟩ := h1
  obtain ⟨_, _, _, _, g2⟩ := h2
  by_cases h0 : n = 0
  · subst h0; exact eq15_none a1 a2 c1 c2 w
  rcases g1 with g1 | ⟨b1, o1, rfl, g1⟩
  · exact absurd g1 h0
  rcases g2 with g2 | ⟨b2, o2, rfl, g2⟩
  · exact absurd g2 h0
  exact eq15_in b1 o1 b2 o2 n c1 c2 zs w hz hn g1 g2

/-! ### WideBytes -/

/-- What lies at place j of such a list. -/
def wl (zs : List Int) (j : Nat) : Int := if j < zs.length then zs.getD j 0 else (282 + 7 * (j : Int)) % 256

def wide (zs : List Int) (k m : Nat) : List Int := (List.range k).map (wl zs) ++ List.replicate m 0

theorem wide_set (zs : List Int) (k m : Nat) (v : Int) (h : v = wl zs k) : ((wide zs k (m + 1)).map (Value.int .u8)).set k (.int .u8 v) = (wide zs (k + 1) m).map (Value.int .u8) := by
  subst h
  rw [← List.map_set]
  congr 1
  unfold wide
  rw [List.set_append_right _ _ (by simp)]
  simp [List.range_succ, List.replicate_succ]

theorem Tryd.info5 : (Tryd.prog.info? 5).map (fun i => (i.zero, i.size, i.bytes)) = some (some (.int .u8 0), 1, 1) := by kernel_rfl

theorem wide_step {w wr : World} {zs : List Int} {n k : Nat} (v : Int) (hv : v = wl zs k) (hlt : k < n + 64)
    (hown : wr.ownsRow w.heap.size 5 1 (.slice (some ⟨w.heap.size, 0, none⟩) (n + 64) (n + 64)) (n + 64) ((wide zs k (n + 64 - k)).map (Value.int .u8))) (hb : Below w.heap.size w wr) :
    (wr.setCell ⟨w.heap.size, k, none⟩ (.int .u8 v)).ownsRow w.heap.size 5 1 (.slice (some ⟨w.heap.size, 0, none⟩) (n + 64) (n + 64)) (n + 64) ((wide zs (k + 1) (n + 64 - (k + 1))).map (Value.int .u8)) ∧
      Below w.heap.size w (wr.setCell ⟨w.heap.size, k, none⟩ (.int .u8 v)) := by
  have h := hown.stored k (.int .u8 v)
  have e : n + 64 - k = n + 64 - (k + 1) + 1 := by omega
  rw [e, wide_set zs k _ v hv] at h
  exact ⟨h.1, hb.setCell (by simp) _⟩

set_option maxHeartbeats 1000000 in
theorem wide6_in (a : Option Addr) (n cap : Nat) (zs : List Int) (w : World) (hz : zs.length = n) (hn : n ≤ 1048576)
    (hc : n = 0 ∨ ∃ b off, a = some ⟨b, off, none⟩ ∧ ∀ j, j < n → w.cell? ⟨b, off + j, none⟩ = some (.int .u8 (zs.getD j 0))) :
    Calls Tryd.prog 18 #[.slice a n cap] w fun e w' => e = .returned (.slice (some ⟨w.heap.size, 0, none⟩) n (n + 64)) ∧
      w'.ownsRow w.heap.size 5 1 (.slice (some ⟨w.heap.size, 0, none⟩) (n + 64) (n + 64)) (n + 64) ((wide zs (n + 64) 0).map (Value.int .u8)) ∧ Below w.heap.size w w' := by
  obtain ⟨i0, hi, hz0, hz1, hz2⟩ := info_parts Tryd.info5
  have hb2 : i0.bytes * (n + 64) ≤ 281474976710656 := by rw [hz2]; omega
  have hml : n + 64 ≤ maxLen := by unfold maxLen; omega
  go_enter Tryd.func18, Tryd.ntmps18
  go_wp2_with (first | (at_make; refine wpList_make_full _ rfl _ _ 27 rfl w.heap.size 5 i0 (.int .u8 0) 1 Tryd.underlying27 hi hz0 hz1 .i64 .i64 _ _ (n + 64) rfl rfl (by omega) (by omega) hb2 hml (Nat.le_refl _) ?_; intro w1 hown hgrow))
  have hown0 : w1.ownsRow w.heap.size 5 1 (.slice (some ⟨w.heap.size, 0, none⟩) (n + 64) (n + 64)) (n + 64) ((wide zs 0 (n + 64)).map (Value.int .u8)) := by
    have e : (madeCells (Value.int .u8 0).cells ((n + 64) * 1)).toList = (wide zs 0 (n + 64)).map (Value.int .u8) := by
      rw [Nat.mul_one]; exact (toList_madeCells_one _ _).trans (by simp [wide])
    rw [← e]; exact hown
  have hbel : Below w.heap.size w w1 := (Below.refl _ _).grown hgrow (Nat.le_refl _) (by simp)
  clear hown hgrow hi hz0 hz1 hz2 hb2 hml
  go_loopw [4] (fun i wr => ∃ k : Nat, k ≤ n + 64 ∧ i = .int .i64 k ∧ wr.ownsRow w.heap.size 5 1 (.slice (some ⟨w.heap.size, 0, none⟩) (n + 64) (n + 64)) (n + 64) ((wide zs k (n + 64 - k)).map (Value.int .u8)) ∧ Below w.heap.size w wr) (fun i _ => n + 64 - (intOf i).toNat)
  case atStart => exact ⟨0, by omega, rfl, hown0, hbel⟩
  case round =>
    obtain ⟨k, hk, rfl, hown, hb⟩ := hrel
    clear hown0 hbel
    by_cases hlt : k < n + 64
    · have hst := fun v hv => wide_step v hv hlt hown hb
      have hcl : ∃ v, wr.cell? ⟨w.heap.size, k, none⟩ = some v := by
        have := hown.cellAt k (by omega)
        exact ⟨_, this.trans (List.getElem?_eq_getElem (by simp [wide]; omega))⟩
      obtain ⟨v0, hcl⟩ := hcl
      have hfz := hown.frozenAt k
      have HS := hid hst
      have HB := hid hb
      by_cases hkn : k < n
      · rcases hc with hc | ⟨b, off, rfl, hc⟩
        · omega
        have hcell : wr.cell? ⟨b, off + k, none⟩ = some (.int .u8 (zs.getD k 0)) := by
          have h1 := hc k hkn
          have h2 : b < w.heap.size := block_lt_of_cell h1
          exact (hb.cell (p := ⟨b, off + k, none⟩) h2).trans h1
        have hkz : k < zs.length := by omega
        have HW := hid (show zs[k] = wl zs k by simp [wl, hkz])
        clear hst hb hown hc
        go_wp2
        have R := HS.out _ HW.out
        exact ⟨⟨k + 1, by omega, by go_num, R.1, R.2⟩, by simp [intOf]; omega⟩
      · have HW := hid (show (279 + 7 * (k : Int) + 3) % 256 = wl zs k by
          have hkz : ¬ k < zs.length := by omega
          simp only [wl, hkz, if_false]; omega)
        clear hst hb hown hc
        go_wp2
        have R := HS.out _ HW.out
        exact ⟨⟨k + 1, by omega, by go_num, R.1, R.2⟩, by simp [intOf]; omega⟩
    · obtain rfl : k = n + 64 := by omega
      have HB := hid hb
      have HO := hid hown
      clear hb hown hc
      go_wp2
      go_ret
      refine ⟨rfl, ?_, HB.out⟩
      have := HO.out
      rw [Nat.sub_self] at this
      exact this

/-- WideBytes: a list of its own, the marks behind it. -/
theorem wide6 (a : Option Addr) (n cap : Nat) (zs : List Int) (w : World) (h : Seg w a n cap zs) (hn : n ≤ 1048576) :
    Calls Tryd.prog 18 #[.slice a n cap] w fun e w' => e = .returned (.slice (some ⟨w.heap.size, 0, none⟩) n (n + 64)) ∧
      (∀ j, j < n + 64 → w'.cell? ⟨w.heap.size, j, none⟩ = some (.int .u8 (wl zs j))) ∧ Below w.heap.size w w' ∧ w.heap.size < w'.heap.size := by
  refine (wide6_in a n cap zs w h.1 hn h.2.2.2.2).mono fun e w' ⟨he, ho, hb⟩ => ?_
  have hc : ∀ j, j < n + 64 → w'.cell? ⟨w.heap.size, j, none⟩ = some (.int .u8 (wl zs j)) := fun j hj => by
    rw [ho.cellAt j (by omega)]
    simp [wide, hj]
  exact ⟨he, hc, hb, block_lt_of_cell (hc 0 (by omega))⟩

set_option maxHeartbeats 1000000 in
/-- SpareBytes: the marks stand. -/
theorem spare16 (B n : Nat) (zs : List Int) (w : World) (hz : zs.length = n) (hn : n ≤ 1048576)
    (hc : ∀ j, j < n + 64 → w.cell? ⟨B, j, none⟩ = some (.int .u8 (wl zs j))) :
    Calls Tryd.prog 22 #[.slice (some ⟨B, 0, none⟩) n (n + 64)] w fun e w' => e = .returned (.bool true) ∧ w' = w := by
  go_enter Tryd.func22, Tryd.ntmps22
  go_wp2
  go_loop [4] (fun i => ∃ k : Nat, n ≤ k ∧ k ≤ n + 64 ∧ i = .int .i64 k) (fun i => n + 64 - (intOf i).toNat)
  case atStart => exact ⟨n, by omega, by omega, rfl⟩
  case round =>
    obtain ⟨k, hk0, hk, rfl⟩ := hrel
    by_cases hlt : k < n + 64
    · have hcell := hc k hlt
      have hw : wl zs k = (279 + 7 * (k : Int) + 3) % 256 := by
        have hkz : ¬ k < zs.length := by omega
        simp only [wl, hkz, if_false]; omega
      rw [hw] at hcell
      clear hc hw
      go_wp2
      exact ⟨⟨k + 1, by omega, by omega, by go_num⟩, by simp [intOf]; omega⟩
    · clear hc
      go_wp2
      go_ret
      exact ⟨rfl, rfl⟩
end Go.Proofs.YtgljlclnmnfocaaDoor
