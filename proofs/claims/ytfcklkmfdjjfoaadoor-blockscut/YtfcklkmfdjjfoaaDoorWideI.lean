/-
  The walks over WideInts, WideIns, SpareInts, SpareIns.
-/
import Derived.Test.YtfcklkmfdjjfoaaDoorRf
namespace Go.Proofs.YtfcklkmfdjjfoaaDoor
open Go.RowKit
set_option linter.unusedVariables false

theorem mark59 (i : Int) (w : World) (h0 : 0 ≤ i) (h1 : i ≤ 70368744177664) : Calls Tryd.prog 24 #[.int .i64 9, .int .i64 i] w fun e w' => e = .returned (.int .i64 (9437184 + i + 1)) ∧ w' = w := by
  go_enter Tryd.func24, Tryd.ntmps24
  go_wp2
  go_ret
  exact ⟨rfl, rfl⟩

/-- What lies at place j of such a list. -/
def wlI (zs : List Int) (j : Nat) : Int := if j < zs.length then zs.getD j 0 else 9437184 + (j : Int) + 1
def wideI (zs : List Int) (k m : Nat) : List Int := (List.range k).map (wlI zs) ++ List.replicate m 0

theorem wideI_step {w wr : World} {zs : List Int} {n k : Nat} (v : Int) (hv : v = wlI zs k) (hlt : k < n + 64)
    (hown : wr.ownsRow w.heap.size 3 1 (.slice (some ⟨w.heap.size, 0, none⟩) (n + 64) (n + 64)) (n + 64) ((wideI zs k (n + 64 - k)).map (Value.int .i64))) (hb : Below w.heap.size w wr) :
    (wr.setCell ⟨w.heap.size, k, none⟩ (.int .i64 v)).ownsRow w.heap.size 3 1 (.slice (some ⟨w.heap.size, 0, none⟩) (n + 64) (n + 64)) (n + 64) ((wideI zs (k + 1) (n + 64 - (k + 1))).map (Value.int .i64)) ∧
      Below w.heap.size w (wr.setCell ⟨w.heap.size, k, none⟩ (.int .i64 v)) := by
  have h := hown.stored k (.int .i64 v)
  have e : n + 64 - k = n + 64 - (k + 1) + 1 := by omega
  have hset : ((wideI zs k (n + 64 - (k + 1) + 1)).map (Value.int .i64)).set k (.int .i64 v) = (wideI zs (k + 1) (n + 64 - (k + 1))).map (Value.int .i64) := by
    subst hv
    rw [← List.map_set]
    congr 1
    unfold wideI
    rw [List.set_append_right _ _ (by simp)]
    simp [List.range_succ, List.replicate_succ]
  rw [e, hset] at h
  exact ⟨h.1, hb.setCell (by simp) _⟩

set_option maxHeartbeats 1000000 in
theorem wideI_in (a : Option Addr) (n cap : Nat) (zs : List Int) (w : World) (hz : zs.length = n) (hn : n ≤ 17592186044416)
    (hc : n = 0 ∨ ∃ b off, a = some ⟨b, off, none⟩ ∧ ∀ j, j < n → w.cell? ⟨b, off + j, none⟩ = some (.int .i64 (zs.getD j 0))) :
    Calls Tryd.prog 27 #[.slice a n cap] w fun e w' => e = .returned (.slice (some ⟨w.heap.size, 0, none⟩) n (n + 64)) ∧
      w'.ownsRow w.heap.size 3 1 (.slice (some ⟨w.heap.size, 0, none⟩) (n + 64) (n + 64)) (n + 64) ((wideI zs (n + 64) 0).map (Value.int .i64)) ∧ Below w.heap.size w w' := by
  obtain ⟨i0, hi, hz0, hz1, hz2⟩ := info_parts Tryd.infInts
  have hb2 : i0.bytes * (n + 64) ≤ 281474976710656 := by rw [hz2]; omega
  have hml : n + 64 ≤ maxLen := by unfold maxLen; omega
  go_enter Tryd.func27, Tryd.ntmps27
  go_wp2_with (first | (at_make; refine wpList_make_full _ rfl _ _ 24 rfl w.heap.size 3 i0 (.int .i64 0) 1 Tryd.underlying24 hi hz0 hz1 .i64 .i64 _ _ (n + 64) rfl rfl (by omega) (by omega) hb2 hml (Nat.le_refl _) ?_; intro w1 hown hgrow))
  have hown0 : w1.ownsRow w.heap.size 3 1 (.slice (some ⟨w.heap.size, 0, none⟩) (n + 64) (n + 64)) (n + 64) ((wideI zs 0 (n + 64)).map (Value.int .i64)) := by
    have e : (madeCells (Value.int .i64 0).cells ((n + 64) * 1)).toList = (wideI zs 0 (n + 64)).map (Value.int .i64) := by
      rw [Nat.mul_one]; exact (toList_madeCells_one _ _).trans (by simp [wideI])
    rw [← e]; exact hown
  have hbel : Below w.heap.size w w1 := (Below.refl _ _).grown hgrow (Nat.le_refl _) (by simp)
  clear hown hgrow hi hz0 hz1 hz2 hb2 hml
  go_loopw [4] (fun i wr => ∃ k : Nat, k ≤ n + 64 ∧ i = .int .i64 k ∧ wr.ownsRow w.heap.size 3 1 (.slice (some ⟨w.heap.size, 0, none⟩) (n + 64) (n + 64)) (n + 64) ((wideI zs k (n + 64 - k)).map (Value.int .i64)) ∧ Below w.heap.size w wr) (fun i _ => n + 64 - (intOf i).toNat)
  case atStart => exact ⟨0, by omega, rfl, hown0, hbel⟩
  case round =>
    obtain ⟨k, hk, rfl, hown, hb⟩ := hrel
    clear hown0 hbel
    by_cases hlt : k < n + 64
    · have hst := fun v hv => wideI_step v hv hlt hown hb
      have hcl : ∃ v, wr.cell? ⟨w.heap.size, k, none⟩ = some v := by
        have := hown.cellAt k (by omega)
        exact ⟨_, this.trans (List.getElem?_eq_getElem (by simp [wideI]; omega))⟩
      obtain ⟨v0, hcl⟩ := hcl
      have hfz := hown.frozenAt k
      have HS := hid hst
      have HB := hid hb
      by_cases hkn : k < n
      · rcases hc with hc | ⟨b, off, rfl, hc⟩
        · omega
        have hcell : wr.cell? ⟨b, off + k, none⟩ = some (.int .i64 (zs.getD k 0)) := by
          have h1 := hc k hkn
          have h2 : b < w.heap.size := block_lt_of_cell h1
          exact (hb.cell (p := ⟨b, off + k, none⟩) h2).trans h1
        have hkz : k < zs.length := by omega
        have HW := hid (show zs.getD k 0 = wlI zs k by simp [wlI, hkz])
        generalize zs.getD k 0 = z at *
        clear hst hb hown hc
        go_wp2
        have R := HS.out _ HW.out
        exact ⟨⟨k + 1, by omega, by go_num, R.1, R.2⟩, by simp [intOf]; omega⟩
      · have HW := hid (show 9437184 + (k : Int) + 1 = wlI zs k by
          have hkz : ¬ k < zs.length := by omega
          simp only [wlI, hkz, if_false])
        clear hst hb hown hc
        go_wp2_with (first | (go_at_call 24; refine (mark59 k _ (by omega) (by omega)).mono ?_; rintro e w' ⟨rfl, rfl⟩))
        have R := HS.out _ HW.out
        exact ⟨⟨k + 1, by omega, by go_num, R.1, R.2⟩, by simp [intOf]; omega⟩
    · obtain rfl : k = n + 64 := by omega
      have HB := hid hb
      have HO := hid hown
      clear hb hown hc
      go_wp2
      go_ret
      refine ⟨rfl, ?_, HB.out⟩
      have := HO.out
      rw [Nat.sub_self] at this
      exact this

def insV (c a : Int) (v : Value) : Value := .agg #[.int .u8 c, .int .i64 a, v]

/-- WideInts: a list of its own, the marks behind it. -/
theorem wideI23 (a : Option Addr) (n cap : Nat) (zs : List Int) (w : World) (h : SegI w a n cap zs) (hn : n ≤ 1048576) :
    Calls Tryd.prog 27 #[.slice a n cap] w fun e w' => e = .returned (.slice (some ⟨w.heap.size, 0, none⟩) n (n + 64)) ∧
      (∀ j, j < n + 64 → w'.cell? ⟨w.heap.size, j, none⟩ = some (.int .i64 (wlI zs j))) ∧ Below w.heap.size w w' ∧ w.heap.size < w'.heap.size := by
  refine (wideI_in a n cap zs w h.1 (by omega) h.2.2.2.2).mono fun e w' ⟨he, ho, hb⟩ => ?_
  have hc : ∀ j, j < n + 64 → w'.cell? ⟨w.heap.size, j, none⟩ = some (.int .i64 (wlI zs j)) := fun j hj => by
    rw [ho.cellAt j (by omega)]
    simp [wideI, hj]
  exact ⟨he, hc, hb, block_lt_of_cell (hc 0 (by omega))⟩

/-- Such a list as a slice. -/
theorem segI_wide {w : World} {B n : Nat} {zs : List Int} (hz : zs.length = n) (hn : n ≤ 1048576) (hr : ∀ z ∈ zs, -9223372036854775808 ≤ z ∧ z ≤ 9223372036854775807) (hc : ∀ j, j < n + 64 → w.cell? ⟨B, j, none⟩ = some (.int .i64 (wlI zs j))) :
    SegI w (some ⟨B, 0, none⟩) n (n + 64) zs := by
  refine ⟨hz, by omega, by omega, hr, .inr ⟨B, 0, rfl, fun j hj => ?_⟩⟩
  rw [Nat.zero_add, hc j (by omega)]
  have : j < zs.length := by omega
  simp only [wlI, this, if_true]

set_option maxHeartbeats 1000000 in
/-- WideIns. -/
theorem wideIns8 (c a : Int) (la : Option Addr) (ln lc : Nat) (zs : List Int) (w : World) (h : SegI w la ln lc zs) (hn : ln ≤ 1048576) :
    Calls Tryd.prog 23 #[insV c a (.slice la ln lc)] w fun e w' => ∃ B, e = .returned (insV c a (.slice (some ⟨B, 0, none⟩) ln (ln + 64))) ∧ (∀ j, j < ln + 64 → w'.cell? ⟨B, j, none⟩ = some (.int .i64 (wlI zs j))) ∧ Below w.heap.size w w' ∧ w.heap.size ≤ B := by
  unfold insV
  have hb : Below w.heap.size w ((w.alloc (.cells #[.int .u8 c, .int .i64 a, .slice la ln lc] 67)).alloc (.cells #[.int .u8 0, .int .i64 0, .slice none 0 0] 67)) := ((Below.refl _ _).alloc (Nat.le_refl _) _).alloc (by simp) _
  have hw := wideI23 la ln lc zs _ (h.later hb (Nat.le_refl _)) hn
  rw [show ((w.alloc (.cells #[.int .u8 c, .int .i64 a, .slice la ln lc] 67)).alloc (.cells #[.int .u8 0, .int .i64 0, .slice none 0 0] 67)).heap.size = w.heap.size + 2 by simp] at hw
  have HW := hid hw
  have HB := hid hb
  clear h hb hw
  go_enter Tryd.func23, Tryd.ntmps23
  go_wp2_with fail
  refine HW.out.mono ?_
  rintro e w1 ⟨rfl, hc1, hb1, hz1⟩
  have hlt0 : w.heap.size < w.heap.size + 2 := by omega
  have hlt1 : w.heap.size + 1 < w.heap.size + 2 := by omega
  have y : (w1.cell? ⟨w.heap.size, 0, none⟩ = some (.int .u8 c) ∧ w1.cell? ⟨w.heap.size, 1, none⟩ = some (.int .i64 a) ∧ w1.cell? ⟨w.heap.size, 2, none⟩ = some (.slice la ln lc) ∧ w1.frozen? ⟨w.heap.size, 2, none⟩ = false) ∧
      (w1.cell? ⟨w.heap.size + 1, 0, none⟩ = some (.int .u8 0) ∧ w1.cell? ⟨w.heap.size + 1, 1, none⟩ = some (.int .i64 0) ∧ w1.cell? ⟨w.heap.size + 1, 2, none⟩ = some (.slice none 0 0)) ∧
      (w1.frozen? ⟨w.heap.size + 1, 0, none⟩ = false ∧ w1.frozen? ⟨w.heap.size + 1, 1, none⟩ = false ∧ w1.frozen? ⟨w.heap.size + 1, 2, none⟩ = false) := by
    refine ⟨⟨?_, ?_, ?_, ?_⟩, ⟨?_, ?_, ?_⟩, ⟨?_, ?_, ?_⟩⟩
    · rw [hb1.cell (by exact hlt0)]; simp [go_sem]
    · rw [hb1.cell (by exact hlt0)]; simp [go_sem]
    · rw [hb1.cell (by exact hlt0)]; simp [go_sem]
    · rw [hb1.frozen (by exact hlt0)]; simp [go_sem]
    · rw [hb1.cell (by exact hlt1)]; simp [go_sem]
    · rw [hb1.cell (by exact hlt1)]; simp [go_sem]
    · rw [hb1.cell (by exact hlt1)]; simp [go_sem]
    · rw [hb1.frozen (by exact hlt1)]; simp [go_sem]
    · rw [hb1.frozen (by exact hlt1)]; simp [go_sem]
    · rw [hb1.frozen (by exact hlt1)]; simp [go_sem]
  obtain ⟨⟨x0, x1, x2, f2⟩, ⟨y0, y1, y2⟩, g0, g1, g2⟩ := y
  have B1 := hid (HB.out.trans (hb1.mono (by omega)))
  have C1 := hid hc1
  clear hb1 hc1 HB HW
  go_wp2_with fail
  refine bodyPost_ret (v := .agg #[.int .u8 c, .int .i64 a, .slice (some ⟨w.heap.size + 2, 0, none⟩) ln (ln + 64)]) (by simp [results, Tryd.results23, go_sem, y0, y1, y2]) rfl ⟨w.heap.size + 2, rfl, fun j hj => ?_, ?_, by omega⟩
  · rw [World.cell?_setCell_other _ _ _ _ (by simp), World.cell?_setCell_other _ _ _ _ (by simp), World.cell?_setCell_other _ _ _ _ (by simp), World.cell?_setCell_other _ _ _ _ (by simp)]
    exact C1.out j hj
  · exact (((B1.out.setCell (p := ⟨w.heap.size, 2, none⟩) (Nat.le_refl _) _).setCell (p := ⟨w.heap.size + 1, 0, none⟩) (by simp) _).setCell (p := ⟨w.heap.size + 1, 1, none⟩) (by simp) _).setCell (p := ⟨w.heap.size + 1, 2, none⟩) (by simp) _

set_option maxHeartbeats 1000000 in
/-- SpareInts: the marks stand. -/
theorem spareI53 (B n : Nat) (zs : List Int) (w : World) (hz : zs.length = n) (hn : n ≤ 17592186044416)
    (hc : ∀ j, j < n + 64 → w.cell? ⟨B, j, none⟩ = some (.int .i64 (wlI zs j))) :
    Calls Tryd.prog 56 #[.slice (some ⟨B, 0, none⟩) n (n + 64)] w fun e w' => e = .returned (.bool true) ∧ w' = w := by
  go_enter Tryd.func56, Tryd.ntmps56
  go_wp2
  go_loop [4] (fun i => ∃ k : Nat, n ≤ k ∧ k ≤ n + 64 ∧ i = .int .i64 k) (fun i => n + 64 - (intOf i).toNat)
  case atStart => exact ⟨n, by omega, by omega, rfl⟩
  case round =>
    obtain ⟨k, hk0, hk, rfl⟩ := hrel
    by_cases hlt : k < n + 64
    · have hcell := hc k hlt
      have hw : wlI zs k = 9437184 + (k : Int) + 1 := by
        have hkz : ¬ k < zs.length := by omega
        simp only [wlI, hkz, if_false]
      rw [hw] at hcell
      have heq : ((9437184 : Int) + k + 1 == 9437184 + k + 1) = true := by simp
      clear hc hw
      go_wp2_with (first | (go_at_call 24; refine (mark59 k _ (by omega) (by omega)).mono ?_; rintro e w' ⟨rfl, rfl⟩))
      exact ⟨⟨k + 1, by omega, by omega, by go_num⟩, by simp [intOf]; omega⟩
    · clear hc
      go_wp2
      go_ret
      exact ⟨rfl, rfl⟩

set_option maxHeartbeats 1000000 in
theorem spareIns17 (c a : Int) (B n : Nat) (zs : List Int) (w : World) (hz : zs.length = n) (hn : n ≤ 1048576)
    (hc : ∀ j, j < n + 64 → w.cell? ⟨B, j, none⟩ = some (.int .i64 (wlI zs j))) :
    Calls Tryd.prog 53 #[insV c a (.slice (some ⟨B, 0, none⟩) n (n + 64))] w fun e w' => e = .returned (.bool true) ∧ Below w.heap.size w w' := by
  unfold insV
  have hb : Below w.heap.size w (w.alloc (.cells #[.int .u8 c, .int .i64 a, .slice (some ⟨B, 0, none⟩) n (n + 64)] 67)) := (Below.refl _ _).alloc (Nat.le_refl _) _
  have HS := hid (spareI53 B n zs _ hz (by omega) (fun j hj => (hb.cell (p := ⟨B, j, none⟩) (block_lt_of_cell (hc j hj))).trans (hc j hj)))
  clear hc
  go_enter Tryd.func53, Tryd.ntmps53
  go_wp2_with fail
  refine HS.out.mono ?_
  rintro e w1 ⟨rfl, rfl⟩
  go_wp2_with fail
  go_ret
  exact ⟨rfl, hb⟩
end Go.Proofs.YtfcklkmfdjjfoaaDoor
