/-
  Frames with marks behind them, and the marks asked.
-/
import Derived.Test.YtbdjghokedfkfaaDoorVb
namespace Go.Proofs.YtbdjghokedfkfaaDoor
open Go.RowKit
set_option linter.unusedVariables false
set_option maxRecDepth 100000

/-- A frame whose lists have marks behind them. -/
abbrev wdF (x : FrM) (B1 B2 : Nat) : FrM := (x.1, x.2.1, ((some ⟨B1, 0, none⟩, x.2.2.1.1.2.1, x.2.2.1.1.2.1 + 64), x.2.2.1.2), ((some ⟨B2, 0, none⟩, x.2.2.2.1.2.1, x.2.2.2.1.2.1 + 64), x.2.2.2.2))
structure W1F (base : Nat) (w : World) (x : FrM) (B1 B2 : Nat) : Prop where
  l : WW w B1 x.2.2.1.1.2.1 x.2.2.1.2
  s : WW w B2 x.2.2.2.1.2.1 x.2.2.2.2
  b1 : base ≤ B1
  b2 : base ≤ B2
theorem W1F.later {base : Nat} {w w' : World} {x : FrM} {B1 B2 : Nat} (h : W1F base w x B1 B2) (hb : Below w.heap.size w w') : W1F base w' x B1 B2 := ⟨h.l.later hb, h.s.later hb, h.b1, h.b2⟩
set_option maxHeartbeats 1000000 in
theorem wideF1 (x : FrM) (w : World) (h1 : SI .u64 w x.2.2.1.1.1 x.2.2.1.1.2.1 x.2.2.1.2) (h2 : SI .u64 w x.2.2.2.1.1 x.2.2.2.1.2.1 x.2.2.2.2) (n1 : x.2.2.1.1.2.1 ≤ 2147483647) (n2 : x.2.2.2.1.2.1 ≤ 2147483647) :
    Calls Tryd.prog 64 #[frV x] w fun e w' => ∃ B1 B2, e = .returned (frV (wdF x B1 B2)) ∧ W1F w.heap.size w' x B1 B2 ∧ Below w.heap.size w w' := by
  obtain ⟨y1, y2, ⟨⟨y3a, y3n, y3c⟩, y3⟩, ⟨⟨y4a, y4n, y4c⟩, y4⟩⟩ := x
  simp only at h1 h2 n1 n2
  have b1 := below_new w (.cells #[.int .i64 y1, .int .i64 y2, .slice y3a y3n y3c, .slice y4a y4n y4c] 66)
  have b2 := b1.trans ((below_new (w.alloc (.cells #[.int .i64 y1, .int .i64 y2, .slice y3a y3n y3c, .slice y4a y4n y4c] 66)) (.cells #[.int .i64 0, .int .i64 0, .slice none 0 0, .slice none 0 0] 66)).mono b1.size)
  have k1 : ((w.alloc (.cells #[.int .i64 y1, .int .i64 y2, .slice y3a y3n y3c, .slice y4a y4n y4c] 66)).alloc (.cells #[.int .i64 0, .int .i64 0, .slice none 0 0, .slice none 0 0] 66)).heap[w.heap.size]? = some (.cells #[.int .i64 y1, .int .i64 y2, .slice y3a y3n y3c, .slice y4a y4n y4c] 66) := nb_later (below_new _ _) (nb_new _ _)
  have k2 : ((w.alloc (.cells #[.int .i64 y1, .int .i64 y2, .slice y3a y3n y3c, .slice y4a y4n y4c] 66)).alloc (.cells #[.int .i64 0, .int .i64 0, .slice none 0 0, .slice none 0 0] 66)).heap[w.heap.size + 1]? = some (.cells #[.int .i64 0, .int .i64 0, .slice none 0 0, .slice none 0 0] 66) := nb_at (by simp)
  have H1 := hid (wideW y3a y3n y3c y3 _ (h1.later b2) n1)
  have H2 := hid (fun (W : World) (hW : Below w.heap.size w W) => wideW y4a y4n y4c y4 W (h2.later hW) n2)
  have HB2 := hid b2
  have K1 := hid k1
  have K2 := hid k2
  have hsz : ((w.alloc (.cells #[.int .i64 y1, .int .i64 y2, .slice y3a y3n y3c, .slice y4a y4n y4c] 66)).alloc (.cells #[.int .i64 0, .int .i64 0, .slice none 0 0, .slice none 0 0] 66)).heap.size = w.heap.size + 2 := by simp
  clear b1 b2 k1 k2 h1 h2
  go_enter Tryd.func64, Tryd.ntmps64
  go_wp2_with fail
  generalize (w.alloc (.cells #[.int .i64 y1, .int .i64 y2, .slice y3a y3n y3c, .slice y4a y4n y4c] 66)).alloc (.cells #[.int .i64 0, .int .i64 0, .slice none 0 0, .slice none 0 0] 66) = W2 at *
  refine H1.out.mono ?_
  rintro e w3 ⟨B1, rfl, hB1, hw1, hb3⟩
  have k3 := nb_later hb3 K1.out
  have k4 := nb_later hb3 K2.out
  have c2 : w3.cell? ⟨w.heap.size, 2, none⟩ = some (.slice y3a y3n y3c) := cell_at k3
  have c3 : w3.cell? ⟨w.heap.size, 3, none⟩ = some (.slice y4a y4n y4c) := cell_at k3
  have f2 : w3.frozen? ⟨w.heap.size, 2, none⟩ = false := frzB k3
  have k5 := blk_set (i := 2) (v := .slice (some ⟨B1, 0, none⟩) y3n (y3n + 64)) k3
  have hne : w.heap.size + 1 ≠ w.heap.size := by omega
  have k6 := put_blk (B := w.heap.size) (i := 2) (v := .slice (some ⟨B1, 0, none⟩) y3n (y3n + 64)) hne k4
  have hB1' : B1 ≠ w.heap.size := by omega
  have w5 : WW (w3.setCell ⟨w.heap.size, 2, none⟩ (.slice (some ⟨B1, 0, none⟩) y3n (y3n + 64))) B1 y3n y3 := put_blk hB1' hw1
  have b5 : Below w.heap.size w (w3.setCell ⟨w.heap.size, 2, none⟩ (.slice (some ⟨B1, 0, none⟩) y3n (y3n + 64))) := (HB2.out.trans (hb3.mono HB2.out.size)).setCell (Nat.le_refl _) _
  have hs3 := hb3.size
  have c3' : (w3.setCell ⟨w.heap.size, 2, none⟩ (.slice (some ⟨B1, 0, none⟩) y3n (y3n + 64))).cell? ⟨w.heap.size, 3, none⟩ = some (.slice y4a y4n y4c) := cell_at k5
  have hsz5 : (w3.setCell ⟨w.heap.size, 2, none⟩ (.slice (some ⟨B1, 0, none⟩) y3n (y3n + 64))).heap.size = w3.heap.size := by simp [World.setCell]
  have K5 := hid k5
  have K6 := hid k6
  have WW5 := hid w5
  have B5 := hid b5
  clear hb3 k3 k4 k5 k6 w5 b5 hw1 H1 K1 K2 HB2
  go_wp2_with fail
  generalize w3.setCell ⟨w.heap.size, 2, none⟩ (.slice (some ⟨B1, 0, none⟩) y3n (y3n + 64)) = W5 at *
  refine (H2.out _ B5.out).mono ?_
  rintro e w6 ⟨B2, rfl, hB2, hw2, hb6⟩
  have k7 := nb_later hb6 K5.out
  have k8 := nb_later hb6 K6.out
  have d3 : w6.cell? ⟨w.heap.size, 3, none⟩ = some (.slice y4a y4n y4c) := cell_at k7
  have g3 : w6.frozen? ⟨w.heap.size, 3, none⟩ = false := frzB k7
  have k9 := blk_set (i := 3) (v := .slice (some ⟨B2, 0, none⟩) y4n (y4n + 64)) k7
  have k10 := put_blk (B := w.heap.size) (i := 3) (v := .slice (some ⟨B2, 0, none⟩) y4n (y4n + 64)) hne k8
  have hlt1 : B1 < W5.heap.size := nb_lt WW5.out
  have hB2' : B2 ≠ w.heap.size := by omega
  have ww1 : WW (w6.setCell ⟨w.heap.size, 3, none⟩ (.slice (some ⟨B2, 0, none⟩) y4n (y4n + 64))) B1 y3n y3 := put_blk hB1' (WW5.out.later hb6)
  have ww2 : WW (w6.setCell ⟨w.heap.size, 3, none⟩ (.slice (some ⟨B2, 0, none⟩) y4n (y4n + 64))) B2 y4n y4 := put_blk hB2' hw2
  have b10 : Below w.heap.size w (w6.setCell ⟨w.heap.size, 3, none⟩ (.slice (some ⟨B2, 0, none⟩) y4n (y4n + 64))) := (B5.out.trans (hb6.mono B5.out.size)).setCell (Nat.le_refl _) _
  have e0 : (w6.setCell ⟨w.heap.size, 3, none⟩ (.slice (some ⟨B2, 0, none⟩) y4n (y4n + 64))).cell? ⟨w.heap.size, 0, none⟩ = some (.int .i64 y1) := cell_at k9
  have e1 : (w6.setCell ⟨w.heap.size, 3, none⟩ (.slice (some ⟨B2, 0, none⟩) y4n (y4n + 64))).cell? ⟨w.heap.size, 1, none⟩ = some (.int .i64 y2) := cell_at k9
  have e2 : (w6.setCell ⟨w.heap.size, 3, none⟩ (.slice (some ⟨B2, 0, none⟩) y4n (y4n + 64))).cell? ⟨w.heap.size, 2, none⟩ = some (.slice (some ⟨B1, 0, none⟩) y3n (y3n + 64)) := cell_at k9
  have e3 : (w6.setCell ⟨w.heap.size, 3, none⟩ (.slice (some ⟨B2, 0, none⟩) y4n (y4n + 64))).cell? ⟨w.heap.size, 3, none⟩ = some (.slice (some ⟨B2, 0, none⟩) y4n (y4n + 64)) := cell_at k9
  have g0 : (w6.setCell ⟨w.heap.size, 3, none⟩ (.slice (some ⟨B2, 0, none⟩) y4n (y4n + 64))).cell? ⟨w.heap.size + 1, 0, none⟩ = some (.int .i64 0) := cell_at k10
  have g1 : (w6.setCell ⟨w.heap.size, 3, none⟩ (.slice (some ⟨B2, 0, none⟩) y4n (y4n + 64))).cell? ⟨w.heap.size + 1, 1, none⟩ = some (.int .i64 0) := cell_at k10
  have g2 : (w6.setCell ⟨w.heap.size, 3, none⟩ (.slice (some ⟨B2, 0, none⟩) y4n (y4n + 64))).cell? ⟨w.heap.size + 1, 2, none⟩ = some (.slice none 0 0) := cell_at k10
  have g3' : (w6.setCell ⟨w.heap.size, 3, none⟩ (.slice (some ⟨B2, 0, none⟩) y4n (y4n + 64))).cell? ⟨w.heap.size + 1, 3, none⟩ = some (.slice none 0 0) := cell_at k10
  have z0 : (w6.setCell ⟨w.heap.size, 3, none⟩ (.slice (some ⟨B2, 0, none⟩) y4n (y4n + 64))).frozen? ⟨w.heap.size + 1, 0, none⟩ = false := frzB k10
  have z1 : (w6.setCell ⟨w.heap.size, 3, none⟩ (.slice (some ⟨B2, 0, none⟩) y4n (y4n + 64))).frozen? ⟨w.heap.size + 1, 1, none⟩ = false := frzB k10
  have z2 : (w6.setCell ⟨w.heap.size, 3, none⟩ (.slice (some ⟨B2, 0, none⟩) y4n (y4n + 64))).frozen? ⟨w.heap.size + 1, 2, none⟩ = false := frzB k10
  have z3 : (w6.setCell ⟨w.heap.size, 3, none⟩ (.slice (some ⟨B2, 0, none⟩) y4n (y4n + 64))).frozen? ⟨w.heap.size + 1, 3, none⟩ = false := frzB k10
  have WA := hid ww1
  have WB := hid ww2
  have B10 := hid b10
  have K10 := hid k10
  have hB1n : B1 ≠ w.heap.size + 1 := by omega
  have hB2n : B2 ≠ w.heap.size + 1 := by omega
  clear ww1 ww2 b10 k7 k8 k9 k10 hb6 hw2 H2 K5 K6 WW5 B5
  have hfin := blk_set (i := 3) (v := .slice (some ⟨B2, 0, none⟩) y4n (y4n + 64)) (blk_set (i := 2) (v := .slice (some ⟨B1, 0, none⟩) y3n (y3n + 64)) (blk_set (i := 1) (v := .int .i64 y2) (blk_set (i := 0) (v := .int .i64 y1) K10.out)))
  have HK := hid (((kept_put (w := w6.setCell ⟨w.heap.size, 3, none⟩ (.slice (some ⟨B2, 0, none⟩) y4n (y4n + 64))) (B := w.heap.size + 1) (i := 0) (v := .int .i64 y1)).trans (kept_put (i := 1) (v := .int .i64 y2))).trans (kept_put (i := 2) (v := .slice (some ⟨B1, 0, none⟩) y3n (y3n + 64)))|>.trans (kept_put (i := 3) (v := .slice (some ⟨B2, 0, none⟩) y4n (y4n + 64))))
  go_wp2_with fail
  exact bodyPost_ret (v := frV (wdF (y1, y2, ((y3a, y3n, y3c), y3), ((y4a, y4n, y4c), y4)) B1 B2)) (results_cell_row rfl _ _ (w.heap.size + 1) 66 _ (0, 0) _ rfl hfin Tryd.underlying66 rfl (by kernel_rfl)) rfl
    ⟨B1, B2, rfl, ⟨(HK.out.block B1 (nb_lt WA.out) hB1n).trans WA.out, (HK.out.block B2 (nb_lt WB.out) hB2n).trans WB.out, by omega, by omega⟩, B10.out.trans (HK.out.to_below B10.out.size (fun k _ e => by have e : k = w.heap.size + 1 := e; omega))⟩
/-- The mark behind frames. -/
abbrev mkF (j : Nat) : FrM := (0, 9437184 + (j : Int) + 1, ((none, 0, 0), []), ((none, 0, 0), []))
/-- Frames with marks behind them, as far as they are laid. -/
structure WFs (base : Nat) (w : World) (n : Nat) (xs ys : List FrM) : Prop where
  el : ∀ (j : Nat) y, ys[j]? = some y → j < n → ∃ x B1 B2, xs[j]? = some x ∧ y = wdF x B1 B2 ∧ W1F base w x B1 B2
  mrk : ∀ (j : Nat) y, ys[j]? = some y → n ≤ j → y = mkF j
theorem WFs.later {base : Nat} {w w' : World} {n : Nat} {xs ys : List FrM} (h : WFs base w n xs ys) (hb : Below w.heap.size w w') : WFs base w' n xs ys :=
  ⟨fun j y hy hj => by obtain ⟨x, B1, B2, h1, h2, h3⟩ := h.el j y hy hj; exact ⟨x, B1, B2, h1, h2, h3.later hb⟩, h.mrk⟩
theorem WFs.put {base : Nat} {w : World} {n : Nat} {xs ys : List FrM} {B i : Nat} {v : Value} {cur : Array Value} (h : WFs base w n xs ys) (hB : w.heap[B]? = some (.cells cur 66)) : WFs base (w.setCell ⟨B, i, none⟩ v) n xs ys :=
  ⟨fun j y hy hj => by
    obtain ⟨x, B1, B2, h1, h2, h3⟩ := h.el j y hy hj
    have n1 : B1 ≠ B := fun e => by
      have := h3.l
      unfold WW at this
      rw [e, hB] at this
      injection this with this
      injection this with _ this
      exact absurd this (by decide)
    have n2 : B2 ≠ B := fun e => by
      have := h3.s
      unfold WW at this
      rw [e, hB] at this
      injection this with this
      injection this with _ this
      exact absurd this (by decide)
    exact ⟨x, B1, B2, h1, h2, put_blk n1 h3.l, put_blk n2 h3.s, h3.b1, h3.b2⟩, h.mrk⟩
theorem WFs.snoc {base : Nat} {w : World} {n : Nat} {xs ys : List FrM} {k : Nat} (hk : ys.length = k) (h : WFs base w n xs ys) {y : FrM} (h1 : k < n → ∃ x B1 B2, xs[k]? = some x ∧ y = wdF x B1 B2 ∧ W1F base w x B1 B2) (h2 : n ≤ k → y = mkF k) : WFs base w n xs (ys ++ [y]) := by
  refine ⟨fun j z hz hj => ?_, fun j z hz hj => ?_⟩
  · by_cases hjk : j < k
    · rw [List.getElem?_append_left (by omega)] at hz
      exact h.el j z hz hj
    · rw [List.getElem?_append_right (by omega)] at hz
      have hjj : j = k := by have := lt_of_get hz; simp at this; omega
      subst hjj
      rw [hk, Nat.sub_self] at hz
      simp at hz
      subst hz
      exact h1 hj
  · by_cases hjk : j < k
    · rw [List.getElem?_append_left (by omega)] at hz
      exact h.mrk j z hz hj
    · rw [List.getElem?_append_right (by omega)] at hz
      have hjj : j = k := by have := lt_of_get hz; simp at this; omega
      subst hjj
      rw [hk, Nat.sub_self] at hz
      simp at hz
      subst hz
      exact h2 hj
set_option maxHeartbeats 4000000 in
theorem wideFs (a : Option Addr) (n c : Nat) (xs : List FrM) (w : World) (h : SFr w a n xs) (hn : n ≤ 2147483647) (hb : ∀ x ∈ xs, x.2.2.1.1.2.1 ≤ 2147483647 ∧ x.2.2.2.1.2.1 ≤ 2147483647) :
    Calls Tryd.prog 22 #[.slice a n c] w fun e w' => ∃ B ys, e = .returned (.slice (some ⟨B, 0, none⟩) n (n + 64)) ∧ ys.length = n + 64 ∧ w'.heap[B]? = some (.cells (ys.flatMap frCs).toArray 66) ∧ WFs w.heap.size w' n xs ys ∧ w.heap.size ≤ B ∧ Below w.heap.size w w' := by
  have HL := hid h.len
  have HSH := hid (fun (W : World) (hW : Below w.heap.size w W) => h.later hW)
  have HBD := hid hb
  obtain ⟨i0, hi0, hz0, hz1, hz2⟩ := info_parts Tryd.inf43
  have hmk : (Instr.makeSlice 22 (.int .i64 ((n : Int) + 64)) (.int .i64 ((n : Int) + 64))).run Tryd.prog w = .ok (.slice (some ⟨w.heap.size, 0, none⟩) (n + 64) (n + 64)) (w.alloc (.cells ((List.replicate (n + 64) zF).flatMap frCs).toArray 66)) := by
    have := run_make (P := Tryd.prog) w 22 66 i0 _ Tryd.underlying22 hi0 hz0 .i64 .i64 ((n + 64 : Nat) : Int) ((n + 64 : Nat) : Int) (by omega) (Int.le_refl _) (by rw [hz2]; omega) (by omega)
    rw [Int.toNat_natCast, hz1] at this
    have e : madeCells (Value.agg #[.int .i64 0, .int .i64 0, .slice none 0 0, .slice none 0 0]).cells ((n + 64) * 4) = ((List.replicate (n + 64) zF).flatMap frCs).toArray := by
      apply Array.toList_inj.1
      exact made4 (n + 64)
    rw [e] at this
    exact this
  have HB0 := hid (below_new w (.cells ((List.replicate (n + 64) zF).flatMap frCs).toArray 66))
  have HK0 := hid (nb_new w (.cells ((List.replicate (n + 64) zF).flatMap frCs).toArray 66))
  have HM := hid (fun (k : Nat) (hk : k ≤ 4294967296) (W : World) => numC 9 k W (by omega) (by omega))
  clear h hb hi0 hz0 hz1 hz2
  go_enter Tryd.func22, Tryd.ntmps22
  go_wp2_with fail
  generalize w.alloc (.cells ((List.replicate (n + 64) zF).flatMap frCs).toArray 66) = W1 at *
  go_loopw [4] (fun i wr => ∃ (k : Nat) (ys : List FrM), k ≤ n + 64 ∧ i = .int .i64 k ∧ Hid (ys.length = k) ∧ Hid (wr.heap[w.heap.size]? = some (.cells ((ys ++ List.replicate (n + 64 - k) zF).flatMap frCs).toArray 66)) ∧ Hid (WFs w.heap.size wr n xs ys) ∧ Hid (Below w.heap.size w wr)) (fun i _ => n + 64 - (intOf i).toNat)
  case atStart => exact ⟨0, [], by omega, rfl, hid rfl, HK0, hid ⟨fun j y hy => (by simp at hy), fun j y hy => (by simp at hy)⟩, HB0⟩
  clear HK0 HB0
  case round =>
    obtain ⟨k, ys, hk, rfl, HYL, HX, HWF, HB⟩ := hrel
    by_cases hlt : k < n + 64
    · have hlt' : (k : Int) < (n : Int) + 64 := by omega
      have HCL := hid (fun (W : World) (hW : W.heap[w.heap.size]? = some (.cells ((ys ++ List.replicate (n + 64 - k) zF).flatMap frCs).toArray 66)) => (show ∀ q, q < 4 → ∃ u, W.cell? ⟨w.heap.size, k * 4 + q, none⟩ = some u from fun q hq => by
        rw [cell_at hW]
        have hsz : k * 4 + q < (((ys ++ List.replicate (n + 64 - k) zF).flatMap frCs)).length := by rw [fm4_len, List.length_append, List.length_replicate, HYL.out]; omega
        exact ⟨_, by rw [List.getElem?_toArray]; exact List.getElem?_eq_getElem hsz⟩))
      have HPUT := hid (fun (W : World) (hW : W.heap[w.heap.size]? = some (.cells ((ys ++ List.replicate (n + 64 - k) zF).flatMap frCs).toArray 66)) (y : FrM) => (show ((((W.setCell ⟨w.heap.size, k * 4, none⟩ (.int .i64 y.1)).setCell ⟨w.heap.size, k * 4 + 1, none⟩ (.int .i64 y.2.1)).setCell ⟨w.heap.size, k * 4 + 2, none⟩ (.slice y.2.2.1.1.1 y.2.2.1.1.2.1 y.2.2.1.1.2.2)).setCell ⟨w.heap.size, k * 4 + 3, none⟩ (.slice y.2.2.2.1.1 y.2.2.2.1.2.1 y.2.2.2.1.2.2)).heap[w.heap.size]? = some (.cells (((ys ++ [y]) ++ List.replicate (n + 64 - (k + 1)) zF).flatMap frCs).toArray 66) from by
        rw [← set4 ys y (List.replicate (n + 64 - (k + 1)) zF) k HYL.out]
        have h0 := hW
        rw [show n + 64 - k = n + 64 - (k + 1) + 1 by omega, List.replicate_succ] at h0
        exact blk_set (blk_set (blk_set (blk_set h0)))))
      by_cases hkn : k < n
      · have hkn' : (k : Int) < n := by omega
        obtain ⟨x, hx⟩ : ∃ x, xs[k]? = some x := ⟨_, List.getElem?_eq_getElem (by have := HL.out; omega)⟩
        have hsf := HSH.out wr HB.out
        obtain ⟨b, o, rfl, hsrc⟩ := hsf.at_.resolve_left (by omega)
        obtain ⟨c0, c1, c2, c3⟩ := hsrc k x hx
        have hin := hsf.in_ x (List.mem_of_getElem? hx)
        have hbd := HBD.out x (List.mem_of_getElem? hx)
        have HWX := hid (wideF1 x wr hin.1 hin.2 hbd.1 hbd.2)
        have HX2 := hid hx
        clear hsrc hsf hx HSH HM HBD hin hbd
        obtain ⟨y1, y2, ⟨⟨y3a, y3n, y3c⟩, y3⟩, ⟨⟨y4a, y4n, y4c⟩, y4⟩⟩ := x
        simp only at c0 c1 c2 c3
        go_wp2_with fail
        refine HWX.out.mono ?_
        rintro e w2 ⟨B1, B2, rfl, hw1, hb2⟩
        have hx2 := nb_later hb2 HX.out
        obtain ⟨u0, d0⟩ := HCL.out w2 hx2 0 (by omega)
        obtain ⟨u1, d1⟩ := HCL.out w2 hx2 1 (by omega)
        obtain ⟨u2, d2⟩ := HCL.out w2 hx2 2 (by omega)
        obtain ⟨u3, d3⟩ := HCL.out w2 hx2 3 (by omega)
        rw [Nat.add_zero] at d0
        have z0 : w2.frozen? ⟨w.heap.size, k * 4, none⟩ = false := frzB hx2
        have z1 : w2.frozen? ⟨w.heap.size, k * 4 + 1, none⟩ = false := frzB hx2
        have z2 : w2.frozen? ⟨w.heap.size, k * 4 + 2, none⟩ = false := frzB hx2
        have z3 : w2.frozen? ⟨w.heap.size, k * 4 + 3, none⟩ = false := frzB hx2
        have hrow := HPUT.out w2 hx2 (wdF (y1, y2, ((y3a, y3n, y3c), y3), ((y4a, y4n, y4c), y4)) B1 B2)
        have hwf := ((((WFs.snoc HYL.out (HWF.out.later hb2) (y := wdF (y1, y2, ((y3a, y3n, y3c), y3), ((y4a, y4n, y4c), y4)) B1 B2) (fun _ => ⟨_, B1, B2, HX2.out, rfl, ⟨hw1.l, hw1.s, Nat.le_trans HB.out.size hw1.b1, Nat.le_trans HB.out.size hw1.b2⟩⟩) (fun h => by omega)).put (i := k * 4) (v := .int .i64 y1) hx2).put (i := k * 4 + 1) (v := .int .i64 y2) (blk_set hx2)).put (i := k * 4 + 2) (v := .slice (some ⟨B1, 0, none⟩) y3n (y3n + 64)) (blk_set (blk_set hx2))).put (i := k * 4 + 3) (v := .slice (some ⟨B2, 0, none⟩) y4n (y4n + 64)) (blk_set (blk_set (blk_set hx2)))
        have hbl : Below w.heap.size w ((((w2.setCell ⟨w.heap.size, k * 4, none⟩ (.int .i64 y1)).setCell ⟨w.heap.size, k * 4 + 1, none⟩ (.int .i64 y2)).setCell ⟨w.heap.size, k * 4 + 2, none⟩ (.slice (some ⟨B1, 0, none⟩) y3n (y3n + 64))).setCell ⟨w.heap.size, k * 4 + 3, none⟩ (.slice (some ⟨B2, 0, none⟩) y4n (y4n + 64))) := ((((HB.out.trans (hb2.mono HB.out.size)).setCell (Nat.le_refl _) _).setCell (Nat.le_refl _) _).setCell (Nat.le_refl _) _).setCell (Nat.le_refl _) _
        simp only at hrow
        have R2 := hid hrow
        have F2 := hid hwf
        have BB := hid hbl
        clear hrow hwf hbl hx2 hw1 hb2 HWX HCL HPUT HX HWF
        go_wp2_with fail
        generalize ((((w2.setCell ⟨w.heap.size, k * 4, none⟩ (.int .i64 y1)).setCell ⟨w.heap.size, k * 4 + 1, none⟩ (.int .i64 y2)).setCell ⟨w.heap.size, k * 4 + 2, none⟩ (.slice (some ⟨B1, 0, none⟩) y3n (y3n + 64))).setCell ⟨w.heap.size, k * 4 + 3, none⟩ (.slice (some ⟨B2, 0, none⟩) y4n (y4n + 64))) = X at *
        exact ⟨⟨k + 1, _, by omega, by go_num, hid (by rw [List.length_append, HYL.out]; rfl), R2, F2, BB⟩, by simp [intOf]; omega⟩
      · have hkn' : ¬ (k : Int) < n := by omega
        have HMk := hid (HM.out k (by omega) wr)
        have hx2 := HX.out
        obtain ⟨u0, d0⟩ := HCL.out wr hx2 0 (by omega)
        obtain ⟨u1, d1⟩ := HCL.out wr hx2 1 (by omega)
        obtain ⟨u2, d2⟩ := HCL.out wr hx2 2 (by omega)
        obtain ⟨u3, d3⟩ := HCL.out wr hx2 3 (by omega)
        rw [Nat.add_zero] at d0
        have z0 : wr.frozen? ⟨w.heap.size, k * 4, none⟩ = false := frzB hx2
        have z1 : wr.frozen? ⟨w.heap.size, k * 4 + 1, none⟩ = false := frzB hx2
        have z2 : wr.frozen? ⟨w.heap.size, k * 4 + 2, none⟩ = false := frzB hx2
        have z3 : wr.frozen? ⟨w.heap.size, k * 4 + 3, none⟩ = false := frzB hx2
        have hrow := HPUT.out wr hx2 (mkF k)
        have hwf := ((((WFs.snoc HYL.out HWF.out (y := mkF k) (fun h => absurd h hkn) (fun _ => rfl)).put (i := k * 4) (v := .int .i64 0) hx2).put (i := k * 4 + 1) (v := .int .i64 (9437184 + (k : Int) + 1)) (blk_set hx2)).put (i := k * 4 + 2) (v := .slice none 0 0) (blk_set (blk_set hx2))).put (i := k * 4 + 3) (v := .slice none 0 0) (blk_set (blk_set (blk_set hx2)))
        have hbl : Below w.heap.size w ((((wr.setCell ⟨w.heap.size, k * 4, none⟩ (.int .i64 0)).setCell ⟨w.heap.size, k * 4 + 1, none⟩ (.int .i64 (9437184 + (k : Int) + 1))).setCell ⟨w.heap.size, k * 4 + 2, none⟩ (.slice none 0 0)).setCell ⟨w.heap.size, k * 4 + 3, none⟩ (.slice none 0 0)) := (((HB.out.setCell (Nat.le_refl _) _).setCell (Nat.le_refl _) _).setCell (Nat.le_refl _) _).setCell (Nat.le_refl _) _
        simp only at hrow
        have R2 := hid hrow
        have F2 := hid hwf
        have BB := hid hbl
        clear hrow hwf hbl hx2 HCL HPUT HX HWF HSH HM
        go_wp2_with fail
        refine HMk.out.mono ?_
        rintro e w' ⟨rfl, hw'⟩
        rw [hw']
        have hnm : (1048576 * ((9 : Nat) : Int) + (k : Int) + 1) = 9437184 + (k : Int) + 1 := by omega
        rw [hnm]
        clear hw' HMk
        go_wp2_with fail
        generalize ((((wr.setCell ⟨w.heap.size, k * 4, none⟩ (.int .i64 0)).setCell ⟨w.heap.size, k * 4 + 1, none⟩ (.int .i64 (9437184 + (k : Int) + 1))).setCell ⟨w.heap.size, k * 4 + 2, none⟩ (.slice none 0 0)).setCell ⟨w.heap.size, k * 4 + 3, none⟩ (.slice none 0 0)) = X at *
        exact ⟨⟨k + 1, _, by omega, by go_num, hid (by rw [List.length_append, HYL.out]; rfl), R2, F2, BB⟩, by simp [intOf]; omega⟩
    · obtain rfl : k = n + 64 := by omega
      clear HSH HM HBD
      go_wp2_with fail
      go_ret
      refine ⟨w.heap.size, ys, rfl, HYL.out, ?_, HWF.out, Nat.le_refl _, HB.out⟩
      have := HX.out
      rw [Nat.sub_self, List.replicate_zero, List.append_nil] at this
      exact this
end Go.Proofs.YtbdjghokedfkfaaDoor
