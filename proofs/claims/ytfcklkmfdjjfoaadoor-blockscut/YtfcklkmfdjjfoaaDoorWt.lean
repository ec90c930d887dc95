/-
  The walk over WideTable.
-/
import Derived.Test.YtfcklkmfdjjfoaaDoorTb
namespace Go.Proofs.YtfcklkmfdjjfoaaDoor
open Go.RowKit
set_option linter.unusedVariables false

/-- WideInts, of a list of any length. -/
theorem wideL (a : Option Addr) (n cap : Nat) (zs : List Int) (w : World) (h : SegL w a n cap zs) (hn : n ≤ 17592186044416) :
    Calls Tryd.prog 27 #[.slice a n cap] w fun e w' => e = .returned (.slice (some ⟨w.heap.size, 0, none⟩) n (n + 64)) ∧
      (∀ j, j < n + 64 → w'.cell? ⟨w.heap.size, j, none⟩ = some (.int .i64 (wlI zs j))) ∧ Below w.heap.size w w' ∧ w.heap.size < w'.heap.size := by
  refine (wideI_in a n cap zs w h.1 hn h.2.2.2).mono fun e w' ⟨he, ho, hb⟩ => ?_
  have hc : ∀ j, j < n + 64 → w'.cell? ⟨w.heap.size, j, none⟩ = some (.int .i64 (wlI zs j)) := fun j hj => by
    rw [ho.cellAt j (by omega)]
    simp [wideI, hj]
  exact ⟨he, hc, hb, block_lt_of_cell (hc 0 (by omega))⟩

/-- The box and the result's block, between two of the calls. -/
structure Bx (w : World) (v0 v1 v2 v3 v4 : Value) (W : World) : Prop where
  c0 : W.cell? ⟨w.heap.size, 0, none⟩ = some v0
  c1 : W.cell? ⟨w.heap.size, 1, none⟩ = some v1
  c2 : W.cell? ⟨w.heap.size, 2, none⟩ = some v2
  c3 : W.cell? ⟨w.heap.size, 3, none⟩ = some v3
  c4 : W.cell? ⟨w.heap.size, 4, none⟩ = some v4
  fz : ∀ i, W.frozen? ⟨w.heap.size, i, none⟩ = false
  rz : ∀ i, W.frozen? ⟨w.heap.size + 1, i, none⟩ = false
  r : ∀ i, i < 5 → (W.cell? ⟨w.heap.size + 1, i, none⟩).isSome = true
  bel : Below w.heap.size w W
  size : w.heap.size + 1 < W.heap.size
theorem Bx.later {w : World} {v0 v1 v2 v3 v4 : Value} {W W' : World} (h : Bx w v0 v1 v2 v3 v4 W) (hb : Below W.heap.size W W') : Bx w v0 v1 v2 v3 v4 W' := by
  have hs := h.size
  have b0 := hb.block w.heap.size (by omega)
  have b1 := hb.block (w.heap.size + 1) hs
  exact ⟨(cell_of_block b0 0).trans h.c0, (cell_of_block b0 1).trans h.c1, (cell_of_block b0 2).trans h.c2, (cell_of_block b0 3).trans h.c3, (cell_of_block b0 4).trans h.c4, fun i => (frozen_of_block b0 i).trans (h.fz i), fun i => (frozen_of_block b1 i).trans (h.rz i), fun i hi => by rw [cell_of_block b1 i]; exact h.r i hi, h.bel.trans (hb.mono (by omega)), by have := hb.size; omega⟩
theorem Bx.set0 {w : World} {v0 v1 v2 v3 v4 : Value} {W : World} (h : Bx w v0 v1 v2 v3 v4 W) (u : Value) : Bx w u v1 v2 v3 v4 (W.setCell ⟨w.heap.size, 0, none⟩ u) := by
  have ot : ∀ j, j ≠ 0 → (W.setCell ⟨w.heap.size, 0, none⟩ u).cell? ⟨w.heap.size, j, none⟩ = W.cell? ⟨w.heap.size, j, none⟩ := fun j hj => World.cell?_setCell_other _ _ _ _ (fun e => hj (by injection e with _ e2; exact e2.symm))
  have or : ∀ j, (W.setCell ⟨w.heap.size, 0, none⟩ u).cell? ⟨w.heap.size + 1, j, none⟩ = W.cell? ⟨w.heap.size + 1, j, none⟩ := fun j => World.cell?_setCell_other _ _ _ _ (fun e => by injection e with e1; omega)
  have sm : (W.setCell ⟨w.heap.size, 0, none⟩ u).cell? ⟨w.heap.size, 0, none⟩ = some u := World.cell?_setCell_same' _ _ _ (by rw [h.c0]; rfl)
  exact ⟨sm, (ot 1 (by decide)).trans h.c1, (ot 2 (by decide)).trans h.c2, (ot 3 (by decide)).trans h.c3, (ot 4 (by decide)).trans h.c4, fun j => (World.frozen?_setCell _ _ _ _).trans (h.fz j), fun j => (World.frozen?_setCell _ _ _ _).trans (h.rz j), fun j hj => by rw [or j]; exact h.r j hj, h.bel.setCell (by simp) _, by rw [World.size_setCell]; exact h.size⟩
theorem Bx.set1 {w : World} {v0 v1 v2 v3 v4 : Value} {W : World} (h : Bx w v0 v1 v2 v3 v4 W) (u : Value) : Bx w v0 u v2 v3 v4 (W.setCell ⟨w.heap.size, 1, none⟩ u) := by
  have ot : ∀ j, j ≠ 1 → (W.setCell ⟨w.heap.size, 1, none⟩ u).cell? ⟨w.heap.size, j, none⟩ = W.cell? ⟨w.heap.size, j, none⟩ := fun j hj => World.cell?_setCell_other _ _ _ _ (fun e => hj (by injection e with _ e2; exact e2.symm))
  have or : ∀ j, (W.setCell ⟨w.heap.size, 1, none⟩ u).cell? ⟨w.heap.size + 1, j, none⟩ = W.cell? ⟨w.heap.size + 1, j, none⟩ := fun j => World.cell?_setCell_other _ _ _ _ (fun e => by injection e with e1; omega)
  have sm : (W.setCell ⟨w.heap.size, 1, none⟩ u).cell? ⟨w.heap.size, 1, none⟩ = some u := World.cell?_setCell_same' _ _ _ (by rw [h.c1]; rfl)
  exact ⟨(ot 0 (by decide)).trans h.c0, sm, (ot 2 (by decide)).trans h.c2, (ot 3 (by decide)).trans h.c3, (ot 4 (by decide)).trans h.c4, fun j => (World.frozen?_setCell _ _ _ _).trans (h.fz j), fun j => (World.frozen?_setCell _ _ _ _).trans (h.rz j), fun j hj => by rw [or j]; exact h.r j hj, h.bel.setCell (by simp) _, by rw [World.size_setCell]; exact h.size⟩
theorem Bx.set2 {w : World} {v0 v1 v2 v3 v4 : Value} {W : World} (h : Bx w v0 v1 v2 v3 v4 W) (u : Value) : Bx w v0 v1 u v3 v4 (W.setCell ⟨w.heap.size, 2, none⟩ u) := by
  have ot : ∀ j, j ≠ 2 → (W.setCell ⟨w.heap.size, 2, none⟩ u).cell? ⟨w.heap.size, j, none⟩ = W.cell? ⟨w.heap.size, j, none⟩ := fun j hj => World.cell?_setCell_other _ _ _ _ (fun e => hj (by injection e with _ e2; exact e2.symm))
  have or : ∀ j, (W.setCell ⟨w.heap.size, 2, none⟩ u).cell? ⟨w.heap.size + 1, j, none⟩ = W.cell? ⟨w.heap.size + 1, j, none⟩ := fun j => World.cell?_setCell_other _ _ _ _ (fun e => by injection e with e1; omega)
  have sm : (W.setCell ⟨w.heap.size, 2, none⟩ u).cell? ⟨w.heap.size, 2, none⟩ = some u := World.cell?_setCell_same' _ _ _ (by rw [h.c2]; rfl)
  exact ⟨(ot 0 (by decide)).trans h.c0, (ot 1 (by decide)).trans h.c1, sm, (ot 3 (by decide)).trans h.c3, (ot 4 (by decide)).trans h.c4, fun j => (World.frozen?_setCell _ _ _ _).trans (h.fz j), fun j => (World.frozen?_setCell _ _ _ _).trans (h.rz j), fun j hj => by rw [or j]; exact h.r j hj, h.bel.setCell (by simp) _, by rw [World.size_setCell]; exact h.size⟩
theorem Bx.set3 {w : World} {v0 v1 v2 v3 v4 : Value} {W : World} (h : Bx w v0 v1 v2 v3 v4 W) (u : Value) : Bx w v0 v1 v2 u v4 (W.setCell ⟨w.heap.size, 3, none⟩ u) := by
  have ot : ∀ j, j ≠ 3 → (W.setCell ⟨w.heap.size, 3, none⟩ u).cell? ⟨w.heap.size, j, none⟩ = W.cell? ⟨w.heap.size, j, none⟩ := fun j hj => World.cell?_setCell_other _ _ _ _ (fun e => hj (by injection e with _ e2; exact e2.symm))
  have or : ∀ j, (W.setCell ⟨w.heap.size, 3, none⟩ u).cell? ⟨w.heap.size + 1, j, none⟩ = W.cell? ⟨w.heap.size + 1, j, none⟩ := fun j => World.cell?_setCell_other _ _ _ _ (fun e => by injection e with e1; omega)
  have sm : (W.setCell ⟨w.heap.size, 3, none⟩ u).cell? ⟨w.heap.size, 3, none⟩ = some u := World.cell?_setCell_same' _ _ _ (by rw [h.c3]; rfl)
  exact ⟨(ot 0 (by decide)).trans h.c0, (ot 1 (by decide)).trans h.c1, (ot 2 (by decide)).trans h.c2, sm, (ot 4 (by decide)).trans h.c4, fun j => (World.frozen?_setCell _ _ _ _).trans (h.fz j), fun j => (World.frozen?_setCell _ _ _ _).trans (h.rz j), fun j hj => by rw [or j]; exact h.r j hj, h.bel.setCell (by simp) _, by rw [World.size_setCell]; exact h.size⟩
theorem cells_keep {w W W' : World} {B m i : Nat} {f : Nat → Value} {u : Value} (h : ∀ j, j < m → W.cell? ⟨B, j, none⟩ = some (f j)) (hb : Below W.heap.size W W') (hne : w.heap.size ≠ B) : ∀ j, j < m → (W'.setCell ⟨w.heap.size, i, none⟩ u).cell? ⟨B, j, none⟩ = some (f j) := fun j hj => by
  rw [World.cell?_setCell_other _ _ _ _ (fun e => hne (by injection e))]
  exact (hb.cell (by exact block_lt_of_cell (h j hj))).trans (h j hj)
theorem cells_set {w W : World} {B m i : Nat} {f : Nat → Value} {u : Value} (h : ∀ j, j < m → W.cell? ⟨B, j, none⟩ = some (f j)) (hne : w.heap.size ≠ B) : ∀ j, j < m → (W.setCell ⟨w.heap.size, i, none⟩ u).cell? ⟨B, j, none⟩ = some (f j) := fun j hj => by
  rw [World.cell?_setCell_other _ _ _ _ (fun e => hne (by injection e))]
  exact h j hj

set_option maxRecDepth 100000 in
set_option maxHeartbeats 8000000 in
theorem wideTab (TB : Nat) (sa : Option Addr) (sn sc : Nat) (ea : Option Addr) (en ec : Nat) (la : Option Addr) (ln lc : Nat) (fa : Option Addr) (fn fc : Nat) (hi : Int) (S : List ByteArray) (E1 E2 E3 : List Int) (w : World) (h : TbS w sa sn sc ea en ec la ln lc fa fn fc S E1 E2 E3) (hn : TbN sn en ln fn) (ht : Tens TB w) (hTB : TB ≤ w.heap.size) :
    Calls Tryd.prog 8 #[tabV sa sn sc ea en ec la ln lc fa fn fc hi] w fun e w' => ∃ B0 B1 B2 B3, e = .returned (tabV (some ⟨B0, 0, none⟩) sn (sn + 64) (some ⟨B1, 0, none⟩) en (en + 64) (some ⟨B2, 0, none⟩) ln (ln + 64) (some ⟨B3, 0, none⟩) fn (fn + 64) hi) ∧ WdT w' B0 B1 B2 B3 sn en ln fn S E1 E2 E3 ∧ Below w.heap.size w w' := by
  obtain ⟨o1, ho1⟩ : ∃ o, o = Obj.cells #[Value.slice sa sn sc, .slice ea en ec, .slice la ln lc, .slice fa fn fc, .int .i64 hi] 26 := ⟨_, rfl⟩
  obtain ⟨o2, ho2⟩ : ∃ o, o = Obj.cells #[Value.slice none 0 0, .slice none 0 0, .slice none 0 0, .slice none 0 0, .int .i64 0] 26 := ⟨_, rfl⟩
  have hbx : Bx w (.slice sa sn sc) (.slice ea en ec) (.slice la ln lc) (.slice fa fn fc) (.int .i64 hi) ((w.alloc o1).alloc o2) := by
    refine ⟨?_, ?_, ?_, ?_, ?_, ?_, ?_, ?_, ((Below.refl _ w).alloc (Nat.le_refl _) o1).alloc (by simp) o2, by simp⟩
    · rw [ho1, ho2]; simp [go_sem]
    · rw [ho1, ho2]; simp [go_sem]
    · rw [ho1, ho2]; simp [go_sem]
    · rw [ho1, ho2]; simp [go_sem]
    · rw [ho1, ho2]; simp [go_sem]
    · intro i; rw [ho1, ho2]; simp [go_sem]
    · intro i; rw [ho1, ho2]; simp [go_sem]
    · intro i hi; rw [ho1, ho2]
      rcases i with _ | _ | _ | _ | _ | i
      · simp [go_sem]
      · simp [go_sem]
      · simp [go_sem]
      · simp [go_sem]
      · simp [go_sem]
      · omega
  have HH := hid h
  have HT := hid ht
  have ns := hn.s
  have ne := hn.e
  have nl := hn.l
  have nf := hn.f
  have HX := hid hbx
  have H0 := hid (wideT TB sa sn sc S ((w.alloc o1).alloc o2) (h.later hbx.bel (Nat.le_refl _)).s (ht.later (hbx.bel.mono hTB)) (by have := hbx.size; omega))
  have x0 := hbx.c0
  have f0 := hbx.fz 0
  have hsz := hbx.size
  clear h ht hn hbx
  go_enter Tryd.func8, Tryd.ntmps8
  go_wp2_with fail
  rw [← ho1, ← ho2]
  clear ho1 ho2
  generalize (w.alloc o1).alloc o2 = W0 at *
  refine H0.out.mono ?_
  rintro e w1 ⟨rfl, hc0, hb0, hz0⟩
  have hx0 := HX.out.later hb0
  have d0 := hx0.c0
  have g0 := hx0.fz 0
  have hy0 := hx0.set0 (.slice (some ⟨W0.heap.size, 0, none⟩) sn (sn + 64))
  have hne0 : w.heap.size ≠ W0.heap.size := by omega
  have C0 := hid (cells_set (w := w) (i := 0) (u := .slice (some ⟨W0.heap.size, 0, none⟩) sn (sn + 64)) hc0 hne0)
  have HX' := hid hy0
  clear HX
  have HX := HX'
  clear HX' H0 hb0 hc0 hx0 x0 f0
  have hsz0 := hy0.size
  have x1 := hy0.c1
  have f1 := hy0.fz 1
  have H1 := hid (wideL ea en ec E1 (w1.setCell ⟨w.heap.size, 0, none⟩ (.slice (some ⟨W0.heap.size, 0, none⟩) sn (sn + 64))) (HH.out.later hy0.bel (Nat.le_refl _)).e ne)
  clear hy0
  go_wp2_with fail
  generalize hW1 : (w1.setCell ⟨w.heap.size, 0, none⟩ (.slice (some ⟨W0.heap.size, 0, none⟩) sn (sn + 64))) = W1 at *
  clear hW1
  refine H1.out.mono ?_
  rintro e w2 ⟨rfl, hc1, hb1, hz1⟩
  have hx1 := HX.out.later hb1
  have d1 := hx1.c1
  have g1 := hx1.fz 1
  have hy1 := hx1.set1 (.slice (some ⟨W1.heap.size, 0, none⟩) en (en + 64))
  have hne1 : w.heap.size ≠ W1.heap.size := by omega
  have C1 := hid (cells_set (w := w) (i := 1) (u := .slice (some ⟨W1.heap.size, 0, none⟩) en (en + 64)) hc1 hne1)
  have C0' := hid (cells_keep (i := 1) (u := .slice (some ⟨W1.heap.size, 0, none⟩) en (en + 64)) C0.out hb1 hne0)
  clear C0
  have C0 := C0'
  clear C0'
  have HX' := hid hy1
  clear HX
  have HX := HX'
  clear HX' H1 hb1 hc1 hx1 x1 f1
  have hsz1 := hy1.size
  have x1 := hy1.c2
  have f1 := hy1.fz 2
  have H2 := hid (wideL la ln lc E2 (w2.setCell ⟨w.heap.size, 1, none⟩ (.slice (some ⟨W1.heap.size, 0, none⟩) en (en + 64))) (HH.out.later hy1.bel (Nat.le_refl _)).l nl)
  clear hy1
  go_wp2_with fail
  generalize hW2 : (w2.setCell ⟨w.heap.size, 1, none⟩ (.slice (some ⟨W1.heap.size, 0, none⟩) en (en + 64))) = W2 at *
  clear hW2
  refine H2.out.mono ?_
  rintro e w3 ⟨rfl, hc2, hb2, hz2⟩
  have hx2 := HX.out.later hb2
  have d2 := hx2.c2
  have g2 := hx2.fz 2
  have hy2 := hx2.set2 (.slice (some ⟨W2.heap.size, 0, none⟩) ln (ln + 64))
  have hne2 : w.heap.size ≠ W2.heap.size := by omega
  have C2 := hid (cells_set (w := w) (i := 2) (u := .slice (some ⟨W2.heap.size, 0, none⟩) ln (ln + 64)) hc2 hne2)
  have C0' := hid (cells_keep (i := 2) (u := .slice (some ⟨W2.heap.size, 0, none⟩) ln (ln + 64)) C0.out hb2 hne0)
  clear C0
  have C0 := C0'
  clear C0'
  have C1' := hid (cells_keep (i := 2) (u := .slice (some ⟨W2.heap.size, 0, none⟩) ln (ln + 64)) C1.out hb2 hne1)
  clear C1
  have C1 := C1'
  clear C1'
  have HX' := hid hy2
  clear HX
  have HX := HX'
  clear HX' H2 hb2 hc2 hx2 x1 f1
  have hsz2 := hy2.size
  have x1 := hy2.c3
  have f1 := hy2.fz 3
  have H3 := hid (wideL fa fn fc E3 (w3.setCell ⟨w.heap.size, 2, none⟩ (.slice (some ⟨W2.heap.size, 0, none⟩) ln (ln + 64))) (HH.out.later hy2.bel (Nat.le_refl _)).f nf)
  clear hy2
  go_wp2_with fail
  generalize hW3 : (w3.setCell ⟨w.heap.size, 2, none⟩ (.slice (some ⟨W2.heap.size, 0, none⟩) ln (ln + 64))) = W3 at *
  clear hW3
  refine H3.out.mono ?_
  rintro e w4 ⟨rfl, hc3, hb3, hz3⟩
  have hx3 := HX.out.later hb3
  have d3 := hx3.c3
  have g3 := hx3.fz 3
  have hy3 := hx3.set3 (.slice (some ⟨W3.heap.size, 0, none⟩) fn (fn + 64))
  have hne3 : w.heap.size ≠ W3.heap.size := by omega
  have C3 := hid (cells_set (w := w) (i := 3) (u := .slice (some ⟨W3.heap.size, 0, none⟩) fn (fn + 64)) hc3 hne3)
  have C0' := hid (cells_keep (i := 3) (u := .slice (some ⟨W3.heap.size, 0, none⟩) fn (fn + 64)) C0.out hb3 hne0)
  clear C0
  have C0 := C0'
  clear C0'
  have C1' := hid (cells_keep (i := 3) (u := .slice (some ⟨W3.heap.size, 0, none⟩) fn (fn + 64)) C1.out hb3 hne1)
  clear C1
  have C1 := C1'
  clear C1'
  have C2' := hid (cells_keep (i := 3) (u := .slice (some ⟨W3.heap.size, 0, none⟩) fn (fn + 64)) C2.out hb3 hne2)
  clear C2
  have C2 := C2'
  clear C2'
  have HX' := hid hy3
  clear HX
  have HX := HX'
  clear HX' H3 hb3 hc3 hx3 x1 f1
  have hsz3 := hy3.size
  have y0 := hy3.c0
  have y1 := hy3.c1
  have y2 := hy3.c2
  have y3 := hy3.c3
  have y4 := hy3.c4
  have q0 := hy3.rz 0
  have q1 := hy3.rz 1
  have q2 := hy3.rz 2
  have q3 := hy3.rz 3
  have q4 := hy3.rz 4
  have S5 := fun u0 u1 u2 u3 u4 => set5 (Z := w.heap.size + 1) (u0 := u0) (u1 := u1) (u2 := u2) (u3 := u3) (u4 := u4) (hy3.r 0 (by decide)) (hy3.r 1 (by decide)) (hy3.r 2 (by decide)) (hy3.r 3 (by decide)) (hy3.r 4 (by decide))
  obtain ⟨s0, e0⟩ := Option.isSome_iff_exists.1 (hy3.r 0 (by decide))
  obtain ⟨s1, e1⟩ := Option.isSome_iff_exists.1 (hy3.r 1 (by decide))
  obtain ⟨s2, e2⟩ := Option.isSome_iff_exists.1 (hy3.r 2 (by decide))
  obtain ⟨s3, e3⟩ := Option.isSome_iff_exists.1 (hy3.r 3 (by decide))
  obtain ⟨s4, e4⟩ := Option.isSome_iff_exists.1 (hy3.r 4 (by decide))
  have HS5 := hid S5
  clear S5
  clear hy3
  go_wp2_with fail
  have R := HS5.out (.slice (some ⟨W0.heap.size, 0, none⟩) sn (sn + 64)) (.slice (some ⟨W1.heap.size, 0, none⟩) en (en + 64)) (.slice (some ⟨W2.heap.size, 0, none⟩) ln (ln + 64)) (.slice (some ⟨W3.heap.size, 0, none⟩) fn (fn + 64)) (.int .i64 hi)
  generalize (((((((w4.setCell ⟨w.heap.size, 3, none⟩ (.slice (some ⟨W3.heap.size, 0, none⟩) fn (fn + 64)))).setCell ⟨w.heap.size + 1, 0, none⟩ (.slice (some ⟨W0.heap.size, 0, none⟩) sn (sn + 64))).setCell ⟨w.heap.size + 1, 1, none⟩ (.slice (some ⟨W1.heap.size, 0, none⟩) en (en + 64))).setCell ⟨w.heap.size + 1, 2, none⟩ (.slice (some ⟨W2.heap.size, 0, none⟩) ln (ln + 64))).setCell ⟨w.heap.size + 1, 3, none⟩ (.slice (some ⟨W3.heap.size, 0, none⟩) fn (fn + 64))).setCell ⟨w.heap.size + 1, 4, none⟩ (.int .i64 hi)) = W5 at *
  obtain ⟨k0, k1, k2, k3, k4, kk⟩ := R
  have HK := hid kk
  clear kk
  refine bodyPost_ret (v := tabV (some ⟨W0.heap.size, 0, none⟩) sn (sn + 64) (some ⟨W1.heap.size, 0, none⟩) en (en + 64) (some ⟨W2.heap.size, 0, none⟩) ln (ln + 64) (some ⟨W3.heap.size, 0, none⟩) fn (fn + 64) hi) ?_ rfl ?_
  · rw [results_one rfl]
    go_simp
  · have hb9 := HX.out.bel
    refine ⟨_, _, _, _, rfl, ⟨fun j hj => HK.out.cell (C0.out j hj) (by omega), fun j hj => HK.out.cell (C1.out j hj) (by omega), fun j hj => HK.out.cell (C2.out j hj) (by omega), fun j hj => HK.out.cell (C3.out j hj) (by omega)⟩, below_kept hb9 HK.out hb9.size (fun b e => by omega)⟩
end Go.Proofs.YtfcklkmfdjjfoaaDoor
