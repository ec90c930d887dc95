/-
  The walks over WideCode, EqIns, EqCode, SpareCode.
-/
import Derived.Test.YtfcklkmfdjjfoaaDoorWideI
import Derived.Test.YtfcklkmfdjjfoaaDoorSize
namespace Go.Proofs.YtfcklkmfdjjfoaaDoor
open Go.RowKit
set_option linter.unusedVariables false

theorem Tryd.infIns : (Tryd.prog.info? 67).map (fun i => (i.zero, i.size, i.bytes)) = some (some (.agg #[.int .u8 0, .int .i64 0, .slice none 0 0]), 3, 40) := by kernel_rfl

/-- Three cells put down. -/
abbrev put3 (W : World) (X o : Nat) (a b c : Value) : World := ((W.setCell ⟨X, o, none⟩ a).setCell ⟨X, o + 1, none⟩ b).setCell ⟨X, o + 2, none⟩ c
theorem put3_facts {W : World} {X o : Nat} {a b c : Value} (h0 : (W.cell? ⟨X, o, none⟩).isSome = true) (h1 : (W.cell? ⟨X, o + 1, none⟩).isSome = true) (h2 : (W.cell? ⟨X, o + 2, none⟩).isSome = true) :
    (put3 W X o a b c).cell? ⟨X, o, none⟩ = some a ∧ (put3 W X o a b c).cell? ⟨X, o + 1, none⟩ = some b ∧ (put3 W X o a b c).cell? ⟨X, o + 2, none⟩ = some c ∧ (∀ p, p < o ∨ o + 2 < p → (put3 W X o a b c).cell? ⟨X, p, none⟩ = W.cell? ⟨X, p, none⟩) ∧
      (∀ p, (put3 W X o a b c).frozen? ⟨X, p, none⟩ = W.frozen? ⟨X, p, none⟩) ∧ Kept (fun k => k = X) W (put3 W X o a b c) := by
  have ne : ∀ {p q : Nat}, p ≠ q → (⟨X, p, none⟩ : Addr) ≠ ⟨X, q, none⟩ := fun h e => h (by injection e)
  obtain ⟨u0, h0⟩ := Option.isSome_iff_exists.1 h0
  obtain ⟨u1, h1⟩ := Option.isSome_iff_exists.1 h1
  obtain ⟨u2, h2⟩ := Option.isSome_iff_exists.1 h2
  have k1 : (W.setCell ⟨X, o, none⟩ a).cell? ⟨X, o + 1, none⟩ = some u1 := (World.cell?_setCell_other _ _ _ _ (ne (by omega))).trans h1
  have k2 : ((W.setCell ⟨X, o, none⟩ a).setCell ⟨X, o + 1, none⟩ b).cell? ⟨X, o + 2, none⟩ = some u2 := (World.cell?_setCell_other _ _ _ _ (ne (by omega))).trans ((World.cell?_setCell_other _ _ _ _ (ne (by omega))).trans h2)
  refine ⟨?_, ?_, World.cell?_setCell_same _ _ _ k2, fun p hp => ?_, fun p => ?_, ?_⟩
  · rw [World.cell?_setCell_other _ _ _ _ (ne (by omega)), World.cell?_setCell_other _ _ _ _ (ne (by omega))]
    exact World.cell?_setCell_same _ _ _ h0
  · rw [World.cell?_setCell_other _ _ _ _ (ne (by omega))]
    exact World.cell?_setCell_same _ _ _ k1
  · rw [World.cell?_setCell_other _ _ _ _ (ne (by omega)), World.cell?_setCell_other _ _ _ _ (ne (by omega)), World.cell?_setCell_other _ _ _ _ (ne (by omega))]
  · rw [World.frozen?_setCell, World.frozen?_setCell, World.frozen?_setCell]
  · refine ⟨rfl, rfl, rfl, by simp, fun k hk hs => ?_⟩
    rw [heap_setCell_other _ _ _ _ (fun e => hs e), heap_setCell_other _ _ _ _ (fun e => hs e), heap_setCell_other _ _ _ _ (fun e => hs e)]

/-- Such an instruction lies at place j. -/
def WRow (w : World) (X j : Nat) (x : Inx) (B : Nat) : Prop :=
  w.cell? ⟨X, j * 3, none⟩ = some (.int .u8 x.c) ∧ w.cell? ⟨X, j * 3 + 1, none⟩ = some (.int .i64 x.a) ∧ w.cell? ⟨X, j * 3 + 2, none⟩ = some (.slice (some ⟨B, 0, none⟩) x.ln (x.ln + 64)) ∧ X ≠ B ∧ ∀ q, q < x.ln + 64 → w.cell? ⟨B, q, none⟩ = some (.int .i64 (wlI x.l q))
/-- A mark lies there. -/
def WMk (w : World) (X j : Nat) : Prop := w.cell? ⟨X, j * 3, none⟩ = some (.int .u8 0) ∧ w.cell? ⟨X, j * 3 + 1, none⟩ = some (.int .i64 (9437184 + (j : Int) + 1)) ∧ w.cell? ⟨X, j * 3 + 2, none⟩ = some (.slice none 0 0)
/-- Something lies there. -/
def WAny (w : World) (X j : Nat) : Prop := (w.cell? ⟨X, j * 3, none⟩).isSome = true ∧ (w.cell? ⟨X, j * 3 + 1, none⟩).isSome = true ∧ (w.cell? ⟨X, j * 3 + 2, none⟩).isSome = true

theorem WRow.later {w w' : World} {X j B : Nat} {x : Inx} {C : Nat} (h : WRow w X j x B) (hb : Below C w w') (hC : w.heap.size ≤ C) : WRow w' X j x B := by
  obtain ⟨h0, h1, h2, h3, h4⟩ := h
  have hX := block_lt_of_cell h0
  have hB := block_lt_of_cell (h4 0 (by omega))
  simp only at hX hB
  exact ⟨(hb.cell (by simp only; omega)).trans h0, (hb.cell (by simp only; omega)).trans h1, (hb.cell (by simp only; omega)).trans h2, h3, fun q hq => (hb.cell (by simp only; omega)).trans (h4 q hq)⟩
theorem WMk.later {w w' : World} {X j : Nat} {C : Nat} (h : WMk w X j) (hb : Below C w w') (hC : w.heap.size ≤ C) : WMk w' X j := by
  obtain ⟨h0, h1, h2⟩ := h
  have hX := block_lt_of_cell h0
  simp only at hX
  exact ⟨(hb.cell (by simp only; omega)).trans h0, (hb.cell (by simp only; omega)).trans h1, (hb.cell (by simp only; omega)).trans h2⟩
theorem WAny.later {w w' : World} {X j : Nat} {C : Nat} (h : WAny w X j) (hb : Below C w w') (hC : w.heap.size ≤ C) : WAny w' X j := by
  obtain ⟨h0, h1, h2⟩ := h
  have hX : X < w.heap.size := by
    obtain ⟨u, hu⟩ := Option.isSome_iff_exists.1 h0
    exact block_lt_of_cell hu
  exact ⟨by rw [hb.cell (by simp only; omega)]; exact h0, by rw [hb.cell (by simp only; omega)]; exact h1, by rw [hb.cell (by simp only; omega)]; exact h2⟩
theorem WRow.put {W : World} {X j k B : Nat} {x : Inx} {a b c : Value} (h : WRow W X j x B) (hk : WAny W X k) (hj : j ≠ k) : WRow (put3 W X (k * 3) a b c) X j x B := by
  obtain ⟨h0, h1, h2, h3, h4⟩ := h
  obtain ⟨_, _, _, f, _, g⟩ := put3_facts (a := a) (b := b) (c := c) hk.1 hk.2.1 hk.2.2
  exact ⟨(f _ (by omega)).trans h0, (f _ (by omega)).trans h1, (f _ (by omega)).trans h2, h3, fun q hq => g.cell (h4 q hq) (fun e => h3 e.symm)⟩
theorem WMk.put {W : World} {X j k : Nat} {a b c : Value} (h : WMk W X j) (hk : WAny W X k) (hj : j ≠ k) : WMk (put3 W X (k * 3) a b c) X j := by
  obtain ⟨h0, h1, h2⟩ := h
  obtain ⟨_, _, _, f, _, g⟩ := put3_facts (a := a) (b := b) (c := c) hk.1 hk.2.1 hk.2.2
  exact ⟨(f _ (by omega)).trans h0, (f _ (by omega)).trans h1, (f _ (by omega)).trans h2⟩
theorem WAny.put {W : World} {X j k : Nat} {a b c : Value} (h : WAny W X j) (hk : WAny W X k) (hj : j ≠ k) : WAny (put3 W X (k * 3) a b c) X j := by
  obtain ⟨h0, h1, h2⟩ := h
  obtain ⟨_, _, _, f, _, g⟩ := put3_facts (a := a) (b := b) (c := c) hk.1 hk.2.1 hk.2.2
  exact ⟨by rw [f _ (by omega)]; exact h0, by rw [f _ (by omega)]; exact h1, by rw [f _ (by omega)]; exact h2⟩

/-- The state of WideCode at k. -/
structure WSc (w : World) (X n k : Nat) (xs : List Inx) (Bs : Nat → Nat) (wr : World) : Prop where
  row : ∀ j, j < k → j < n → WRow wr X j (xs.getD j dx) (Bs j)
  mks : ∀ j, j < k → n ≤ j → WMk wr X j
  any : ∀ j, k ≤ j → j < n + 64 → WAny wr X j
  fr : ∀ p, wr.frozen? ⟨X, p, none⟩ = false
  bel : Below w.heap.size w wr
  lt : X < wr.heap.size
  ge : ∀ j, j < k → j < n → w.heap.size ≤ Bs j

theorem WSc.later {w : World} {X n k : Nat} {xs : List Inx} {Bs : Nat → Nat} {wr w' : World} (h : WSc w X n k xs Bs wr) (hw : w.heap.size ≤ wr.heap.size) (hb : Below wr.heap.size wr w') : WSc w X n k xs Bs w' :=
  ⟨fun j h1 h2 => (h.row j h1 h2).later hb (Nat.le_refl _), fun j h1 h2 => (h.mks j h1 h2).later hb (Nat.le_refl _), fun j h1 h2 => (h.any j h1 h2).later hb (Nat.le_refl _), fun p => (frozen_of_block (hb.block X h.lt) p).trans (h.fr p), h.bel.trans (hb.mono hw), Nat.lt_of_lt_of_le h.lt hb.size, h.ge⟩

theorem WSc.row_step {w : World} {X n k B : Nat} {xs : List Inx} {Bs : Nat → Nat} {wr : World} (h : WSc w X n k xs Bs wr) (hX : w.heap.size ≤ X) (hk : k < n) (hB : X ≠ B) (hBw : w.heap.size ≤ B)
    (hc : ∀ q, q < (xs.getD k dx).ln + 64 → wr.cell? ⟨B, q, none⟩ = some (.int .i64 (wlI (xs.getD k dx).l q))) :
    WSc w X n (k + 1) xs (fun j => if j = k then B else Bs j) (put3 wr X (k * 3) (.int .u8 (xs.getD k dx).c) (.int .i64 (xs.getD k dx).a) (.slice (some ⟨B, 0, none⟩) (xs.getD k dx).ln ((xs.getD k dx).ln + 64))) := by
  have ha := h.any k (Nat.le_refl _) (by omega)
  obtain ⟨p0, p1, p2, _, p4, p5⟩ := put3_facts (a := .int .u8 (xs.getD k dx).c) (b := .int .i64 (xs.getD k dx).a) (c := .slice (some ⟨B, 0, none⟩) (xs.getD k dx).ln ((xs.getD k dx).ln + 64)) ha.1 ha.2.1 ha.2.2
  refine ⟨fun j h1 h2 => ?_, fun j h1 h2 => (h.mks j (by omega) h2).put ha (by omega), fun j h1 h2 => (h.any j (by omega) h2).put ha (by omega), fun p => (p4 p).trans (h.fr p), below_kept h.bel p5 h.bel.size (fun k hx => by omega), by have := p5.size; have := h.lt; omega, fun j h1 h2 => ?_⟩
  · by_cases e : j = k
    · subst e
      simp only [if_true]
      exact ⟨p0, p1, p2, hB, fun q hq => p5.cell (hc q hq) (fun e => hB e.symm)⟩
    · simp only [e, if_false]
      exact (h.row j (by omega) h2).put ha e
  · by_cases e : j = k
    · simp only [e, if_true]; exact hBw
    · simp only [e, if_false]; exact h.ge j (by omega) h2
theorem WSc.mks_step {w : World} {X n k : Nat} {xs : List Inx} {Bs : Nat → Nat} {wr : World} (h : WSc w X n k xs Bs wr) (hX : w.heap.size ≤ X) (hk : n ≤ k) (hk2 : k < n + 64) :
    WSc w X n (k + 1) xs Bs (put3 wr X (k * 3) (.int .u8 0) (.int .i64 (9437184 + (k : Int) + 1)) (.slice none 0 0)) := by
  have ha := h.any k (Nat.le_refl _) hk2
  obtain ⟨p0, p1, p2, _, p4, p5⟩ := put3_facts (a := .int .u8 0) (b := .int .i64 (9437184 + (k : Int) + 1)) (c := .slice none 0 0) ha.1 ha.2.1 ha.2.2
  refine ⟨fun j h1 h2 => (h.row j (by omega) h2).put ha (by omega), fun j h1 h2 => ?_, fun j h1 h2 => (h.any j (by omega) h2).put ha (by omega), fun p => (p4 p).trans (h.fr p), below_kept h.bel p5 h.bel.size (fun k hx => by omega), by have := p5.size; have := h.lt; omega, fun j h1 h2 => h.ge j (by omega) h2⟩
  by_cases e : j = k
  · subst e; exact ⟨p0, p1, p2⟩
  · exact (h.mks j (by omega) h2).put ha e

set_option maxRecDepth 100000 in
set_option maxHeartbeats 2000000 in
theorem wideCode (a : Option Addr) (n cap : Nat) (xs : List Inx) (w : World) (hn : n ≤ 100000) (hc : CodS w a n xs) (hln : ∀ j, j < n → (xs.getD j dx).ln ≤ 100000) :
    Calls Tryd.prog 6 #[.slice a n cap] w fun e w' => e = .returned (.slice (some ⟨w.heap.size, 0, none⟩) n (n + 64)) ∧ ∃ Bs, WSc w w.heap.size n (n + 64) xs Bs w' := by
  obtain ⟨i0, hi, hz0, hz1, hz2⟩ := info_parts Tryd.infIns
  have hb2 : i0.bytes * (n + 64) ≤ 281474976710656 := by rw [hz2]; omega
  have hml : n + 64 ≤ maxLen := by unfold maxLen; omega
  have HC := hid hc
  have HLN := hid hln
  clear hc hln
  go_enter Tryd.func6, Tryd.ntmps6
  go_wp2_with (first | (at_make; refine wpList_make_full _ rfl _ _ 22 rfl w.heap.size 67 i0 (.agg #[.int .u8 0, .int .i64 0, .slice none 0 0]) 3 Tryd.underlying22 hi hz0 hz1 .i64 .i64 _ _ (n + 64) rfl rfl (by omega) (by omega) hb2 hml (Nat.le_refl _) ?_; intro w1 hown hgrow))
  have hw1 : WSc w w.heap.size n 0 xs (fun _ => 0) w1 := by
    have hlen : (madeCells (Value.agg #[.int .u8 0, .int .i64 0, .slice none 0 0]).cells ((n + 64) * 3)).toList.length = (n + 64) * 3 := hown.1
    have hcell : ∀ p, p < (n + 64) * 3 → (w1.cell? ⟨w.heap.size, p, none⟩).isSome = true := fun p hp => by
      rw [World.ownsRow.cellAt hown p (by omega), List.getElem?_eq_getElem (by omega)]; rfl
    refine ⟨fun j h => absurd h (by omega), fun j h => absurd h (by omega), fun j _ h2 => ⟨hcell _ (by omega), hcell _ (by omega), hcell _ (by omega)⟩, fun p => hown.frozenAt p, (Below.refl _ _).grown hgrow (Nat.le_refl _) (by simp), ?_, fun j h => absurd h (by omega)⟩
    obtain ⟨u, hu⟩ := Option.isSome_iff_exists.1 (hcell 0 (by omega))
    exact block_lt_of_cell hu
  have HW1 := hid hw1
  clear hown hgrow hi hz0 hz1 hz2 hb2 hml hw1
  go_loopw [4] (fun p wr => ∃ (k : Nat) (Bs : Nat → Nat), k ≤ n + 64 ∧ p = .int .i64 k ∧ WSc w w.heap.size n k xs Bs wr) (fun p _ => n + 64 - (intOf p).toNat)
  case atStart => exact ⟨0, _, by omega, rfl, HW1.out⟩
  case round =>
    obtain ⟨k, Bs, hk, rfl, hst⟩ := hrel
    clear HW1
    have hbs := hst.bel.size
    by_cases hlt : k < n + 64
    · by_cases hkn : k < n
      · have hcs := HC.out.later hst.bel (Nat.le_refl _)
        rcases hcs.2 with h0 | ⟨b, off, rfl, hcd⟩
        · omega
        have g0 := hcd.op hkn
        have g1 := hcd.num hkn
        have g2 := hcd.lab hkn
        have hlk := HLN.out k hkn
        have hseg := (hcd.2 k hkn).2.2.2.2.2.2.2.2 hlk
        have HWI := hid (wideIns8 (xs.getD k dx).c (xs.getD k dx).a _ _ _ _ wr hseg (by omega))
        unfold insV at HWI
        have HS := hid hst
        have e0 : opF xs k = (xs.getD k dx).c := rfl
        rw [e0] at g0
        obtain ⟨x, hx⟩ : ∃ x, xs.getD k dx = x := ⟨_, rfl⟩
        have HX := hid hx
        rw [hx] at g0 g1 g2 HWI
        have hlt' : (k : Int) < (n : Int) + 64 := by omega
        have hkn' : (k : Int) < (n : Int) := by omega
        clear hcs hcd hseg hst e0 hx
        go_wp2_with fail
        refine HWI.out.mono ?_
        rintro e w2 ⟨B, rfl, hcB, hb2, hBlt⟩
        have hs2 := HS.out.later hbs hb2
        have ha := hs2.any k (Nat.le_refl _) hlt
        obtain ⟨u0, q0⟩ := Option.isSome_iff_exists.1 ha.1
        obtain ⟨u1, q1⟩ := Option.isSome_iff_exists.1 ha.2.1
        obtain ⟨u2, q2⟩ := Option.isSome_iff_exists.1 ha.2.2
        have r0 := hs2.fr (k * 3)
        have r1 := hs2.fr (k * 3 + 1)
        have r2 := hs2.fr (k * 3 + 2)
        have hXB : w.heap.size ≠ B := by have := HS.out.lt; omega
        have hnx := hs2.row_step (B := B) (Nat.le_refl _) hkn hXB (by omega) (by rw [HX.out]; exact hcB)
        rw [HX.out] at hnx
        have HNX := hid hnx
        clear hs2 ha hcB hb2 hnx
        go_wp2_with fail
        exact ⟨⟨k + 1, _, by omega, by go_num, HNX.out⟩, by simp [intOf]; omega⟩
      · have hlt' : (k : Int) < (n : Int) + 64 := by omega
        have hkn' : ¬ (k : Int) < (n : Int) := by omega
        have ha := hst.any k (Nat.le_refl _) hlt
        obtain ⟨u0, q0⟩ := Option.isSome_iff_exists.1 ha.1
        obtain ⟨u1, q1⟩ := Option.isSome_iff_exists.1 ha.2.1
        obtain ⟨u2, q2⟩ := Option.isSome_iff_exists.1 ha.2.2
        have r0 := hst.fr (k * 3)
        have r1 := hst.fr (k * 3 + 1)
        have r2 := hst.fr (k * 3 + 2)
        have HNX := hid (hst.mks_step (Nat.le_refl _) (by omega) hlt)
        clear hst ha
        go_wp2_with (first | (go_at_call 24; refine (mark59 k _ (by omega) (by omega)).mono ?_; rintro e w' ⟨rfl, hw'⟩; have hw2 := hw'.symm; subst hw2))
        exact ⟨⟨k + 1, _, by omega, by go_num, HNX.out⟩, by simp [intOf]; omega⟩
    · obtain rfl : k = n + 64 := by omega
      have hlt' : ¬ ((n + 64 : Nat) : Int) < (n : Int) + 64 := by omega
      have HS := hid hst
      clear hst
      go_wp2_with fail
      go_ret
      exact ⟨rfl, Bs, HS.out⟩

/-- The code as it lies in such a list. -/
def kx (n : Nat) (xs : List Inx) (Bs : Nat → Nat) : List Inx := (List.range n).map fun j => ⟨(xs.getD j dx).c, (xs.getD j dx).a, some ⟨Bs j, 0, none⟩, (xs.getD j dx).ln, (xs.getD j dx).ln + 64, (xs.getD j dx).l⟩
theorem kx_get {n : Nat} {xs : List Inx} {Bs : Nat → Nat} {j : Nat} (hj : j < n) : (kx n xs Bs).getD j dx = ⟨(xs.getD j dx).c, (xs.getD j dx).a, some ⟨Bs j, 0, none⟩, (xs.getD j dx).ln, (xs.getD j dx).ln + 64, (xs.getD j dx).l⟩ := by
  simp [kx, List.getD_eq_getElem?_getD, hj]
theorem kx_op {n : Nat} {xs : List Inx} {Bs : Nat → Nat} (hl : xs.length = n) : opF (kx n xs Bs) = opF xs := by
  funext i
  unfold opF
  by_cases hi : i < n
  · rw [kx_get hi]
  · rw [List.getD_eq_getElem?_getD, List.getD_eq_getElem?_getD, List.getElem?_eq_none (by simp [kx]; omega), List.getElem?_eq_none (by omega)]
theorem WSc.cod {w0 w wr : World} {X n : Nat} {xs : List Inx} {Bs : Nat → Nat} {a : Option Addr} (h : ∀ j, j < n → WRow wr X j (xs.getD j dx) (Bs j)) (hc : CodS w0 a n xs) (hln : ∀ j, j < n → (xs.getD j dx).ln ≤ 100000) : Cod wr X 0 n (kx n xs Bs) := by
  refine ⟨by simp [kx], fun j hj => ?_⟩
  rw [kx_get hj]
  rcases hc.2 with h0 | ⟨b, off, _, hcd⟩
  · omega
  obtain ⟨_, _, _, e3, e4, e5, e6, e7, e8⟩ := hcd.2 j hj
  have hs := e8 (hln j hj)
  obtain ⟨r0, r1, r2, _, r4⟩ := h j hj
  rw [Nat.zero_add]
  exact ⟨r0, r1, r2, e3, e4, e5, e6, e7, fun _ => segI_wide hs.1 (by have := hln j hj; omega) hs.2.2.2.1 r4⟩

set_option maxHeartbeats 1000000 in
/-- EqIns of two instructions that are alike. -/
theorem eqInsC (c a : Int) (a1 a2 : Option Addr) (n c1 c2 : Nat) (l : List Int) (w : World) (h1 : SegI w a1 n c1 l) (h2 : SegI w a2 n c2 l) :
    Calls Tryd.prog 52 #[insV c a (.slice a1 n c1), insV c a (.slice a2 n c2)] w fun e w' => e = .returned (.bool true) ∧ Below w.heap.size w w' := by
  unfold insV
  have hb : Below w.heap.size w ((w.alloc (.cells #[.int .u8 c, .int .i64 a, .slice a1 n c1] 67)).alloc (.cells #[.int .u8 c, .int .i64 a, .slice a2 n c2] 67)) := ((Below.refl _ _).alloc (Nat.le_refl _) _).alloc (by simp) _
  have he := eqi a1 a2 n n c1 c2 l l _ (h1.later hb (Nat.le_refl _)) (h2.later hb (Nat.le_refl _))
  rw [decide_eq_true rfl] at he
  have HE := hid he
  have HB := hid hb
  have hcc : (c == c) = true := by simp
  have haa : (a == a) = true := by simp
  clear h1 h2 hb he
  go_enter Tryd.func52, Tryd.ntmps52
  go_wp2_with fail
  refine HE.out.mono ?_
  rintro e w1 ⟨rfl, hk⟩
  have HB1 := hid (below_kept HB.out hk HB.out.size (fun _ x => x.elim))
  clear hk
  go_wp2_with fail
  go_ret
  exact ⟨rfl, HB1.out⟩

set_option maxRecDepth 100000 in
set_option maxHeartbeats 2000000 in
theorem eqCode_in (b1 o1 b2 o2 n c1 c2 : Nat) (xs ys : List Inx) (w : World) (hn : n ≤ 100000) (hc1 : n ≤ c1) (hc2 : n ≤ c2) (h1 : Cod w b1 o1 n xs) (h2 : Cod w b2 o2 n ys) (hs : ∀ j, j < n → (xs.getD j dx).c = (ys.getD j dx).c ∧ (xs.getD j dx).a = (ys.getD j dx).a ∧ (xs.getD j dx).ln = (ys.getD j dx).ln ∧ (xs.getD j dx).l = (ys.getD j dx).l ∧ (xs.getD j dx).ln ≤ 100000) :
    Calls Tryd.prog 18 #[.slice (some ⟨b1, o1, none⟩) n c1, .slice (some ⟨b2, o2, none⟩) n c2] w fun e w' => e = .returned (.bool true) ∧ Below w.heap.size w w' := by
  have hne : ((n : Int) != n) = false := by simp
  have H1 := hid h1
  have H2 := hid h2
  have HS := hid hs
  clear h1 h2 hs
  go_enter Tryd.func18, Tryd.ntmps18
  go_wp2_with fail
  go_loopw [5] (fun p wr => ∃ k : Nat, k ≤ n ∧ p = .int .i64 k ∧ Below w.heap.size w wr) (fun p _ => n - (intOf p).toNat)
  case atStart => exact ⟨0, by omega, rfl, Below.refl _ _⟩
  case round =>
    obtain ⟨k, hk, rfl, hb⟩ := hrel
    by_cases hlt : k < n
    · have d1 := H1.out.later hb (Nat.le_refl _)
      have d2 := H2.out.later hb (Nat.le_refl _)
      obtain ⟨s1, s2, s3, s4, s5⟩ := HS.out k hlt
      have g0 := d1.op hlt
      have g1 := d1.num hlt
      have g2 := d1.lab hlt
      have f0 := d2.op hlt
      have f1 := d2.num hlt
      have f2 := d2.lab hlt
      have e1 := (d1.2 k hlt).2.2.2.2.2.2.2.2 s5
      have e2 := (d2.2 k hlt).2.2.2.2.2.2.2.2 (by omega)
      unfold opF at g0 f0
      generalize xs.getD k dx = x at *
      generalize ys.getD k dx = y at *
      obtain ⟨xc, xa, xla, xln, xlc, xl⟩ := x
      obtain ⟨yc, ya, yla, yln, ylc, yl⟩ := y
      simp only at s1 s2 s3 s4 s5 g0 g1 g2 f0 f1 f2 e1 e2
      subst s1 s2 s3 s4
      have kd : Below wr.heap.size wr wr.drew := (Kept.drewN (fun _ => False) wr 1).to_below (Nat.le_refl _) (fun _ _ x => x)
      have HQ := hid ((eqInsC xc xa xla yla xln xlc ylc xl wr.drew (e1.later kd (Nat.le_refl _)) (e2.later kd (Nat.le_refl _))).mono (fun e w' h => (⟨h.1, hb.trans ((kd.trans h.2).mono hb.size)⟩ : e = .returned (.bool true) ∧ Below w.heap.size w w')))
      unfold insV at HQ
      have m1 : b1 < w.heap.size := H1.out.lt (by omega)
      have m2 : b2 < w.heap.size := H2.out.lt (by omega)
      have fa : ∀ W, Below wr.heap.size wr W → W.cell? ⟨b1, o1 + k * 3, none⟩ = some (.int .u8 xc) ∧ W.cell? ⟨b1, o1 + k * 3 + 1, none⟩ = some (.int .i64 xa) ∧ W.cell? ⟨b1, o1 + k * 3 + 2, none⟩ = some (.slice xla xln xlc) ∧ W.cell? ⟨b2, o2 + k * 3, none⟩ = some (.int .u8 xc) ∧ W.cell? ⟨b2, o2 + k * 3 + 1, none⟩ = some (.int .i64 xa) ∧ W.cell? ⟨b2, o2 + k * 3 + 2, none⟩ = some (.slice yla xln ylc) := fun W hW => by
        have := hb.size
        exact ⟨(hW.cell (by simp only; omega)).trans g0, (hW.cell (by simp only; omega)).trans g1, (hW.cell (by simp only; omega)).trans g2, (hW.cell (by simp only; omega)).trans f0, (hW.cell (by simp only; omega)).trans f1, (hW.cell (by simp only; omega)).trans f2⟩
      have HFA := hid fa
      have HQ2 := hid ((eqInsC xc xa xla yla xln xlc ylc xl wr.drew (e1.later kd (Nat.le_refl _)) (e2.later kd (Nat.le_refl _))).mono (fun e w' h => (⟨h.1, kd.trans h.2⟩ : e = .returned (.bool true) ∧ Below wr.heap.size wr w')))
      unfold insV at HQ2
      have HBB := hid hb
      clear d1 d2 e1 e2 kd hb fa HQ
      go_wp2_with fail
      go_region_held3 (fun W => W.cell? ⟨b1, o1 + k * 3, none⟩ = some (.int .u8 xc) ∧ W.cell? ⟨b1, o1 + k * 3 + 1, none⟩ = some (.int .i64 xa) ∧ W.cell? ⟨b1, o1 + k * 3 + 2, none⟩ = some (.slice xla xln xlc) ∧ W.cell? ⟨b2, o2 + k * 3, none⟩ = some (.int .u8 xc) ∧ W.cell? ⟨b2, o2 + k * 3 + 1, none⟩ = some (.int .i64 xa) ∧ W.cell? ⟨b2, o2 + k * 3 + 2, none⟩ = some (.slice yla xln ylc)) (go_keep)
        (first | (go_at_call 52; refine HQ2.out.mono ?_; rintro e w5 ⟨rfl, hb5⟩; obtain ⟨t0, t1, t2, t3, t4, t5⟩ := HFA.out _ hb5; have HB5 := hid (HBB.out.trans (hb5.mono HBB.out.size)); clear hb5))
      go_wp2_with fail
      exact ⟨⟨k + 1, by omega, by go_num, HB5.out⟩, by simp [intOf]; omega⟩
    · have HBB := hid hb
      clear hb
      go_wp2_with fail
      go_ret
      exact ⟨rfl, HBB.out⟩

set_option maxRecDepth 100000 in
set_option maxHeartbeats 1000000 in
theorem eqCode_nil (a1 a2 : Option Addr) (c1 c2 : Nat) (w : World) :
    Calls Tryd.prog 18 #[.slice a1 0 c1, .slice a2 0 c2] w fun e w' => e = .returned (.bool true) ∧ w' = w := by
  go_enter Tryd.func18, Tryd.ntmps18
  go_wp2_with fail
  refine wp_loop_rounds 1 ?_
  rw [rounds_succ]
  go_wp2_with fail
  go_ret
  exact ⟨rfl, rfl⟩

/-- EqCode of the wide list and the code. -/
theorem eqCode (X : Nat) (a : Option Addr) (n cap : Nat) (xs : List Inx) (Bs : Nat → Nat) (w : World) (hn : n ≤ 100000) (hcap : n ≤ cap) (h : ∀ j, j < n → WRow w X j (xs.getD j dx) (Bs j)) (hc : CodS w a n xs) (hln : ∀ j, j < n → (xs.getD j dx).ln ≤ 100000) :
    Calls Tryd.prog 18 #[.slice (some ⟨X, 0, none⟩) n (n + 64), .slice a n cap] w fun e w' => e = .returned (.bool true) ∧ Below w.heap.size w w' := by
  by_cases h0 : n = 0
  · subst h0
    exact (eqCode_nil _ a _ cap w).mono fun e w' ⟨he, hw⟩ => ⟨he, by rw [hw]; exact Below.refl _ _⟩
  rcases hc.2 with hx | ⟨b, off, rfl, hcd⟩
  · exact absurd hx h0
  refine eqCode_in X 0 b off n (n + 64) cap (kx n xs Bs) xs w hn (by omega) hcap (WSc.cod (w := w) h hc hln) hcd (fun j hj => ?_)
  rw [kx_get hj]
  exact ⟨rfl, rfl, rfl, rfl, hln j hj⟩

set_option maxRecDepth 100000 in
set_option maxHeartbeats 2000000 in
theorem spareCode (X n : Nat) (xs : List Inx) (Bs : Nat → Nat) (w : World) (hn : n ≤ 100000) (hll : ∀ j, j < n → (xs.getD j dx).l.length = (xs.getD j dx).ln) (hln : ∀ j, j < n → (xs.getD j dx).ln ≤ 100000) (h : ∀ j, j < n → WRow w X j (xs.getD j dx) (Bs j)) (hm : ∀ j, n ≤ j → j < n + 64 → WMk w X j) :
    Calls Tryd.prog 19 #[.slice (some ⟨X, 0, none⟩) n (n + 64)] w fun e w' => e = .returned (.bool true) ∧ Below w.heap.size w w' := by
  have HH := hid h
  have HM := hid hm
  have HLL := hid hll
  have HLN := hid hln
  clear h hm hll hln
  go_enter Tryd.func19, Tryd.ntmps19
  go_wp2_with fail
  go_loopw [4] (fun p wr => ∃ k : Nat, n ≤ k ∧ k ≤ n + 64 ∧ p = .int .i64 k ∧ Below w.heap.size w wr) (fun p _ => n + 64 - (intOf p).toNat)
  case atStart => exact ⟨n, by omega, by omega, rfl, Below.refl _ _⟩
  case round =>
    obtain ⟨k, hk0, hk, rfl, hb⟩ := hrel
    have hbs := hb.size
    by_cases hlt : k < n + 64
    · obtain ⟨g0, g1, g2⟩ := (HM.out k hk0 hlt).later hb (Nat.le_refl _)
      have hlt' : (k : Int) < (n : Int) + 64 := by omega
      have HB := hid (hb.alloc hbs (.cells #[.int .u8 0, .int .i64 (9437184 + (k : Int) + 1), .slice none 0 0] 67))
      have heq : ((9437184 : Int) + k + 1 == 9437184 + k + 1) = true := by simp
      have x1 : (wr.alloc (.cells #[.int .u8 0, .int .i64 (9437184 + (k : Int) + 1), .slice none 0 0] 67)).cell? ⟨wr.heap.size, 1, none⟩ = some (.int .i64 (9437184 + (k : Int) + 1)) := by rw [World.cell?_alloc_new]; rfl
      have x2 : (wr.alloc (.cells #[.int .u8 0, .int .i64 (9437184 + (k : Int) + 1), .slice none 0 0] 67)).cell? ⟨wr.heap.size, 2, none⟩ = some (.slice none 0 0) := by rw [World.cell?_alloc_new]; rfl
      have HDR := hid (show Below w.heap.size w (wr.alloc (.cells #[.int .u8 0, .int .i64 (9437184 + (k : Int) + 1), .slice none 0 0] 67)).drew from below_kept HB.out (Kept.drewN (fun _ => False) _ 1) HB.out.size (fun _ x => x.elim))
      clear hb
      go_wp2_with fail
      generalize hwz : wr.alloc (.cells #[.int .u8 0, .int .i64 (9437184 + (k : Int) + 1), .slice none 0 0] 67) = wz at *
      go_region_held3 (fun W => W.cell? ⟨wr.heap.size, 1, none⟩ = some (.int .i64 (9437184 + (k : Int) + 1)) ∧ W.cell? ⟨wr.heap.size, 2, none⟩ = some (.slice none 0 0)) (go_keep)
        (first | (go_at_call 24; refine (mark59 k _ (by omega) (by omega)).mono ?_; rintro e w' ⟨rfl, hw'⟩; have hw2 := hw'.symm; subst hw2))
      go_wp2_with fail
      exact ⟨⟨k + 1, by omega, by omega, by go_num, HDR.out⟩, by simp [intOf]; omega⟩
    · obtain rfl : k = n + 64 := by omega
      have hlt' : ¬ ((n + 64 : Nat) : Int) < (n : Int) + 64 := by omega
      have HB := hid hb
      clear hb
      generalize wr = wy at *
      go_wp2_with fail
      go_loopw [6] (fun p wr => ∃ k : Nat, k ≤ n ∧ p = .int .i64 k ∧ Below w.heap.size w wr) (fun p _ => n - (intOf p).toNat)
      case atStart => exact ⟨0, by omega, rfl, HB.out⟩
      case round =>
        obtain ⟨k, hk, rfl, hb⟩ := hrel
        clear HB
        by_cases hkn : k < n
        · obtain ⟨g0, g1, g2, _, g4⟩ := (HH.out k hkn).later hb (Nat.le_refl _)
          have hl1 := HLL.out k hkn
          have hl2 := HLN.out k hkn
          have hkn' : (k : Int) < (n : Int) := by omega
          have hks : (k : Int) ≤ (n : Int) + 64 := by omega
          generalize xs.getD k dx = x at *
          obtain ⟨xc, xa, xla, xln, xlc, xl⟩ := x
          simp only at g0 g1 g2 g4 hl1 hl2
          have HSI := hid ((spareIns17 xc xa (Bs k) xln xl wr hl1 (by omega) g4).mono (fun e w' h => (⟨h.1, hb.trans (h.2.mono hb.size)⟩ : e = .returned (.bool true) ∧ Below w.heap.size w w')))
          unfold insV at HSI
          clear g4 hb
          go_wp2_with fail
          refine HSI.out.mono ?_
          rintro e w5 ⟨rfl, hb5⟩
          have HB5 := hid hb5
          clear hb5
          go_wp2_with fail
          exact ⟨⟨k + 1, by omega, by go_num, HB5.out⟩, by simp [intOf]; omega⟩
        · have HB := hid hb
          clear hb
          go_wp2_with fail
          go_ret
          exact ⟨rfl, HB.out⟩
end Go.Proofs.YtfcklkmfdjjfoaaDoor
