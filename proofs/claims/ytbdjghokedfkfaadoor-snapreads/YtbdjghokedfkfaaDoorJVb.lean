/-
  Words with marks behind them, and the marks asked.
-/
import Derived.Test.YtbdjghokedfkfaaDoorVa
namespace Go.Proofs.YtbdjghokedfkfaaDoor
open Go.RowKit
set_option linter.unusedVariables false
set_option maxRecDepth 100000

def wdW (l : List Int) (n j : Nat) : Int := if j < n then l.getD j 0 else 9437184 + (j : Int) + 1
def wwV (l : List Int) (n j : Nat) : Value := .int .u64 (wdW l n j)
def wwK (l : List Int) (n k j : Nat) : Value := if j < k then wwV l n j else .int .u64 0
def wL (V : Nat → Value) (n : Nat) : List Value := (List.range n).map V
theorem wL_len (V : Nat → Value) (n : Nat) : (wL V n).length = n := by simp [wL]
theorem wL_get (V : Nat → Value) (n j : Nat) (h : j < n) : (wL V n)[j]? = some (V j) := by simp [wL, h]
theorem wL_set (V : Nat → Value) (n k : Nat) (u : Value) : (wL V n).set k u = wL (upd V k u) n := by
  apply List.ext_getElem?
  intro j
  rw [List.getElem?_set]
  unfold wL upd
  by_cases hjn : j < n
  · by_cases e : k = j
    · subst e
      simp [hjn]
    · rw [if_neg e]
      have e' : ¬ j = k := fun h => e h.symm
      simp [hjn, e']
  · rw [List.getElem?_eq_none (by simp; omega), List.getElem?_eq_none (by simp; omega)]
    by_cases e : k = j
    · subst e; simp; omega
    · rw [if_neg e]
theorem wL_congr {V V' : Nat → Value} {n : Nat} (h : ∀ j, j < n → V j = V' j) : wL V n = wL V' n := by
  unfold wL
  apply List.map_congr_left
  intro j hj
  exact h j (by simpa using hj)
theorem wwK_succ (l : List Int) (n k : Nat) : upd (wwK l n k) k (wwV l n k) = wwK l n (k + 1) := by
  funext j
  unfold upd wwK
  by_cases e : j = k
  · subst e; rw [if_pos rfl, if_pos (by omega)]
  · rw [if_neg e]
    by_cases h : j < k
    · rw [if_pos h, if_pos (by omega)]
    · rw [if_neg h, if_neg (by omega)]
theorem made_words (l : List Int) (n m : Nat) : madeCells #[.int .u64 0] m = (wL (wwK l n 0) m).toArray := by
  apply Array.ext'
  rw [toList_madeCells_one]
  apply List.ext_getElem?
  intro j
  by_cases h : j < m
  · rw [List.getElem?_replicate, if_pos h]
    show _ = (wL (wwK l n 0) m)[j]?
    rw [wL_get _ _ _ h]
    unfold wwK
    rw [if_neg (by omega)]
  · rw [List.getElem?_eq_none (by simp; omega), List.getElem?_eq_none (by simp [wL_len]; omega)]
/-- A row of words with marks behind it, in a block of its own. -/
def WW (w : World) (B n : Nat) (l : List Int) : Prop := w.heap[B]? = some (.cells (wL (wwV l n) (n + 64)).toArray 63)
theorem WW.later {w w' : World} {B n : Nat} {l : List Int} (h : WW w B n l) (hb : Below w.heap.size w w') : WW w' B n l := nb_later hb h
theorem WW.cell {w : World} {B n : Nat} {l : List Int} (h : WW w B n l) (j : Nat) (hj : j < n + 64) : w.cell? ⟨B, j, none⟩ = some (wwV l n j) := by
  rw [cell_at h, List.getElem?_toArray]
  exact wL_get _ _ _ hj
theorem WW.si {w : World} {B n : Nat} {l : List Int} (h : WW w B n l) (hl : l.length = n) : SI .u64 w (some ⟨B, 0, none⟩) n l :=
  ⟨hl, .inr ⟨B, 0, rfl, fun j x hj => by
    have hjn := lt_of_get hj
    rw [Nat.zero_add, h.cell j (by omega)]
    unfold wwV wdW
    rw [if_pos (by omega), List.getD_eq_getElem?_getD, hj]
    rfl⟩⟩
set_option maxHeartbeats 1000000 in
theorem wideW (a : Option Addr) (n c : Nat) (l : List Int) (w : World) (h : SI .u64 w a n l) (hn : n ≤ 2147483647) :
    Calls Tryd.prog 23 #[.slice a n c] w fun e w' => ∃ B, e = .returned (.slice (some ⟨B, 0, none⟩) n (n + 64)) ∧ w.heap.size ≤ B ∧ WW w' B n l ∧ Below w.heap.size w w' := by
  have HL := hid h.1
  have HSH := hid (fun (W : World) (hW : Below w.heap.size w W) => (h.later hW).2)
  have hmk : (Instr.makeSlice 23 (.int .i64 ((n : Int) + 64)) (.int .i64 ((n : Int) + 64))).run Tryd.prog w = .ok (.slice (some ⟨w.heap.size, 0, none⟩) (n + 64) (n + 64)) (w.alloc (.cells (wL (wwK l n 0) (n + 64)).toArray 63)) := by
    have := run_make_row' (P := Tryd.prog) 23 63 (.int .u64 0) 8 Tryd.underlying23 Tryd.inf40 rfl .i64 .i64 (n + 64) (by omega) (by omega) w
    rw [made_words l n (n + 64)] at this
    exact this
  have HB0 := hid (below_new w (.cells (wL (wwK l n 0) (n + 64)).toArray 63))
  have HK0 := hid (nb_new w (.cells (wL (wwK l n 0) (n + 64)).toArray 63))
  have HM := hid (fun (k : Nat) (hk : k ≤ 4294967296) (W : World) => numC 9 k W (by omega) (by omega))
  clear h
  go_enter Tryd.func23, Tryd.ntmps23
  go_wp2_with fail
  generalize w.alloc (.cells (wL (wwK l n 0) (n + 64)).toArray 63) = W1 at *
  go_loopw [4] (fun i wr => ∃ k : Nat, k ≤ n + 64 ∧ i = .int .i64 k ∧ Hid (wr.heap[w.heap.size]? = some (.cells (wL (wwK l n k) (n + 64)).toArray 63)) ∧ Hid (Below w.heap.size w wr)) (fun i _ => n + 64 - (intOf i).toNat)
  case atStart => exact ⟨0, by omega, rfl, HK0, HB0⟩
  clear HK0 HB0
  case round =>
    obtain ⟨k, hk, rfl, HX, HB⟩ := hrel
    by_cases hlt : k < n + 64
    · have hcl : wr.cell? ⟨w.heap.size, k, none⟩ = some (wwK l n k k) := by rw [cell_at HX.out, List.getElem?_toArray]; exact wL_get _ _ _ hlt
      have hfr : wr.frozen? ⟨w.heap.size, k, none⟩ = false := frzB HX.out
      have HR2 := hid (show (wr.setCell ⟨w.heap.size, k, none⟩ (wwV l n k)).heap[w.heap.size]? = some (.cells (wL (wwK l n (k + 1)) (n + 64)).toArray 63) from by
        rw [blk_set HX.out]
        simp only [List.setIfInBounds_toArray]
        rw [wL_set, wwK_succ])
      have HB2 := hid (show Below w.heap.size w (wr.setCell ⟨w.heap.size, k, none⟩ (wwV l n k)) from HB.out.setCell (Nat.le_refl _) _)
      have hlt' : (k : Int) < (n : Int) + 64 := by omega
      by_cases hkn : k < n
      · obtain ⟨b, o, rfl, hsrc⟩ := (HSH.out wr HB.out).resolve_left (by omega)
        obtain ⟨x, hx⟩ : ∃ x, l[k]? = some x := ⟨_, List.getElem?_eq_getElem (by have := HL.out; omega)⟩
        have hs := hsrc k x hx
        have hwd : wwV l n k = .int .u64 x := by unfold wwV wdW; rw [if_pos hkn, List.getD_eq_getElem?_getD, hx]; rfl
        rw [hwd] at HR2 HB2
        clear hsrc hwd HSH hx HM
        have hkn' : (k : Int) < n := by omega
        generalize wwK l n k k = u0 at *
        go_wp2_with fail
        exact ⟨⟨k + 1, by omega, by go_num, HR2, HB2⟩, by simp [intOf]; omega⟩
      · have hwd : wwV l n k = .int .u64 (9437184 + (k : Int) + 1) := by unfold wwV wdW; rw [if_neg hkn]
        rw [hwd] at HR2 HB2
        have HMk := hid (HM.out k (by omega) wr)
        have hwr : IntKind.u64.wrap (9437184 + (k : Int) + 1) = 9437184 + (k : Int) + 1 := by simp only [IntKind.wrap_u64]; omega
        clear hwd HSH HM
        have hkn' : ¬ (k : Int) < n := by omega
        generalize wwK l n k k = u0 at *
        go_wp2_with fail
        refine HMk.out.mono ?_
        rintro e w' ⟨rfl, hw'⟩
        rw [hw']
        have hnm : (1048576 * ((9 : Nat) : Int) + (k : Int) + 1) = 9437184 + (k : Int) + 1 := by omega
        rw [hnm]
        go_wp2_with fail
        exact ⟨⟨k + 1, by omega, by go_num, HR2, HB2⟩, by simp [intOf]; omega⟩
    · obtain rfl : k = n + 64 := by omega
      clear HSH HM
      go_wp2_with fail
      go_ret
      refine ⟨w.heap.size, rfl, Nat.le_refl _, ?_, HB.out⟩
      have := HX.out
      rw [wL_congr (V' := wwV l n) (fun j hj => by unfold wwK; rw [if_pos hj])] at this
      exact this
set_option maxHeartbeats 1000000 in
theorem spareW (B n : Nat) (l : List Int) (w : World) (h : WW w B n l) (hn : n ≤ 2147483647) :
    Calls Tryd.prog 51 #[.slice (some ⟨B, 0, none⟩) n (n + 64)] w fun e w' => e = .returned (.bool true) ∧ w' = w := by
  have HC := hid (fun (j : Nat) (hj : j < n + 64) => h.cell j hj)
  have HM := hid (fun (k : Nat) (hk : k ≤ 4294967296) (W : World) => numC 9 k W (by omega) (by omega))
  clear h
  go_enter Tryd.func51, Tryd.ntmps51
  go_wp2_with fail
  go_loopw [4] (fun i wr => ∃ k : Nat, n ≤ k ∧ k ≤ n + 64 ∧ i = .int .i64 k ∧ wr = w) (fun i _ => n + 64 - (intOf i).toNat)
  case atStart => exact ⟨n, Nat.le_refl _, by omega, rfl, rfl⟩
  case round =>
    obtain ⟨k, hnk, hk, rfl, hwr⟩ := hrel
    subst hwr
    by_cases hlt : k < n + 64
    · have hlt' : (k : Int) < (n : Int) + 64 := by omega
      have e0 := HC.out k hlt
      have hwd : wwV l n k = .int .u64 (9437184 + (k : Int) + 1) := by unfold wwV wdW; rw [if_neg (by omega)]
      rw [hwd] at e0
      have HMk := hid (HM.out k (by omega) wr)
      have hwr : IntKind.u64.wrap (9437184 + (k : Int) + 1) = 9437184 + (k : Int) + 1 := by simp only [IntKind.wrap_u64]; omega
      have hee : ((9437184 + (k : Int) + 1 : Int) == 9437184 + (k : Int) + 1) = true := by simp
      clear HC HM hwd
      go_wp2_with fail
      refine HMk.out.mono ?_
      rintro e w' ⟨rfl, hw'⟩
      rw [hw']
      have hnm : (1048576 * ((9 : Nat) : Int) + (k : Int) + 1) = 9437184 + (k : Int) + 1 := by omega
      rw [hnm]
      clear hw' HMk
      go_wp2_with fail
      exact ⟨⟨k + 1, by omega, by omega, by go_num, by first | rfl | trivial⟩, by simp [intOf]; omega⟩
    · have hlt' : ¬ (k : Int) < (n : Int) + 64 := by omega
      clear HC HM
      go_wp2_with fail
      go_ret
      exact ⟨rfl, rfl⟩
end Go.Proofs.YtbdjghokedfkfaaDoor

/-
  Frames with marks behind them, and the marks asked.
-/
namespace Go.Proofs.YtbdjghokedfkfaaDoor
open Go.RowKit
set_option linter.unusedVariables false
set_option maxRecDepth 100000

/-- A frame whose lists have marks behind them. -/
abbrev wdF (x : FrM) (B1 B2 : Nat) : FrM := (x.1, x.2.1, ((some ⟨B1, 0, none⟩, x.2.2.1.1.2.1, x.2.2.1.1.2.1 + 64), x.2.2.1.2), ((some ⟨B2, 0, none⟩, x.2.2.2.1.2.1, x.2.2.2.1.2.1 + 64), x.2.2.2.2))
structure W1F (base : Nat) (w : World) (x : FrM) (B1 B2 : Nat) : Prop where
  l : WW w B1 x.2.2.1.1.2.1 x.2.2.1.2
  s : WW w B2 x.2.2.2.1.2.1 x.2.2.2.2
  b1 : base ≤ B1
  b2 : base ≤ B2
theorem W1F.later {base : Nat} {w w' : World} {x : FrM} {B1 B2 : Nat} (h : W1F base w x B1 B2) (hb : Below w.heap.size w w') : W1F base w' x B1 B2 := ⟨h.l.later hb, h.s.later hb, h.b1, h.b2⟩
set_option maxHeartbeats 1000000 in
theorem wideF1 (x : FrM) (w : World) (h1 : SI .u64 w x.2.2.1.1.1 x.2.2.1.1.2.1 x.2.2.1.2) (h2 : SI .u64 w x.2.2.2.1.1 x.2.2.2.1.2.1 x.2.2.2.2) (n1 : x.2.2.1.1.2.1 ≤ 2147483647) (n2 : x.2.2.2.1.2.1 ≤ 2147483647) :
    Calls Tryd.prog 64 #[frV x] w fun e w' => ∃ B1 B2, e = .returned (frV (wdF x B1 B2)) ∧ W1F w.heap.size w' x B1 B2 ∧ Below w.heap.size w w' := by
  obtain ⟨y1, y2, ⟨⟨y3a, y3n, y3c⟩, y3⟩, ⟨⟨y4a, y4n, y4c⟩, y4⟩⟩ := x
  simp only at h1 h2 n1 n2
  have b1 := below_new w (.cells #[.int .i64 y1, .int .i64 y2, .slice y3a y3n y3c, .slice y4a y4n y4c] 66)
  have b2 := b1.trans ((below_new (w.alloc (.cells #[.int .i64 y1, .int .i64 y2, .slice y3a y3n y3c, .slice y4a y4n y4c] 66)) (.cells #[.int .i64 0, .int .i64 0, .slice none 0 0, .slice none 0 0] 66)).mono b1.size)
  have k1 : ((w.alloc (.cells #[.int .i64 y1, .int .i64 y2, .slice y3a y3n y3c, .slice y4a y4n y4c] 66)).alloc (.cells #[.int .i64 0, .int .i64 0, .slice none 0 0, .slice none 0 0] 66)).heap[w.heap.size]? = some (.cells #[.int .i64 y1, .int .i64 y2, .slice y3a y3n y3c, .slice y4a y4n y4c] 66) := nb_later (below_new _ _) (nb_new _ _)
  have k2 : ((w.alloc (.cells #[.int .i64 y1, .int .i64 y2, .slice y3a y3n y3c, .slice y4a y4n y4c] 66)).alloc (.cells #[.int .i64 0, .int .i64 0, .slice none 0 0, .slice none 0 0] 66)).heap[w.heap.size + 1]? = some (.cells #[.int .i64 0, .int .i64 0, .slice none 0 0, .slice none 0 0] 66) := nb_at (by simp)
  have H1 := hid (wideW y3a y3n y3c y3 _ (h1.later b2) n1)
  have H2 := hid (fun (W : World) (hW : Below w.heap.size w W) => wideW y4a y4n y4c y4 W (h2.later hW) n2)
  have HB2 := hid b2
  have K1 := hid k1
  have K2 := hid k2
  have hsz : ((w.alloc (.cells #[.int .i64 y1, .int .i64 y2, .slice y3a y3n y3c, .slice y4a y4n y4c] 66)).alloc (.cells #[.int .i64 0, .int .i64 0, .slice none 0 0, .slice none 0 0] 66)).heap.size = w.heap.size + 2 := by simp
  clear b1 b2 k1 k2 h1 h2
  go_enter Tryd.func64, Tryd.ntmps64
  go_wp2_with fail
  generalize (w.alloc (.cells #[.int .i64 y1, .int .i64 y2, .slice y3a y3n y3c, .slice y4a y4n y4c] 66)).alloc (.cells #[.int .i64 0, .int .i64 0, .slice none 0 0, .slice none 0 0] 66) = W2 at *
  refine H1.out.mono ?_
  rintro e w3 ⟨B1, rfl, hB1, hw1, hb3⟩
  have k3 := nb_later hb3 K1.out
  have k4 := nb_later hb3 K2.out
  have c2 : w3.cell? ⟨w.heap.size, 2, none⟩ = some (.slice y3a y3n y3c) := cell_at k3
  have c3 : w3.cell? ⟨w.heap.size, 3, none⟩ = some (.slice y4a y4n y4c) := cell_at k3
  have f2 : w3.frozen? ⟨w.heap.size, 2, none⟩ = false := frzB k3
  have k5 := blk_set (i := 2) (v := .slice (some ⟨B1, 0, none⟩) y3n (y3n + 64)) k3
  have hne : w.heap.size + 1 ≠ w.heap.size := by omega
  have k6 := put_blk (B := w.heap.size) (i := 2) (v := .slice (some ⟨B1, 0, none⟩) y3n (y3n + 64)) hne k4
  have hB1' : B1 ≠ w.heap.size := by omega
  have w5 : WW (w3.setCell ⟨w.heap.size, 2, none⟩ (.slice (some ⟨B1, 0, none⟩) y3n (y3n + 64))) B1 y3n y3 := put_blk hB1' hw1
  have b5 : Below w.heap.size w (w3.setCell ⟨w.heap.size, 2, none⟩ (.slice (some ⟨B1, 0, none⟩) y3n (y3n + 64))) := (HB2.out.trans (hb3.mono HB2.out.size)).setCell (Nat.le_refl _) _
  have hs3 := hb3.size
  have c3' : (w3.setCell ⟨w.heap.size, 2, none⟩ (.slice (some ⟨B1, 0, none⟩) y3n (y3n + 64))).cell? ⟨w.heap.size, 3, none⟩ = some (.slice y4a y4n y4c) := cell_at k5
  have hsz5 : (w3.setCell ⟨w.heap.size, 2, none⟩ (.slice (some ⟨B1, 0, none⟩) y3n (y3n + 64))).heap.size = w3.heap.size := by simp [World.setCell]
  have K5 := hid k5
  have K6 := hid k6
  have WW5 := hid w5
  have B5 := hid b5
  clear hb3 k3 k4 k5 k6 w5 b5 hw1 H1 K1 K2 HB2
  go_wp2_with fail
  generalize w3.setCell ⟨w.heap.size, 2, none⟩ (.slice (some ⟨B1, 0, none⟩) y3n (y3n + 64)) = W5 at *
  refine (H2.out _ B5.out).mono ?_
  rintro e w6 ⟨B2, rfl, hB2, hw2, hb6⟩
  have k7 := nb_later hb6 K5.out
  have k8 := nb_later hb6 K6.out
  have d3 : w6.cell? ⟨w.heap.size, 3, none⟩ = some (.slice y4a y4n y4c) := cell_at k7
  have g3 : w6.frozen? ⟨w.heap.size, 3, none⟩ = false := frzB k7
  have k9 := blk_set (i := 3) (v := .slice (some ⟨B2, 0, none⟩) y4n (y4n + 64)) k7
  have k10 := put_blk (B := w.heap.size) (i := 3) (v := .slice (some ⟨B2, 0, none⟩) y4n (y4n + 64)) hne k8
  have hlt1 : B1 < W5.heap.size := nb_lt WW5.out
  have hB2' : B2 ≠ w.heap.size := by omega
  have ww1 : WW (w6.setCell ⟨w.heap.size, 3, none⟩ (.slice (some ⟨B2, 0, none⟩) y4n (y4n + 64))) B1 y3n y3 := put_blk hB1' (WW5.out.later hb6)
  have ww2 : WW (w6.setCell ⟨w.heap.size, 3, none⟩ (.slice (some ⟨B2, 0, none⟩) y4n (y4n + 64))) B2 y4n y4 := put_blk hB2' hw2
  have b10 : Below w.heap.size w (w6.setCell ⟨w.heap.size, 3, none⟩ (.slice (some ⟨B2, 0, none⟩) y4n (y4n + 64))) := (B5.out.trans (hb6.mono B5.out.size)).setCell (Nat.le_refl _) _
  have e0 : (w6.setCell ⟨w.heap.size, 3, none⟩ (.slice (some ⟨B2, 0, none⟩) y4n (y4n + 64))).cell? ⟨w.heap.size, 0, none⟩ = some (.int .i64 y1) := cell_at k9
  have e1 : (w6.setCell ⟨w.heap.size, 3, none⟩ (.slice (some ⟨B2, 0, none⟩) y4n (y4n + 64))).cell? ⟨w.heap.size, 1, none⟩ = some (.int .i64 y2) := cell_at k9
  have e2 : (w6.setCell ⟨w.heap.size, 3, none⟩ (.slice (some ⟨B2, 0, none⟩) y4n (y4n + 64))).cell? ⟨w.heap.size, 2, none⟩ = some (.slice (some ⟨B1, 0, none⟩) y3n (y3n + 64)) := cell_at k9
  have e3 : (w6.setCell ⟨w.heap.size, 3, none⟩ (.slice (some ⟨B2, 0, none⟩) y4n (y4n + 64))).cell? ⟨w.heap.size, 3, none⟩ = some (.slice (some ⟨B2, 0, none⟩) y4n (y4n + 64)) := cell_at k9
  have g0 : (w6.setCell ⟨w.heap.size, 3, none⟩ (.slice (some ⟨B2, 0, none⟩) y4n (y4n + 64))).cell? ⟨w.heap.size + 1, 0, none⟩ = some (.int .i64 0) := cell_at k10
  have g1 : (w6.setCell ⟨w.heap.size, 3, none⟩ (.slice (some ⟨B2, 0, none⟩) y4n (y4n + 64))).cell? ⟨w.heap.size + 1, 1, none⟩ = some (.int .i64 0) := cell_at k10
  have g2 : (w6.setCell ⟨w.heap.size, 3, none⟩ (.slice (some ⟨B2, 0, none⟩) y4n (y4n + 64))).cell? ⟨w.heap.size + 1, 2, none⟩ = some (.slice none 0 0) := cell_at k10
  have g3' : (w6.setCell ⟨w.heap.size, 3, none⟩ (.slice (some ⟨B2, 0, none⟩) y4n (y4n + 64))).cell? ⟨w.heap.size + 1, 3, none⟩ = some (.slice none 0 0) := cell_at k10
  have z0 : (w6.setCell ⟨w.heap.size, 3, none⟩ (.slice (some ⟨B2, 0, none⟩) y4n (y4n + 64))).frozen? ⟨w.heap.size + 1, 0, none⟩ = false := frzB k10
  have z1 : (w6.setCell ⟨w.heap.size, 3, none⟩ (.slice (some ⟨B2, 0, none⟩) y4n (y4n + 64))).frozen? ⟨w.heap.size + 1, 1, none⟩ = false := frzB k10
  have z2 : (w6.setCell ⟨w.heap.size, 3, none⟩ (.slice (some ⟨B2, 0, none⟩) y4n (y4n + 64))).frozen? ⟨w.heap.size + 1, 2, none⟩ = false := frzB k10
  have z3 : (w6.setCell ⟨w.heap.size, 3, none⟩ (.slice (some ⟨B2, 0, none⟩) y4n (y4n + 64))).frozen? ⟨w.heap.size + 1, 3, none⟩ = false := frzB k10
  have WA := hid ww1
  have WB := hid ww2
  have B10 := hid b10
  have K10 := hid k10
  have hB1n : B1 ≠ w.heap.size + 1 := by omega
  have hB2n : B2 ≠ w.heap.size + 1 := by omega
  clear ww1 ww2 b10 k7 k8 k9 k10 hb6 hw2 H2 K5 K6 WW5 B5
  have hfin := blk_set (i := 3) (v := .slice (some ⟨B2, 0, none⟩) y4n (y4n + 64)) (blk_set (i := 2) (v := .slice (some ⟨B1, 0, none⟩) y3n (y3n + 64)) (blk_set (i := 1) (v := .int .i64 y2) (blk_set (i := 0) (v := .int .i64 y1) K10.out)))
  have HK := hid (((kept_put (w := w6.setCell ⟨w.heap.size, 3, none⟩ (.slice (some ⟨B2, 0, none⟩) y4n (y4n + 64))) (B := w.heap.size + 1) (i := 0) (v := .int .i64 y1)).trans (kept_put (i := 1) (v := .int .i64 y2))).trans (kept_put (i := 2) (v := .slice (some ⟨B1, 0, none⟩) y3n (y3n + 64)))|>.trans (kept_put (i := 3) (v := .slice (some ⟨B2, 0, none⟩) y4n (y4n + 64))))
  go_wp2_with fail
  exact bodyPost_ret (v := frV (wdF (y1, y2, ((y3a, y3n, y3c), y3), ((y4a, y4n, y4c), y4)) B1 B2)) (results_cell_row rfl _ _ (w.heap.size + 1) 66 _ (0, 0) _ rfl hfin Tryd.underlying66 rfl (by kernel_rfl)) rfl
    ⟨B1, B2, rfl, ⟨(HK.out.block B1 (nb_lt WA.out) hB1n).trans WA.out, (HK.out.block B2 (nb_lt WB.out) hB2n).trans WB.out, by omega, by omega⟩, B10.out.trans (HK.out.to_below B10.out.size (fun k _ e => by have e : k = w.heap.size + 1 := e; omega))⟩
/-- The mark behind frames. -/
abbrev mkF (j : Nat) : FrM := (0, 9437184 + (j : Int) + 1, ((none, 0, 0), []), ((none, 0, 0), []))
/-- Frames with marks behind them, as far as they are laid. -/
structure WFs (base : Nat) (w : World) (n : Nat) (xs ys : List FrM) : Prop where
  el : ∀ (j : Nat) y, ys[j]? = some y → j < n → ∃ x B1 B2, xs[j]? = some x ∧ y = wdF x B1 B2 ∧ W1F base w x B1 B2
  mrk : ∀ (j : Nat) y, ys[j]? = some y → n ≤ j → y = mkF j
theorem WFs.later {base : Nat} {w w' : World} {n : Nat} {xs ys : List FrM} (h : WFs base w n xs ys) (hb : Below w.heap.size w w') : WFs base w' n xs ys :=
  ⟨fun j y hy hj => by obtain ⟨x, B1, B2, h1, h2, h3⟩ := h.el j y hy hj; exact ⟨x, B1, B2, h1, h2, h3.later hb⟩, h.mrk⟩
theorem WFs.put {base : Nat} {w : World} {n : Nat} {xs ys : List FrM} {B i : Nat} {v : Value} {cur : Array Value} (h : WFs base w n xs ys) (hB : w.heap[B]? = some (.cells cur 66)) : WFs base (w.setCell ⟨B, i, none⟩ v) n xs ys :=
  ⟨fun j y hy hj => by
    obtain ⟨x, B1, B2, h1, h2, h3⟩ := h.el j y hy hj
    have n1 : B1 ≠ B := fun e => by
      have := h3.l
      unfold WW at this
      rw [e, hB] at this
      injection this with this
      injection this with _ this
      exact absurd this (by decide)
    have n2 : B2 ≠ B := fun e => by
      have := h3.s
      unfold WW at this
      rw [e, hB] at this
      injection this with this
      injection this with _ this
      exact absurd this (by decide)
    exact ⟨x, B1, B2, h1, h2, put_blk n1 h3.l, put_blk n2 h3.s, h3.b1, h3.b2⟩, h.mrk⟩
theorem WFs.snoc {base : Nat} {w : World} {n : Nat} {xs ys : List FrM} {k : Nat} (hk : ys.length = k) (h : WFs base w n xs ys) {y : FrM} (h1 : k < n → ∃ x B1 B2, xs[k]? = some x ∧ y = wdF x B1 B2 ∧ W1F base w x B1 B2) (h2 : n ≤ k → y = mkF k) : WFs base w n xs (ys ++ [y]) := by
  refine ⟨fun j z hz hj => ?_, fun j z hz hj => ?_⟩
  · by_cases hjk : j < k
    · rw [List.getElem?_append_left (by omega)] at hz
      exact h.el j z hz hj
    · rw [List.getElem?_append_right (by omega)] at hz
      have hjj : j = k := by have := lt_of_get hz; simp at this; omega
      subst hjj
      rw [hk, Nat.sub_self] at hz
      simp at hz
      subst hz
      exact h1 hj
  · by_cases hjk : j < k
    · rw [List.getElem?_append_left (by omega)] at hz
      exact h.mrk j z hz hj
    · rw [List.getElem?_append_right (by omega)] at hz
      have hjj : j = k := by have := lt_of_get hz; simp at this; omega
      subst hjj
      rw [hk, Nat.sub_self] at hz
      simp at hz
      subst hz
      exact h2 hj
set_option maxHeartbeats 4000000 in
theorem wideFs (a : Option Addr) (n c : Nat) (xs : List FrM) (w : World) (h : SFr w a n xs) (hn : n ≤ 2147483647) (hb : ∀ x ∈ xs, x.2.2.1.1.2.1 ≤ 2147483647 ∧ x.2.2.2.1.2.1 ≤ 2147483647) :
    Calls Tryd.prog 22 #[.slice a n c] w fun e w' => ∃ B ys, e = .returned (.slice (some ⟨B, 0, none⟩) n (n + 64)) ∧ ys.length = n + 64 ∧ w'.heap[B]? = some (.cells (ys.flatMap frCs).toArray 66) ∧ WFs w.heap.size w' n xs ys ∧ w.heap.size ≤ B ∧ Below w.heap.size w w' := by
  have HL := hid h.len
  have HSH := hid (fun (W : World) (hW : Below w.heap.size w W) => h.later hW)
  have HBD := hid hb
  obtain ⟨i0, hi0, hz0, hz1, hz2⟩ := info_parts Tryd.inf43
  have hmk : (Instr.makeSlice 22 (.int .i64 ((n : Int) + 64)) (.int .i64 ((n : Int) + 64))).run Tryd.prog w = .ok (.slice (some ⟨w.heap.size, 0, none⟩) (n + 64) (n + 64)) (w.alloc (.cells ((List.replicate (n + 64) zF).flatMap frCs).toArray 66)) := by
    have := run_make (P := Tryd.prog) w 22 66 i0 _ Tryd.underlying22 hi0 hz0 .i64 .i64 ((n + 64 : Nat) : Int) ((n + 64 : Nat) : Int) (by omega) (Int.le_refl _) (by rw [hz2]; omega) (by omega)
    rw [Int.toNat_natCast, hz1] at this
    have e : madeCells (Value.agg #[.int .i64 0, .int .i64 0, .slice none 0 0, .slice none 0 0]).cells ((n + 64) * 4) = ((List.replicate (n + 64) zF).flatMap frCs).toArray := by
      apply Array.toList_inj.1
      exact made4 (n + 64)
    rw [e] at this
    exact this
  have HB0 := hid (below_new w (.cells ((List.replicate (n + 64) zF).flatMap frCs).toArray 66))
  have HK0 := hid (nb_new w (.cells ((List.replicate (n + 64) zF).flatMap frCs).toArray 66))
  have HM := hid (fun (k : Nat) (hk : k ≤ 4294967296) (W : World) => numC 9 k W (by omega) (by omega))
  clear h hb hi0 hz0 hz1 hz2
  go_enter Tryd.func22, Tryd.ntmps22
  go_wp2_with fail
  generalize w.alloc (.cells ((List.replicate (n + 64) zF).flatMap frCs).toArray 66) = W1 at *
  go_loopw [4] (fun i wr => ∃ (k : Nat) (ys : List FrM), k ≤ n + 64 ∧ i = .int .i64 k ∧ Hid (ys.length = k) ∧ Hid (wr.heap[w.heap.size]? = some (.cells ((ys ++ List.replicate (n + 64 - k) zF).flatMap frCs).toArray 66)) ∧ Hid (WFs w.heap.size wr n xs ys) ∧ Hid (Below w.heap.size w wr)) (fun i _ => n + 64 - (intOf i).toNat)
  case atStart => exact ⟨0, [], by omega, rfl, hid rfl, HK0, hid ⟨fun j y hy => (by simp at hy), fun j y hy => (by simp at hy)⟩, HB0⟩
  clear HK0 HB0
  case round =>
    obtain ⟨k, ys, hk, rfl, HYL, HX, HWF, HB⟩ := hrel
    by_cases hlt : k < n + 64
    · have hlt' : (k : Int) < (n : Int) + 64 := by omega
      have HCL := hid (fun (W : World) (hW : W.heap[w.heap.size]? = some (.cells ((ys ++ List.replicate (n + 64 - k) zF).flatMap frCs).toArray 66)) => (show ∀ q, q < 4 → ∃ u, W.cell? ⟨w.heap.size, k * 4 + q, none⟩ = some u from fun q hq => by
        rw [cell_at hW]
        have hsz : k * 4 + q < (((ys ++ List.replicate (n + 64 - k) zF).flatMap frCs)).length := by rw [fm4_len, List.length_append, List.length_replicate, HYL.out]; omega
        exact ⟨_, by rw [List.getElem?_toArray]; exact List.getElem?_eq_getElem hsz⟩))
      have HPUT := hid (fun (W : World) (hW : W.heap[w.heap.size]? = some (.cells ((ys ++ List.replicate (n + 64 - k) zF).flatMap frCs).toArray 66)) (y : FrM) => (show ((((W.setCell ⟨w.heap.size, k * 4, none⟩ (.int .i64 y.1)).setCell ⟨w.heap.size, k * 4 + 1, none⟩ (.int .i64 y.2.1)).setCell ⟨w.heap.size, k * 4 + 2, none⟩ (.slice y.2.2.1.1.1 y.2.2.1.1.2.1 y.2.2.1.1.2.2)).setCell ⟨w.heap.size, k * 4 + 3, none⟩ (.slice y.2.2.2.1.1 y.2.2.2.1.2.1 y.2.2.2.1.2.2)).heap[w.heap.size]? = some (.cells (((ys ++ [y]) ++ List.replicate (n + 64 - (k + 1)) zF).flatMap frCs).toArray 66) from by
        rw [← set4 ys y (List.replicate (n + 64 - (k + 1)) zF) k HYL.out]
        have h0 := hW
        rw [show n + 64 - k = n + 64 - (k + 1) + 1 by omega, List.replicate_succ] at h0
        exact blk_set (blk_set (blk_set (blk_set h0)))))
      by_cases hkn : k < n
      · have hkn' : (k : Int) < n := by omega
        obtain ⟨x, hx⟩ : ∃ x, xs[k]? = some x := ⟨_, List.getElem?_eq_getElem (by have := HL.out; omega)⟩
        have hsf := HSH.out wr HB.out
        obtain ⟨b, o, rfl, hsrc⟩ := hsf.at_.resolve_left (by omega)
        obtain ⟨c0, c1, c2, c3⟩ := hsrc k x hx
        have hin := hsf.in_ x (List.mem_of_getElem? hx)
        have hbd := HBD.out x (List.mem_of_getElem? hx)
        have HWX := hid (wideF1 x wr hin.1 hin.2 hbd.1 hbd.2)
        have HX2 := hid hx
        clear hsrc hsf hx HSH HM HBD hin hbd
        obtain ⟨y1, y2, ⟨⟨y3a, y3n, y3c⟩, y3⟩, ⟨⟨y4a, y4n, y4c⟩, y4⟩⟩ := x
        simp only at c0 c1 c2 c3
        go_wp2_with fail
        refine HWX.out.mono ?_
        rintro e w2 ⟨B1, B2, rfl, hw1, hb2⟩
        have hx2 := nb_later hb2 HX.out
        obtain ⟨u0, d0⟩ := HCL.out w2 hx2 0 (by omega)
        obtain ⟨u1, d1⟩ := HCL.out w2 hx2 1 (by omega)
        obtain ⟨u2, d2⟩ := HCL.out w2 hx2 2 (by omega)
        obtain ⟨u3, d3⟩ := HCL.out w2 hx2 3 (by omega)
        rw [Nat.add_zero] at d0
        have z0 : w2.frozen? ⟨w.heap.size, k * 4, none⟩ = false := frzB hx2
        have z1 : w2.frozen? ⟨w.heap.size, k * 4 + 1, none⟩ = false := frzB hx2
        have z2 : w2.frozen? ⟨w.heap.size, k * 4 + 2, none⟩ = false := frzB hx2
        have z3 : w2.frozen? ⟨w.heap.size, k * 4 + 3, none⟩ = false := frzB hx2
        have hrow := HPUT.out w2 hx2 (wdF (y1, y2, ((y3a, y3n, y3c), y3), ((y4a, y4n, y4c), y4)) B1 B2)
        have hwf := ((((WFs.snoc HYL.out (HWF.out.later hb2) (y := wdF (y1, y2, ((y3a, y3n, y3c), y3), ((y4a, y4n, y4c), y4)) B1 B2) (fun _ => ⟨_, B1, B2, HX2.out, rfl, ⟨hw1.l, hw1.s, Nat.le_trans HB.out.size hw1.b1, Nat.le_trans HB.out.size hw1.b2⟩⟩) (fun h => by omega)).put (i := k * 4) (v := .int .i64 y1) hx2).put (i := k * 4 + 1) (v := .int .i64 y2) (blk_set hx2)).put (i := k * 4 + 2) (v := .slice (some ⟨B1, 0, none⟩) y3n (y3n + 64)) (blk_set (blk_set hx2))).put (i := k * 4 + 3) (v := .slice (some ⟨B2, 0, none⟩) y4n (y4n + 64)) (blk_set (blk_set (blk_set hx2)))
        have hbl : Below w.heap.size w ((((w2.setCell ⟨w.heap.size, k * 4, none⟩ (.int .i64 y1)).setCell ⟨w.heap.size, k * 4 + 1, none⟩ (.int .i64 y2)).setCell ⟨w.heap.size, k * 4 + 2, none⟩ (.slice (some ⟨B1, 0, none⟩) y3n (y3n + 64))).setCell ⟨w.heap.size, k * 4 + 3, none⟩ (.slice (some ⟨B2, 0, none⟩) y4n (y4n + 64))) := ((((HB.out.trans (hb2.mono HB.out.size)).setCell (Nat.le_refl _) _).setCell (Nat.le_refl _) _).setCell (Nat.le_refl _) _).setCell (Nat.le_refl _) _
        simp only at hrow
        have R2 := hid hrow
        have F2 := hid hwf
        have BB := hid hbl
        clear hrow hwf hbl hx2 hw1 hb2 HWX HCL HPUT HX HWF
        go_wp2_with fail
        generalize ((((w2.setCell ⟨w.heap.size, k * 4, none⟩ (.int .i64 y1)).setCell ⟨w.heap.size, k * 4 + 1, none⟩ (.int .i64 y2)).setCell ⟨w.heap.size, k * 4 + 2, none⟩ (.slice (some ⟨B1, 0, none⟩) y3n (y3n + 64))).setCell ⟨w.heap.size, k * 4 + 3, none⟩ (.slice (some ⟨B2, 0, none⟩) y4n (y4n + 64))) = X at *
        exact ⟨⟨k + 1, _, by omega, by go_num, hid (by rw [List.length_append, HYL.out]; rfl), R2, F2, BB⟩, by simp [intOf]; omega⟩
      · have hkn' : ¬ (k : Int) < n := by omega
        have HMk := hid (HM.out k (by omega) wr)
        have hx2 := HX.out
        obtain ⟨u0, d0⟩ := HCL.out wr hx2 0 (by omega)
        obtain ⟨u1, d1⟩ := HCL.out wr hx2 1 (by omega)
        obtain ⟨u2, d2⟩ := HCL.out wr hx2 2 (by omega)
        obtain ⟨u3, d3⟩ := HCL.out wr hx2 3 (by omega)
        rw [Nat.add_zero] at d0
        have z0 : wr.frozen? ⟨w.heap.size, k * 4, none⟩ = false := frzB hx2
        have z1 : wr.frozen? ⟨w.heap.size, k * 4 + 1, none⟩ = false := frzB hx2
        have z2 : wr.frozen? ⟨w.heap.size, k * 4 + 2, none⟩ = false := frzB hx2
        have z3 : wr.frozen? ⟨w.heap.size, k * 4 + 3, none⟩ = false := frzB hx2
        have hrow := HPUT.out wr hx2 (mkF k)
        have hwf := ((((WFs.snoc HYL.out HWF.out (y := mkF k) (fun h => absurd h hkn) (fun _ => rfl)).put (i := k * 4) (v := .int .i64 0) hx2).put (i := k * 4 + 1) (v := .int .i64 (9437184 + (k : Int) + 1)) (blk_set hx2)).put (i := k * 4 + 2) (v := .slice none 0 0) (blk_set (blk_set hx2))).put (i := k * 4 + 3) (v := .slice none 0 0) (blk_set (blk_set (blk_set hx2)))
        have hbl : Below w.heap.size w ((((wr.setCell ⟨w.heap.size, k * 4, none⟩ (.int .i64 0)).setCell ⟨w.heap.size, k * 4 + 1, none⟩ (.int .i64 (9437184 + (k : Int) + 1))).setCell ⟨w.heap.size, k * 4 + 2, none⟩ (.slice none 0 0)).setCell ⟨w.heap.size, k * 4 + 3, none⟩ (.slice none 0 0)) := (((HB.out.setCell (Nat.le_refl _) _).setCell (Nat.le_refl _) _).setCell (Nat.le_refl _) _).setCell (Nat.le_refl _) _
        simp only at hrow
        have R2 := hid hrow
        have F2 := hid hwf
        have BB := hid hbl
        clear hrow hwf hbl hx2 HCL HPUT HX HWF HSH HM
        go_wp2_with fail
        refine HMk.out.mono ?_
        rintro e w' ⟨rfl, hw'⟩
        rw [hw']
        have hnm : (1048576 * ((9 : Nat) : Int) + (k : Int) + 1) = 9437184 + (k : Int) + 1 := by omega
        rw [hnm]
        clear hw' HMk
        go_wp2_with fail
        generalize ((((wr.setCell ⟨w.heap.size, k * 4, none⟩ (.int .i64 0)).setCell ⟨w.heap.size, k * 4 + 1, none⟩ (.int .i64 (9437184 + (k : Int) + 1))).setCell ⟨w.heap.size, k * 4 + 2, none⟩ (.slice none 0 0)).setCell ⟨w.heap.size, k * 4 + 3, none⟩ (.slice none 0 0)) = X at *
        exact ⟨⟨k + 1, _, by omega, by go_num, hid (by rw [List.length_append, HYL.out]; rfl), R2, F2, BB⟩, by simp [intOf]; omega⟩
    · obtain rfl : k = n + 64 := by omega
      clear HSH HM HBD
      go_wp2_with fail
      go_ret
      refine ⟨w.heap.size, ys, rfl, HYL.out, ?_, HWF.out, Nat.le_refl _, HB.out⟩
      have := HX.out
      rw [Nat.sub_self, List.replicate_zero, List.append_nil] at this
      exact this
end Go.Proofs.YtbdjghokedfkfaaDoor

/-
  The marks behind frames asked.
-/
namespace Go.Proofs.YtbdjghokedfkfaaDoor
open Go.RowKit
set_option linter.unusedVariables false
set_option maxRecDepth 100000

/-- A frame in a row of frames. -/
theorem fr_cells {w : World} {B : Nat} {ys : List FrM} (h : w.heap[B]? = some (.cells (ys.flatMap frCs).toArray 66)) {j : Nat} {x : FrM} (hj : ys[j]? = some x) :
    w.cell? ⟨B, j * 4, none⟩ = some (.int .i64 x.1) ∧ w.cell? ⟨B, j * 4 + 1, none⟩ = some (.int .i64 x.2.1) ∧ w.cell? ⟨B, j * 4 + 2, none⟩ = some (.slice x.2.2.1.1.1 x.2.2.1.1.2.1 x.2.2.1.1.2.2) ∧ w.cell? ⟨B, j * 4 + 3, none⟩ = some (.slice x.2.2.2.1.1 x.2.2.2.1.2.1 x.2.2.2.1.2.2) := by
  have hc : ∀ q, q < 4 → w.cell? ⟨B, j * 4 + q, none⟩ = (frCs x)[q]? := fun q hq => by
    rw [cell_at h, List.getElem?_toArray, fm_get frCs 4 frCs_len ys j q hq, hj]
    rfl
  exact ⟨hc 0 (by omega), hc 1 (by omega), hc 2 (by omega), hc 3 (by omega)⟩
set_option maxHeartbeats 1000000 in
theorem spareF1 (base : Nat) (x : FrM) (B1 B2 : Nat) (w : World) (h : W1F base w x B1 B2) (n1 : x.2.2.1.1.2.1 ≤ 2147483647) (n2 : x.2.2.2.1.2.1 ≤ 2147483647) :
    Calls Tryd.prog 76 #[frV (wdF x B1 B2)] w fun e w' => e = .returned (.bool true) ∧ Below w.heap.size w w' := by
  obtain ⟨y1, y2, ⟨⟨y3a, y3n, y3c⟩, y3⟩, ⟨⟨y4a, y4n, y4c⟩, y4⟩⟩ := x
  simp only at n1 n2
  have b1 := below_new w (.cells #[.int .i64 y1, .int .i64 y2, .slice (some ⟨B1, 0, none⟩) y3n (y3n + 64), .slice (some ⟨B2, 0, none⟩) y4n (y4n + 64)] 66)
  have H1 := hid (spareW B1 y3n y3 _ (h.later b1).l n1)
  have H2 := hid (spareW B2 y4n y4 _ (h.later b1).s n2)
  have HB1 := hid b1
  clear b1 h
  go_enter Tryd.func76, Tryd.ntmps76
  go_wp2_with fail
  refine H1.out.mono ?_
  rintro e w' ⟨rfl, hw'⟩
  rw [hw']
  go_wp2_with fail
  refine H2.out.mono ?_
  rintro e w'' ⟨rfl, hw''⟩
  rw [hw'']
  go_wp2_with fail
  go_ret
  exact ⟨rfl, HB1.out⟩
set_option maxHeartbeats 4000000 in
theorem spareFs (base B n : Nat) (xs ys : List FrM) (w : World) (hy : ys.length = n + 64) (hrow : w.heap[B]? = some (.cells (ys.flatMap frCs).toArray 66)) (hwf : WFs base w n xs ys) (hn : n ≤ 2147483647) (hb : ∀ x ∈ xs, x.2.2.1.1.2.1 ≤ 2147483647 ∧ x.2.2.2.1.2.1 ≤ 2147483647) :
    Calls Tryd.prog 50 #[.slice (some ⟨B, 0, none⟩) n (n + 64)] w fun e w' => e = .returned (.bool true) ∧ Below w.heap.size w w' := by
  have HC := hid (fun (W : World) (hW : Below w.heap.size w W) (j : Nat) (x : FrM) (hj : ys[j]? = some x) => fr_cells (nb_later hW hrow) hj)
  have HWF := hid (fun (W : World) (hW : Below w.heap.size w W) => hwf.later hW)
  have HM := hid (fun (k : Nat) (hk : k ≤ 4294967296) (W : World) => numC 9 k W (by omega) (by omega))
  have HYL := hid hy
  have HBD := hid hb
  have HB0 := hid (Below.refl w.heap.size w)
  clear hrow hwf hy hb
  go_enter Tryd.func50, Tryd.ntmps50
  go_wp2_with fail
  go_loopw [4] (fun i wr => ∃ k : Nat, n ≤ k ∧ k ≤ n + 64 ∧ i = .int .i64 k ∧ Hid (Below w.heap.size w wr)) (fun i _ => n + 64 - (intOf i).toNat)
  case atStart => exact ⟨n, Nat.le_refl _, by omega, rfl, HB0⟩
  clear HB0
  case round =>
    obtain ⟨k, hnk, hk, rfl, HB⟩ := hrel
    by_cases hlt : k < n + 64
    · have hlt' : (k : Int) < (n : Int) + 64 := by omega
      obtain ⟨y, hy⟩ : ∃ y, ys[k]? = some y := ⟨_, List.getElem?_eq_getElem (by have := HYL.out; omega)⟩
      obtain ⟨c0, c1, c2, c3⟩ := HC.out _ HB.out k y hy
      have hym := (HWF.out _ HB.out).mrk k y hy hnk
      subst hym
      simp only at c0 c1 c2 c3
      have bn := below_new wr (.cells #[.int .i64 0, .int .i64 (9437184 + (k : Int) + 1), .slice none 0 0, .slice none 0 0] 66)
      have HBN := hid (HB.out.trans (bn.mono HB.out.size))
      have HMk := hid (fun (W : World) => HM.out k (by omega) W)
      clear hy bn HC HWF HM HYL HBD
      go_wp2_with fail
      have hnm : (1048576 * ((9 : Nat) : Int) + (k : Int) + 1) = 9437184 + (k : Int) + 1 := by omega
      have HMq := hid (fun (W : World) => (show Calls Tryd.prog 65 #[.int .i64 9, .int .i64 k] W (fun e w' => e = .returned (.int .i64 (9437184 + (k : Int) + 1)) ∧ w' = W) from by have := HMk.out W; rw [hnm] at this; exact this))
      have hee : ((9437184 + (k : Int) + 1 : Int) == 9437184 + (k : Int) + 1) = true := by simp
      have hkn : (wr.alloc (.cells #[.int .i64 0, .int .i64 (9437184 + (k : Int) + 1), .slice none 0 0, .slice none 0 0] 66)).heap[wr.heap.size]? = some (.cells #[.int .i64 0, .int .i64 (9437184 + (k : Int) + 1), .slice none 0 0, .slice none 0 0] 66) := nb_new _ _
      generalize wr.alloc (.cells #[.int .i64 0, .int .i64 (9437184 + (k : Int) + 1), .slice none 0 0, .slice none 0 0] 66) = W2 at *
      have f1 : W2.cell? ⟨wr.heap.size, 1, none⟩ = some (.int .i64 (9437184 + (k : Int) + 1)) := cell_at hkn
      have f2 : W2.cell? ⟨wr.heap.size, 2, none⟩ = some (.slice none 0 0) := cell_at hkn
      clear hkn HMk hnm
      go_quiet ((go_at_call 65; exact Calls.quiet_of_same (HMq.out _)))
      go_wp2_with fail
      exact ⟨⟨k + 1, by omega, by omega, by go_num, hid (HBN.out.trans ((below_drewN W2 nq).mono HBN.out.size))⟩, by simp [intOf]; omega⟩
    · have hlt' : ¬ (k : Int) < (n : Int) + 64 := by omega
      clear HM
      go_wp2_with fail
      have HB0 := HB
      generalize wr = w9 at *
      go_loopw [6] (fun i wr => ∃ k : Nat, k ≤ n ∧ i = .int .i64 k ∧ Hid (Below w.heap.size w wr)) (fun i _ => n - (intOf i).toNat)
      case atStart => exact ⟨0, by omega, rfl, HB0⟩
      clear HB HB0
      case round =>
        obtain ⟨j, hj, rfl, HB⟩ := hrel
        by_cases hlt2 : j < n
        · have hlt2' : (j : Int) < (n : Int) := by omega
          obtain ⟨y, hy⟩ : ∃ y, ys[j]? = some y := ⟨_, List.getElem?_eq_getElem (by have := HYL.out; omega)⟩
          obtain ⟨c0, c1, c2, c3⟩ := HC.out _ HB.out j y hy
          obtain ⟨x, B1, B2, hx, rfl, hw⟩ := (HWF.out _ HB.out).el j y hy hlt2
          have hbd := HBD.out x (List.mem_of_getElem? hx)
          have HSF := hid (spareF1 base x B1 B2 _ hw hbd.1 hbd.2)
          clear hy hx hw hbd HC HWF HYL HBD
          obtain ⟨y1, y2, ⟨⟨y3a, y3n, y3c⟩, y3⟩, ⟨⟨y4a, y4n, y4c⟩, y4⟩⟩ := x
          simp only at c0 c1 c2 c3
          go_wp2_with fail
          refine HSF.out.mono ?_
          rintro e w3 ⟨rfl, hb3⟩
          have HB3 := hid (HB.out.trans (hb3.mono HB.out.size))
          clear hb3 HSF
          go_wp2_with fail
          exact ⟨⟨j + 1, by omega, by go_num, HB3⟩, by simp [intOf]; omega⟩
        · have hlt2' : ¬ (j : Int) < (n : Int) := by omega
          clear HC HWF HYL HBD
          go_wp2_with fail
          go_ret
          exact ⟨rfl, HB.out⟩
end Go.Proofs.YtbdjghokedfkfaaDoor

/-
  A state with marks behind its lists: what it is.
-/
namespace Go.Proofs.YtbdjghokedfkfaaDoor
open Go.RowKit
set_option linter.unusedVariables false
set_option maxRecDepth 100000

abbrev dP : PgM := ((none, 0, 0), [])
def lnP (ps : List PgM) (i : Nat) : Nat := (ps.getD i dP).1.2.1
def gP (ps : List PgM) (i j : Nat) : Int := (ps.getD i dP).2.getD j 0
theorem pseg_of {w : World} {a : Option Addr} {n c : Nat} {ps : List PgM} (h : SPg w a n ps) (hc : n ≤ c) (hn : n ≤ 2147483647) (hp : ∀ p ∈ ps, p.1.2.1 ≤ p.1.2.2 ∧ p.1.2.1 ≤ 2147483647) : PSeg w (.slice a n c) n (lnP ps) (gP ps) := by
  refine ⟨a, c, rfl, hc, by omega, ?_⟩
  rcases h.at_ with h0 | ⟨b, off, rfl, hat⟩
  · exact .inl h0
  · refine .inr ⟨b, off, rfl, fun i hi => ?_⟩
    obtain ⟨y, hy⟩ : ∃ y, ps[i]? = some y := ⟨_, List.getElem?_eq_getElem (by have := h.len; omega)⟩
    have hm := List.mem_of_getElem? hy
    have e1 : ps.getD i dP = y := by rw [List.getD_eq_getElem?_getD, hy]; rfl
    refine ⟨_, hat i y hy, y.1.1, y.1.2.2, ?_, ?_, ?_, ?_⟩
    · unfold lnP; rw [e1]
    · unfold lnP; rw [e1]; exact (hp y hm).1
    · unfold lnP; rw [e1]; have := (hp y hm).2; omega
    · unfold lnP gP
      rw [e1]
      have hs := h.in_ y hm
      rcases hs.2 with h0 | ⟨b', o', e, hcl⟩
      · exact .inl h0
      · refine .inr ⟨b', o', e, fun j hj => ?_⟩
        obtain ⟨z, hz⟩ : ∃ z, y.2[j]? = some z := ⟨_, List.getElem?_eq_getElem (by have := hs.1; omega)⟩
        have := hcl j z hz
        rw [this, List.getD_eq_getElem?_getD, hz]
        rfl
/-- The pages with marks behind them. -/
def pgW (ps : List PgM) (QF : Nat → Nat) : List PgM := (List.range ps.length).map (fun i => (((some ⟨QF i, 0, none⟩, lnP ps i, lnP ps i + 64), (ps.getD i dP).2) : PgM))
theorem pgW_get {ps : List PgM} {QF : Nat → Nat} {i : Nat} {y : PgM} (h : ps[i]? = some y) : (pgW ps QF)[i]? = some ((some ⟨QF i, 0, none⟩, y.1.2.1, y.1.2.1 + 64), y.2) := by
  have hi := lt_of_get h
  unfold pgW lnP
  rw [List.getElem?_map, List.getElem?_range hi]
  simp [List.getD_eq_getElem?_getD, h]
theorem pgW_len (ps : List PgM) (QF : Nat → Nat) : (pgW ps QF).length = ps.length := by simp [pgW]
theorem pgW_snd (ps : List PgM) (QF : Nat → Nat) : (pgW ps QF).map (fun p => p.2) = ps.map (fun p => p.2) := by
  apply List.ext_getElem?
  intro i
  rw [List.getElem?_map, List.getElem?_map]
  cases h : ps[i]? with
  | none => rw [List.getElem?_eq_none (by rw [pgW_len]; exact List.getElem?_eq_none_iff.1 h)]
  | some y => rw [pgW_get h]; rfl
theorem pgW_mem {ps : List PgM} {QF : Nat → Nat} {p : PgM} (h : p ∈ pgW ps QF) : ∃ i y, ps[i]? = some y ∧ p = ((some ⟨QF i, 0, none⟩, y.1.2.1, y.1.2.1 + 64), y.2) := by
  obtain ⟨i, hi⟩ := List.getElem?_of_mem h
  have hl := lt_of_get hi
  rw [pgW_len] at hl
  have hy := List.getElem?_eq_getElem hl
  rw [pgW_get hy] at hi
  exact ⟨i, _, hy, (Option.some.inj hi).symm⟩
theorem row_si {w : World} {B n m : Nat} {l : List Int} {g : Nat → Int} (h : Row w 5 B m m (bytesL (wdB n g) m)) (hl : l.length = n) (hm : n ≤ m) (hg : ∀ (j : Nat) z, l[j]? = some z → g j = z) : SI .u8 w (some ⟨B, 0, none⟩) n l :=
  ⟨hl, .inr ⟨B, 0, rfl, fun j x hj => by
    have hjn := lt_of_get hj
    rw [Nat.zero_add, h.cell j (by omega), bytesL_get _ _ _ (by omega)]
    unfold wdB
    rw [if_pos (by omega), hg j x hj]⟩⟩
theorem wp_spg {w : World} {L n : Nat} {ps : List PgM} {QF CF : Nat → Nat} (h : Wp w L n (lnP ps) (gP ps) (n + 64) QF CF) (hl : ps.length = n) (hp : ∀ p ∈ ps, p.2.length = p.1.2.1) : SPg w (some ⟨L, 0, none⟩) n (pgW ps QF) := by
  refine ⟨by rw [pgW_len]; exact hl, .inr ⟨L, 0, rfl, fun j x hj => ?_⟩, fun x hx => ?_⟩
  · have hjl := lt_of_get hj
    rw [pgW_len] at hjl
    have hy := List.getElem?_eq_getElem hjl
    rw [pgW_get hy] at hj
    have hx := Option.some.inj hj
    rw [← hx, Nat.zero_add, h.U (by omega)]
    unfold wpU lnP
    rw [if_pos (by omega), if_pos (by omega), List.getD_eq_getElem?_getD, hy]
    rfl
  · obtain ⟨i, y, hy, rfl⟩ := pgW_mem hx
    have hi := lt_of_get hy
    have hm := List.mem_of_getElem? hy
    have e1 : ps.getD i dP = y := by rw [List.getD_eq_getElem?_getD, hy]; rfl
    have hr := h.pg i (by omega) (by omega)
    have e2 : lnP ps i = y.1.2.1 := by unfold lnP; rw [e1]
    rw [e2] at hr
    exact row_si (n := y.1.2.1) hr (hp y hm) (by omega) (fun j z hz => by unfold gP; rw [e1, List.getD_eq_getElem?_getD, hz]; rfl)
theorem wfs_sfr {base : Nat} {w : World} {B n : Nat} {xs ys : List FrM} (hrow : w.heap[B]? = some (.cells (ys.flatMap frCs).toArray 66)) (h : WFs base w n xs ys) (hy : ys.length = n + 64) (hx : ∀ x ∈ xs, x.2.2.1.2.length = x.2.2.1.1.2.1 ∧ x.2.2.2.2.length = x.2.2.2.1.2.1) : SFr w (some ⟨B, 0, none⟩) n (ys.take n) := by
  refine ⟨by rw [List.length_take]; omega, .inr ⟨B, 0, rfl, fun j x hj => ?_⟩, fun x hxm => ?_⟩
  · rw [List.getElem?_take] at hj
    split at hj
    · rw [Nat.zero_add]; exact fr_cells hrow hj
    · cases hj
  · obtain ⟨j, hj⟩ := List.getElem?_of_mem hxm
    rw [List.getElem?_take] at hj
    split at hj
    · rename_i hjn
      obtain ⟨x', B1, B2, hx', rfl, hw⟩ := h.el j x hj hjn
      have hl := hx x' (List.mem_of_getElem? hx')
      exact ⟨hw.l.si hl.1, hw.s.si hl.2⟩
    · cases hj
theorem wfs_pl {base : Nat} {w : World} {n : Nat} {xs ys : List FrM} (h : WFs base w n xs ys) (hy : ys.length = n + 64) (hx : xs.length = n) : (ys.take n).map plF = xs.map plF := by
  apply List.ext_getElem?
  intro j
  rw [List.getElem?_map, List.getElem?_map]
  by_cases hj : j < n
  · have h1 := List.getElem?_eq_getElem (l := ys) (i := j) (by omega)
    obtain ⟨x, B1, B2, hx', e, _⟩ := h.el j _ h1 hj
    rw [List.getElem?_take, if_pos hj, h1, hx', e]
    rfl
  · rw [List.getElem?_eq_none (by rw [List.length_take]; omega), List.getElem?_eq_none (by omega)]
/-- The state with marks behind its lists. -/
abbrev wdS (x : StM) (BF : Nat) (ys : List FrM) (BG BP : Nat) (QF : Nat → Nat) (BR : Nat) : StM :=
  ⟨some ⟨BF, 0, none⟩, x.fn, x.fn + 64, ys.take x.fn, some ⟨BG, 0, none⟩, x.gn, x.gn + 64, x.gs, some ⟨BP, 0, none⟩, x.pn, x.pn + 64, pgW x.ps QF, x.rep, x.en, some ⟨BR, 0, none⟩, x.rn, x.rn + 64, x.rs, x.tr, x.us⟩
structure WdS (base : Nat) (w : World) (x : StM) (BF : Nat) (ys : List FrM) (BG BP : Nat) (QF CF : Nat → Nat) (BR : Nat) : Prop where
  fl : ys.length = x.fn + 64
  fr : w.heap[BF]? = some (.cells (ys.flatMap frCs).toArray 66)
  fw : WFs base w x.fn x.fs ys
  g : WW w BG x.gn x.gs
  p : Wp w BP x.pn (lnP x.ps) (gP x.ps) (x.pn + 64) QF CF
  r : WW w BR x.rn x.rs
theorem WdS.later {base : Nat} {w w' : World} {x : StM} {BF : Nat} {ys : List FrM} {BG BP : Nat} {QF CF : Nat → Nat} {BR : Nat} (h : WdS base w x BF ys BG BP QF CF BR) (hb : Below w.heap.size w w') : WdS base w' x BF ys BG BP QF CF BR :=
  ⟨h.fl, nb_later hb h.fr, h.fw.later hb, h.g.later hb, h.p.later hb, h.r.later hb⟩
theorem WdS.sst {base : Nat} {w w0 : World} {x : StM} {BF : Nat} {ys : List FrM} {BG BP : Nat} {QF CF : Nat → Nat} {BR : Nat} (h : WdS base w x BF ys BG BP QF CF BR) (hx : SSt w0 x) : SSt w (wdS x BF ys BG BP QF BR) :=
  ⟨wfs_sfr h.fr h.fw h.fl (fun f hf => ⟨(hx.fr.in_ f hf).1.1, (hx.fr.in_ f hf).2.1⟩), h.g.si hx.gl.1, wp_spg h.p hx.pg.len (fun p hp => (hx.pg.in_ p hp).1), h.r.si hx.rs.1⟩
theorem WdS.pl {base : Nat} {w w0 : World} {x : StM} {BF : Nat} {ys : List FrM} {BG BP : Nat} {QF CF : Nat → Nat} {BR : Nat} (h : WdS base w x BF ys BG BP QF CF BR) (hx : SSt w0 x) : plS (wdS x BF ys BG BP QF BR) = plS x := by
  show (⟨x.en, x.tr, x.us, x.rep, x.rs, x.gs, (pgW x.ps QF).map (fun p => p.2), (ys.take x.fn).map plF⟩ : StP) = ⟨x.en, x.tr, x.us, x.rep, x.rs, x.gs, x.ps.map (fun p => p.2), x.fs.map plF⟩
  rw [pgW_snd, wfs_pl h.fw h.fl hx.fr.len]
theorem WdS.mem {base : Nat} {w : World} {x : StM} {BF : Nat} {ys : List FrM} {BG BP : Nat} {QF CF : Nat → Nat} {BR : Nat} (h : WdS base w x BF ys BG BP QF CF BR) : ∀ f ∈ ys.take x.fn, ∃ f' B1 B2, f' ∈ x.fs ∧ f = wdF f' B1 B2 := fun f hf => by
  obtain ⟨j, hj⟩ := List.getElem?_of_mem hf
  rw [List.getElem?_take] at hj
  split at hj
  · rename_i hjn
    obtain ⟨x', B1, B2, hx', e, _⟩ := h.fw.el j f hj hjn
    exact ⟨x', B1, B2, List.mem_of_getElem? hx', e⟩
  · cases hj
theorem WdS.sb {base : Nat} {w : World} {x : StM} {BF : Nat} {ys : List FrM} {BG BP : Nat} {QF CF : Nat → Nat} {BR : Nat} (h : WdS base w x BF ys BG BP QF CF BR) (hb : SB x) : SB (wdS x BF ys BG BP QF BR) := by
  refine ⟨fun f hf => ?_, fun p hp => ?_, hb.f, hb.g, hb.p, hb.r⟩
  · obtain ⟨f', B1, B2, hm, rfl⟩ := h.mem f hf
    exact hb.fb f' hm
  · obtain ⟨i, y, hy, rfl⟩ := pgW_mem hp
    exact hb.pb y (List.mem_of_getElem? hy)
theorem WdS.sr {base : Nat} {w : World} {x : StM} {BF : Nat} {ys : List FrM} {BG BP : Nat} {QF CF : Nat → Nat} {BR : Nat} (h : WdS base w x BF ys BG BP QF CF BR) (hr : SR x) : SR (wdS x BF ys BG BP QF BR) := by
  refine ⟨hr.en, hr.tr, hr.rs, hr.gs, fun f hf => ?_, fun p hp => ?_⟩
  · obtain ⟨f', B1, B2, hm, rfl⟩ := h.mem f hf
    exact hr.fs f' hm
  · obtain ⟨i, y, hy, rfl⟩ := pgW_mem hp
    show y.1.2.1 ≤ y.1.2.1 + 64
    omega
theorem WdS.rg {base : Nat} {w w0 : World} {x : StM} {BF : Nat} {ys : List FrM} {BG BP : Nat} {QF CF : Nat → Nat} {BR : Nat} (h : WdS base w x BF ys BG BP QF CF BR) (hr : RgS x) : RgS (wdS x BF ys BG BP QF BR) := by
  refine ⟨hr.us, hr.rep, hr.rs, hr.gs, fun f hf => ?_, fun p hp => ?_⟩
  · obtain ⟨f', B1, B2, hm, rfl⟩ := h.mem f hf
    exact hr.fs f' hm
  · obtain ⟨i, y, hy, rfl⟩ := pgW_mem hp
    exact hr.pl y (List.mem_of_getElem? hy)
/-- What is written hangs on what a state holds alone. -/
theorem okS_pl {x y : StM} (hx : RgS x) (hy : RgS y) (e : plS x = plS y) (h : OkS x) : OkS y := by
  simp only [plS, StP.mk.injEq] at e
  obtain ⟨h1, h2, h3, h4, h5, h6, h7, h8⟩ := e
  have lp : x.ps.length = y.ps.length := by have := congrArg List.length h7; simpa using this
  have lf : x.fs.length = y.fs.length := by have := congrArg List.length h8; simpa using this
  refine ⟨h1 ▸ h.en, h2 ▸ h.tr, h3 ▸ h.us, h4 ▸ h.rep, h5 ▸ h.rs, h6 ▸ h.gs, lp ▸ h.ps, fun p hp => ?_, lf ▸ h.fs, fun f hf => ?_⟩
  · have hm : p.2 ∈ y.ps.map (fun p => p.2) := List.mem_map_of_mem hp
    rw [← h7] at hm
    obtain ⟨q, hq, e⟩ := List.mem_map.1 hm
    rw [← hy.pl p hp, ← e, hx.pl q hq]
    exact h.pl q hq
  · have hm : plF f ∈ y.fs.map plF := List.mem_map_of_mem hf
    rw [← h8] at hm
    obtain ⟨q, hq, e⟩ := List.mem_map.1 hm
    have := h.fl q hq
    unfold plF at e
    simp only [Prod.mk.injEq] at e
    obtain ⟨e1, e2, e3, e4⟩ := e
    rw [← e1, ← e2, ← e3, ← e4]
    exact this
theorem wrV_ok {x : StM} (hx : RgS x) : (wrV x).2 = false ↔ OkS x := ⟨fun h => (stW_is h).1, fun h => by rw [wr_of h hx]⟩
theorem wrV_pl {x y : StM} (hx : RgS x) (hy : RgS y) (e : plS x = plS y) : (wrV x).2 = (wrV y).2 ∧ ((wrV x).2 = false → (wrV x).1 = (wrV y).1) := by
  by_cases h : OkS x
  · have h' := okS_pl hx hy e h
    rw [wr_of h hx, wr_of h' hy, encS_pl e]
    exact ⟨rfl, fun _ => rfl⟩
  · have h' : ¬ OkS y := fun g => h (okS_pl hy hx e.symm g)
    have a : (wrV x).2 = true := by rw [← Bool.not_eq_false]; exact fun g => h ((wrV_ok hx).1 g)
    have b : (wrV y).2 = true := by rw [← Bool.not_eq_false]; exact fun g => h' ((wrV_ok hy).1 g)
    exact ⟨a.trans b.symm, fun g => by rw [a] at g; cases g⟩
/-- What is asked is what the writer asks. -/
theorem may_ok {w : World} {x : StM} (hS : SSt w x) (hr : RgS x) : MayS x ↔ OkS x := by
  have lr := hS.rs.1
  have lg := hS.gl.1
  have lp := hS.pg.len
  have lf := hS.fr.len
  constructor
  · intro h
    have u1 : u64 x.us = x.us := u64_id ⟨h.us.1, by have := h.us.2; omega⟩
    have u2 : u64 x.rep = x.rep := u64_id ⟨h.rep, by have := hr.rep.2; omega⟩
    refine ⟨h.en, h.tr, by rw [u1]; exact h.us.2, by rw [u2]; have := hr.rep.2; omega, by rw [lr]; exact h.rs, by rw [lg]; exact h.gs, by rw [lp]; exact h.ps, h.pl, by rw [lf]; exact h.fs, fun f hf => ?_⟩
    obtain ⟨t1, t2, t3, t4, t5, t6⟩ := h.fl f hf
    have hi := hS.fr.in_ f hf
    have g1 : u64 f.1 = f.1 := u64_id ⟨t1, by omega⟩
    have g2 : u64 f.2.1 = f.2.1 := u64_id ⟨t3, by omega⟩
    exact ⟨by rw [g1]; omega, by rw [g2]; omega, by rw [hi.1.1]; exact t5, by rw [hi.2.1]; exact t6⟩
  · intro h
    have u1 := u64_small hr.us (by decide) h.us
    have u2 := u64_small hr.rep (by decide) h.rep
    refine ⟨h.en, h.tr, ⟨u1.2, by rw [← u1.1]; exact h.us⟩, u2.2, by rw [← lr]; exact h.rs, by rw [← lg]; exact h.gs, by rw [← lp]; exact h.ps, by rw [← lf]; exact h.fs, h.pl, fun f hf => ?_⟩
    obtain ⟨t1, t2, t3, t4⟩ := h.fl f hf
    have hi := hS.fr.in_ f hf
    have hg := (hr.fs f hf).2
    have g1 := u64_small hg.1 (by decide) t1
    have g2 := u64_small hg.2 (by decide) t2
    rw [g1.1] at t1
    rw [g2.1] at t2
    exact ⟨g1.2, by omega, g2.2, by omega, by rw [← hi.1.1]; exact t3, by rw [← hi.2.1]; exact t4⟩
end Go.Proofs.YtbdjghokedfkfaaDoor
