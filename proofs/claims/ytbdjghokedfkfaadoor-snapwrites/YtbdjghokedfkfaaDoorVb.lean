/-
  Words with marks behind them, and the marks asked.
-/
import Derived.Test.YtbdjghokedfkfaaDoorVa
namespace Go.Proofs.YtbdjghokedfkfaaDoor
open Go.RowKit
set_option linter.unusedVariables false
set_option maxRecDepth 100000

def wdW (l : List Int) (n j : Nat) : Int := if j < n then l.getD j 0 else 9437184 + (j : Int) + 1
def wwV (l : List Int) (n j : Nat) : Value := .int .u64 (wdW l n j)
def wwK (l : List Int) (n k j : Nat) : Value := if j < k then wwV l n j else .int .u64 0
def wL (V : Nat → Value) (n : Nat) : List Value := (List.range n).map V
theorem wL_len (V : Nat → Value) (n : Nat) : (wL V n).length = n := by simp [wL]
theorem wL_get (V : Nat → Value) (n j : Nat) (h : j < n) : (wL V n)[j]? = some (V j) := by simp [wL, h]
theorem wL_set (V : Nat → Value) (n k : Nat) (u : Value) : (wL V n).set k u = wL (upd V k u) n := by
  apply List.ext_getElem?
  intro j
  rw [List.getElem?_set]
  unfold wL upd
  by_cases hjn : j < n
  · by_cases e : k = j
    · subst e
      simp [hjn]
    · rw [if_neg e]
      have e' : ¬ j = k := fun h => e h.symm
      simp [hjn, e']
  · rw [List.getElem?_eq_none (by simp; omega), List.getElem?_eq_none (by simp; omega)]
    by_cases e : k = j
    · subst e; simp; omega
    · rw [if_neg e]
theorem wL_congr {V V' : Nat → Value} {n : Nat} (h : ∀ j, j < n → V j = V' j) : wL V n = wL V' n := by
  unfold wL
  apply List.map_congr_left
  intro j hj
  exact h j (by simpa using hj)
theorem wwK_succ (l : List Int) (n k : Nat) : upd (wwK l n k) k (wwV l n k) = wwK l n (k + 1) := by
  funext j
  unfold upd wwK
  by_cases e : j = k
  · subst e; rw [if_pos rfl, if_pos (by omega)]
  · rw [if_neg e]
    by_cases h : j < k
    · rw [if_pos h, if_pos (by omega)]
    · rw [if_neg h, if_neg (by omega)]
theorem made_words (l : List Int) (n m : Nat) : madeCells #[.int .u64 0] m = (wL (wwK l n 0) m).toArray := by
  apply Array.ext'
  rw [toList_madeCells_one]
  apply List.ext_getElem?
  intro j
  by_cases h : j < m
  · rw [List.getElem?_replicate, if_pos h]
    show _ = (wL (wwK l n 0) m)[j]?
    rw [wL_get _ _ _ h]
    unfold wwK
    rw [if_neg (by omega)]
  · rw [List.getElem?_eq_none (by simp; omega), List.getElem?_eq_none (by simp [wL_len]; omega)]
/-- A row of words with marks behind it, in a block of its own. -/
def WW (w : World) (B n : Nat) (l : List Int) : Prop := w.heap[B]? = some (.cells (wL (wwV l n) (n + 64)).toArray 63)
theorem WW.later {w w' : World} {B n : Nat} {l : List Int} (h : WW w B n l) (hb : Below w.heap.size w w') : WW w' B n l := nb_later hb h
theorem WW.cell {w : World} {B n : Nat} {l : List Int} (h : WW w B n l) (j : Nat) (hj : j < n + 64) : w.cell? ⟨B, j, none⟩ = some (wwV l n j) := by
  rw [cell_at h, List.getElem?_toArray]
  exact wL_get _ _ _ hj
theorem WW.si {w : World} {B n : Nat} {l : List Int} (h : WW w B n l) (hl : l.length = n) : SI .u64 w (some ⟨B, 0, none⟩) n l :=
  ⟨hl, .inr ⟨B, 0, rfl, fun j x hj => by
    have hjn := lt_of_get hj
    rw [Nat.zero_add, h.cell j (by omega)]
    unfold wwV wdW
    rw [if_pos (by omega), List.getD_eq_getElem?_getD, hj]
    rfl⟩⟩
set_option maxHeartbeats 1000000 in
theorem wideW (a : Option Addr) (n c : Nat) (l : List Int) (w : World) (h : SI .u64 w a n l) (hn : n ≤ 2147483647) :
    Calls Tryd.prog 23 #[.slice a n c] w fun e w' => ∃ B, e = .returned (.slice (some ⟨B, 0, none⟩) n (n + 64)) ∧ w.heap.size ≤ B ∧ WW w' B n l ∧ Below w.heap.size w w' := by
  have HL := hid h.1
  have HSH := hid (fun (W : World) (hW : Below w.heap.size w W) => (h.later hW).2)
  have hmk : (Instr.makeSlice 23 (.int .i64 ((n : Int) + 64)) (.int .i64 ((n : Int) + 64))).run Tryd.prog w = .ok (.slice (some ⟨w.heap.size, 0, none⟩) (n + 64) (n + 64)) (w.alloc (.cells (wL (wwK l n 0) (n + 64)).toArray 63)) := by
    have := run_make_row' (P := Tryd.prog) 23 63 (.int .u64 0) 8 Tryd.underlying23 Tryd.inf40 rfl .i64 .i64 (n + 64) (by omega) (by omega) w
    rw [made_words l n (n + 64)] at this
    exact this
  have HB0 := hid (below_new w (.cells (wL (wwK l n 0) (n + 64)).toArray 63))
  have HK0 := hid (nb_new w (.cells (wL (wwK l n 0) (n + 64)).toArray 63))
  have HM := hid (fun (k : Nat) (hk : k ≤ 4294967296) (W : World) => numC 9 k W (by omega) (by omega))
  clear h
  go_enter Tryd.func23, Tryd.ntmps23
  go_wp2_with fail
  generalize w.alloc (.cells (wL (wwK l n 0) (n + 64)).toArray 63) = W1 at *
  go_loopw [4] (fun i wr => ∃ k : Nat, k ≤ n + 64 ∧ i = .int .i64 k ∧ Hid (wr.heap[w.heap.size]? = some (.cells (wL (wwK l n k) (n + 64)).toArray 63)) ∧ Hid (Below w.heap.size w wr)) (fun i _ => n + 64 - (intOf i).toNat)
  case atStart => exact ⟨0, by omega, rfl, HK0, HB0⟩
  clear HK0 HB0
  case round =>
    obtain ⟨k, hk, rfl, HX, HB⟩ := hrel
    by_cases hlt : k < n + 64
    · have hcl : wr.cell? ⟨w.heap.size, k, none⟩ = some (wwK l n k k) := by rw [cell_at HX.out, List.getElem?_toArray]; exact wL_get _ _ _ hlt
      have hfr : wr.frozen? ⟨w.heap.size, k, none⟩ = false := frzB HX.out
      have HR2 := hid (show (wr.setCell ⟨w.heap.size, k, none⟩ (wwV l n k)).heap[w.heap.size]? = some (.cells (wL (wwK l n (k + 1)) (n + 64)).toArray 63) from by
        rw [blk_set HX.out]
        simp only [List.setIfInBounds_toArray]
        rw [wL_set, wwK_succ])
      have HB2 := hid (show Below w.heap.size w (wr.setCell ⟨w.heap.size, k, none⟩ (wwV l n k)) from HB.out.setCell (Nat.le_refl _) _)
      have hlt' : (k : Int) < (n : Int) + 64 := by omega
      by_cases hkn : k < n
      · obtain ⟨b, o, rfl, hsrc⟩ := (HSH.out wr HB.out).resolve_left (by omega)
        obtain ⟨x, hx⟩ : ∃ x, l[k]? = some x := ⟨_, List.getElem?_eq_getElem (by have := HL.out; omega)⟩
        have hs := hsrc k x hx
        have hwd : wwV l n k = .int .u64 x := by unfold wwV wdW; rw [if_pos hkn, List.getD_eq_getElem?_getD, hx]; rfl
        rw [hwd] at HR2 HB2
        clear hsrc hwd HSH hx HM
        have hkn' : (k : Int) < n := by omega
        generalize wwK l n k k = u0 at *
        go_wp2_with fail
        exact ⟨⟨k + 1, by omega, by go_num, HR2, HB2⟩, by simp [intOf]; omega⟩
      · have hwd : wwV l n k = .int .u64 (9437184 + (k : Int) + 1) := by unfold wwV wdW; rw [if_neg hkn]
        rw [hwd] at HR2 HB2
        have HMk := hid (HM.out k (by omega) wr)
        have hwr : IntKind.u64.wrap (9437184 + (k : Int) + 1) = 9437184 + (k : Int) + 1 := by simp only [IntKind.wrap_u64]; omega
        clear hwd HSH HM
        have hkn' : ¬ (k : Int) < n := by omega
        generalize wwK l n k k = u0 at *
        go_wp2_with fail
        refine HMk.out.mono ?_
        rintro e w' ⟨rfl, hw'⟩
        rw [hw']
        have hnm : (1048576 * ((9 : Nat) : Int) + (k : Int) + 1) = 9437184 + (k : Int) + 1 := by omega
        rw [hnm]
        go_wp2_with fail
        exact ⟨⟨k + 1, by omega, by go_num, HR2, HB2⟩, by simp [intOf]; omega⟩
    · obtain rfl : k = n + 64 := by omega
      clear HSH HM
      go_wp2_with fail
      go_ret
      refine ⟨w.heap.size, rfl, Nat.le_refl _, ?_, HB.out⟩
      have := HX.out
      rw [wL_congr (V' := wwV l n) (fun j hj => by unfold wwK; rw [if_pos hj])] at this
      exact this
set_option maxHeartbeats 1000000 in
theorem spareW (B n : Nat) (l : List Int) (w : World) (h : WW w B n l) (hn : n ≤ 2147483647) :
    Calls Tryd.prog 51 #[.slice (some ⟨B, 0, none⟩) n (n + 64)] w fun e w' => e = .returned (.bool true) ∧ w' = w := by
  have HC := hid (fun (j : Nat) (hj : j < n + 64) => h.cell j hj)
  have HM := hid (fun (k : Nat) (hk : k ≤ 4294967296) (W : World) => numC 9 k W (by omega) (by omega))
  clear h
  go_enter Tryd.func51, Tryd.ntmps51
  go_wp2_with fail
  go_loopw [4] (fun i wr => ∃ k : Nat, n ≤ k ∧ k ≤ n + 64 ∧ i = .int .i64 k ∧ wr = w) (fun i _ => n + 64 - (intOf i).toNat)
  case atStart => exact ⟨n, Nat.le_refl _, by omega, rfl, rfl⟩
  case round =>
    obtain ⟨k, hnk, hk, rfl, hwr⟩ := hrel
    subst hwr
    by_cases hlt : k < n + 64
    · have hlt' : (k : Int) < (n : Int) + 64 := by omega
      have e0 := HC.out k hlt
      have hwd : wwV l n k = .int .u64 (9437184 + (k : Int) + 1) := by unfold wwV wdW; rw [if_neg (by omega)]
      rw [hwd] at e0
      have HMk := hid (HM.out k (by omega) wr)
      have hwr : IntKind.u64.wrap (9437184 + (k : Int) + 1) = 9437184 + (k : Int) + 1 := by simp only [IntKind.wrap_u64]; omega
      have hee : ((9437184 + (k : Int) + 1 : Int) == 9437184 + (k : Int) + 1) = true := by simp
      clear HC HM hwd
      go_wp2_with fail
      refine HMk.out.mono ?_
      rintro e w' ⟨rfl, hw'⟩
      rw [hw']
      have hnm : (1048576 * ((9 : Nat) : Int) + (k : Int) + 1) = 9437184 + (k : Int) + 1 := by omega
      rw [hnm]
      clear hw' HMk
      go_wp2_with fail
      exact ⟨⟨k + 1, by omega, by omega, by go_num, by first | rfl | trivial⟩, by simp [intOf]; omega⟩
    · have hlt' : ¬ (k : Int) < (n : Int) + 64 := by omega
      clear HC HM
      go_wp2_with fail
      go_ret
      exact ⟨rfl, rfl⟩
end Go.Proofs.YtbdjghokedfkfaaDoor
