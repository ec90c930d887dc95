/-
  The marks behind frames asked.
-/
import Derived.Test.YtbdjghokedfkfaaDoorVc
namespace Go.Proofs.YtbdjghokedfkfaaDoor
open Go.RowKit
set_option linter.unusedVariables false
set_option maxRecDepth 100000

/-- A frame in a row of frames. -/
theorem fr_cells {w : World} {B : Nat} {ys : List FrM} (h : w.heap[B]? = some (.cells (ys.flatMap frCs).toArray 66)) {j : Nat} {x : FrM} (hj : ys[j]? = some x) :
    w.cell? ⟨B, j * 4, none⟩ = some (.int .i64 x.1) ∧ w.cell? ⟨B, j * 4 + 1, none⟩ = some (.int .i64 x.2.1) ∧ w.cell? ⟨B, j * 4 + 2, none⟩ = some (.slice x.2.2.1.1.1 x.2.2.1.1.2.1 x.2.2.1.1.2.2) ∧ w.cell? ⟨B, j * 4 + 3, none⟩ = some (.slice x.2.2.2.1.1 x.2.2.2.1.2.1 x.2.2.2.1.2.2) := by
  have hc : ∀ q, q < 4 → w.cell? ⟨B, j * 4 + q, none⟩ = (frCs x)[q]? := fun q hq => by
    rw [cell_at h, List.getElem?_toArray, fm_get frCs 4 frCs_len ys j q hq, hj]
    rfl
  exact ⟨hc 0 (by omega), hc 1 (by omega), hc 2 (by omega), hc 3 (by omega)⟩
set_option maxHeartbeats 1000000 in
theorem spareF1 (base : Nat) (x : FrM) (B1 B2 : Nat) (w : World) (h : W1F base w x B1 B2) (n1 : x.2.2.1.1.2.1 ≤ 2147483647) (n2 : x.2.2.2.1.2.1 ≤ 2147483647) :
    Calls Tryd.prog 76 #[frV (wdF x B1 B2)] w fun e w' => e = .returned (.bool true) ∧ Below w.heap.size w w' := by
  obtain ⟨y1, y2, ⟨⟨y3a, y3n, y3c⟩, y3⟩, ⟨⟨y4a, y4n, y4c⟩, y4⟩⟩ := x
  simp only at n1 n2
  have b1 := below_new w (.cells #[.int .i64 y1, .int .i64 y2, .slice (some ⟨B1, 0, none⟩) y3n (y3n + 64), .slice (some ⟨B2, 0, none⟩) y4n (y4n + 64)] 66)
  have H1 := hid (spareW B1 y3n y3 _ (h.later b1).l n1)
  have H2 := hid (spareW B2 y4n y4 _ (h.later b1).s n2)
  have HB1 := hid b1
  clear b1 h
  go_enter Tryd.func76, Tryd.ntmps76
  go_wp2_with fail
  refine H1.out.mono ?_
  rintro e w' ⟨rfl, hw'⟩
  rw [hw']
  go_wp2_with fail
  refine H2.out.mono ?_
  rintro e w'' ⟨rfl, hw''⟩
  rw [hw'']
  go_wp2_with fail
  go_ret
  exact ⟨rfl, HB1.out⟩
set_option maxHeartbeats 4000000 in
theorem spareFs (base B n : Nat) (xs ys : List FrM) (w : World) (hy : ys.length = n + 64) (hrow : w.heap[B]? = some (.cells (ys.flatMap frCs).toArray 66)) (hwf : WFs base w n xs ys) (hn : n ≤ 2147483647) (hb : ∀ x ∈ xs, x.2.2.1.1.2.1 ≤ 2147483647 ∧ x.2.2.2.1.2.1 ≤ 2147483647) :
    Calls Tryd.prog 50 #[.slice (some ⟨B, 0, none⟩) n (n + 64)] w fun e w' => e = .returned (.bool true) ∧ Below w.heap.size w w' := by
  have HC := hid (fun (W : World) (hW : Below w.heap.size w W) (j : Nat) (x : FrM) (hj : ys[j]? = some x) => fr_cells (nb_later hW hrow) hj)
  have HWF := hid (fun (W : World) (hW : Below w.heap.size w W) => hwf.later hW)
  have HM := hid (fun (k : Nat) (hk : k ≤ 4294967296) (W : World) => numC 9 k W (by omega) (by omega))
  have HYL := hid hy
  have HBD := hid hb
  have HB0 := hid (Below.refl w.heap.size w)
  clear hrow hwf hy hb
  go_enter Tryd.func50, Tryd.ntmps50
  go_wp2_with fail
  go_loopw [4] (fun i wr => ∃ k : Nat, n ≤ k ∧ k ≤ n + 64 ∧ i = .int .i64 k ∧ Hid (Below w.heap.size w wr)) (fun i _ => n + 64 - (intOf i).toNat)
  case atStart => exact ⟨n, Nat.le_refl _, by omega, rfl, HB0⟩
  clear HB0
  case round =>
    obtain ⟨k, hnk, hk, rfl, HB⟩ := hrel
    by_cases hlt : k < n + 64
    · have hlt' : (k : Int) < (n : Int) + 64 := by omega
      obtain ⟨y, hy⟩ : ∃ y, ys[k]? = some y := ⟨_, List.getElem?_eq_getElem (by have := HYL.out; omega)⟩
      obtain ⟨c0, c1, c2, c3⟩ := HC.out _ HB.out k y hy
      have hym := (HWF.out _ HB.out).mrk k y hy hnk
      subst hym
      simp only at c0 c1 c2 c3
      have bn := below_new wr (.cells #[.int .i64 0, .int .i64 (9437184 + (k : Int) + 1), .slice none 0 0, .slice none 0 0] 66)
      have HBN := hid (HB.out.trans (bn.mono HB.out.size))
      have HMk := hid (fun (W : World) => HM.out k (by omega) W)
      clear hy bn HC HWF HM HYL HBD
      go_wp2_with fail
      have hnm : (1048576 * ((9 : Nat) : Int) + (k : Int) + 1) = 9437184 + (k : Int) + 1 := by omega
      have HMq := hid (fun (W : World) => (show Calls Tryd.prog 65 #[.int .i64 9, .int .i64 k] W (fun e w' => e = .returned (.int .i64 (9437184 + (k : Int) + 1)) ∧ w' = W) from by have := HMk.out W; rw [hnm] at this; exact this))
      have hee : ((9437184 + (k : Int) + 1 : Int) == 9437184 + (k : Int) + 1) = true := by simp
      have hkn : (wr.alloc (.cells #[.int .i64 0, .int .i64 (9437184 + (k : Int) + 1), .slice none 0 0, .slice none 0 0] 66)).heap[wr.heap.size]? = some (.cells #[.int .i64 0, .int .i64 (9437184 + (k : Int) + 1), .slice none 0 0, .slice none 0 0] 66) := nb_new _ _
      generalize wr.alloc (.cells #[.int .i64 0, .int .i64 (9437184 + (k : Int) + 1), .slice none 0 0, .slice none 0 0] 66) = W2 at *
      have f1 : W2.cell? ⟨wr.heap.size, 1, none⟩ = some (.int .i64 (9437184 + (k : Int) + 1)) := cell_at hkn
      have f2 : W2.cell? ⟨wr.heap.size, 2, none⟩ = some (.slice none 0 0) := cell_at hkn
      clear hkn HMk hnm
      go_quiet ((go_at_call 65; exact Calls.quiet_of_same (HMq.out _)))
      go_wp2_with fail
      exact ⟨⟨k + 1, by omega, by omega, by go_num, hid (HBN.out.trans ((below_drewN W2 nq).mono HBN.out.size))⟩, by simp [intOf]; omega⟩
    · have hlt' : ¬ (k : Int) < (n : Int) + 64 := by omega
      clear HM
      go_wp2_with fail
      have HB0 := HB
      generalize wr = w9 at *
      go_loopw [6] (fun i wr => ∃ k : Nat, k ≤ n ∧ i = .int .i64 k ∧ Hid (Below w.heap.size w wr)) (fun i _ => n - (intOf i).toNat)
      case atStart => exact ⟨0, by omega, rfl, HB0⟩
      clear HB HB0
      case round =>
        obtain ⟨j, hj, rfl, HB⟩ := hrel
        by_cases hlt2 : j < n
        · have hlt2' : (j : Int) < (n : Int) := by omega
          obtain ⟨y, hy⟩ : ∃ y, ys[j]? = some y := ⟨_, List.getElem?_eq_getElem (by have := HYL.out; omega)⟩
          obtain ⟨c0, c1, c2, c3⟩ := HC.out _ HB.out j y hy
          obtain ⟨x, B1, B2, hx, rfl, hw⟩ := (HWF.out _ HB.out).el j y hy hlt2
          have hbd := HBD.out x (List.mem_of_getElem? hx)
          have HSF := hid (spareF1 base x B1 B2 _ hw hbd.1 hbd.2)
          clear hy hx hw hbd HC HWF HYL HBD
          obtain ⟨y1, y2, ⟨⟨y3a, y3n, y3c⟩, y3⟩, ⟨⟨y4a, y4n, y4c⟩, y4⟩⟩ := x
          simp only at c0 c1 c2 c3
          go_wp2_with fail
          refine HSF.out.mono ?_
          rintro e w3 ⟨rfl, hb3⟩
          have HB3 := hid (HB.out.trans (hb3.mono HB.out.size))
          clear hb3 HSF
          go_wp2_with fail
          exact ⟨⟨j + 1, by omega, by go_num, HB3⟩, by simp [intOf]; omega⟩
        · have hlt2' : ¬ (j : Int) < (n : Int) := by omega
          clear HC HWF HYL HBD
          go_wp2_with fail
          go_ret
          exact ⟨rfl, HB.out⟩
end Go.Proofs.YtbdjghokedfkfaaDoor
