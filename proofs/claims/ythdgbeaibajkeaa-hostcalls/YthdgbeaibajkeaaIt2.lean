/-
  The iterator where a reply is left.
-/
import Derived.Test.YthdgbeaibajkeaaIt
namespace Go.Proofs.Ythdgbeaibajkeaa
open Go.RowKit
set_option linter.unusedVariables false
set_option maxHeartbeats 4000000 in
theorem iter24_one (l Bh H b off n c : Nat) (t : Int) (x : Rp) (W : World) (m : Nat) (R : World → Prop) (hb : W.cell? ⟨Bh, 0, none⟩ = some (.pointer (some ⟨H, 0, none⟩)))
    (h0 : W.cell? ⟨H, 0, none⟩ = some (.int .i64 t)) (h1 : W.cell? ⟨H, 1, none⟩ = some (.slice (some ⟨b, off, none⟩) (n + 1) c))
    (f0 : W.frozen? ⟨H, 0, none⟩ = false) (f1 : W.frozen? ⟨H, 1, none⟩ = false) (ht : 0 ≤ t ∧ t < 9223372036854775807) (hn : n + 1 ≤ 2000) (hc : n + 1 ≤ c)
    (x0 : W.cell? ⟨b, off, none⟩ = some (.slice x.a x.n x.c)) (x1 : W.cell? ⟨b, off + 1, none⟩ = some (.bool x.tr)) (hBH : Bh ≠ H) (hbH : b ≠ H)
    (hY : ∀ A, Kept (fun k => k = H) W A → A.cell? ⟨H, 0, none⟩ = some (.int .i64 (t + 1)) → (∃ a' c', A.cell? ⟨H, 1, none⟩ = some (.slice a' n c') ∧ n ≤ c' ∧ (n = 0 ∨ a' = some ⟨b, off + 2, none⟩)) → A.frozen? ⟨H, 0, none⟩ = false → A.frozen? ⟨H, 1, none⟩ = false → YieldAt Fence.wide (m - 1) Try.prog l #[.agg #[.slice x.a x.n x.c, .bool x.tr]] A fun e B => e = .returned (.bool false) ∧ R B) :
    CallsIn Fence.wide m Try.prog 24 #[.func (.yield l) #[] #[], .pointer (some ⟨Bh, 0, none⟩)] W fun e W' => (∃ v, e = .returned v) ∧ R W' := by
  have HL := hid (left12 H (some ⟨b, off, none⟩) (n + 1) c W h1)
  obtain ⟨xa, xn, xc, xl, xt⟩ := x
  simp only at x0 x1 hY
  have HY := hid hY
  clear hY
  have hH : H < W.heap.size := block_lt_of_cell h0
  have hBhl : Bh < W.heap.size := block_lt_of_cell hb
  have hn0 : (0 : Int) < ((n + 1 : Nat) : Int) := by omega
  refine callsIn_wide.2 ?_
  go_enter Try.func24, Try.ntmps24
  refine wp_block ?_
  refine wp_loop_rounds 1 ?_
  rw [rounds_succ]
  refine (wpIn_wide (n := m)).1 ?_
  gi_wp2_with fail
  refine ⟨trivial, (fun h => nomatch h), ?_⟩
  refine (callsIn_wide.2 HL.out).mono ?_
  rintro e w1 ⟨rfl, hw⟩
  have hw' := hw.symm; subst hw'; clear hw
  gi_wp2_with fail
  refine wpIn_wide.2 ?_
  obtain ⟨W1, hW1⟩ : ∃ W1, W1 = W.alloc (Obj.cells #[.slice xa xn xc, .bool xt] 33) := ⟨_, rfl⟩
  have hB1 := below_new W (Obj.cells #[.slice xa xn xc, .bool xt] 33)
  have nb := heap_alloc_new W (Obj.cells #[.slice xa xn xc, .bool xt] 33)
  rw [← hW1] at hB1 nb ⊢
  have c0 := later_cell hB1 hb
  have c1 := later_cell hB1 h0
  have c2 := later_cell hB1 h1
  have g0 : W1.frozen? ⟨H, 0, none⟩ = false := (frozen_of_block (hB1.block H hH) 0).trans f0
  have g1 : W1.frozen? ⟨H, 1, none⟩ = false := (frozen_of_block (hB1.block H hH) 1).trans f1
  have n0 : W1.cell? ⟨W.heap.size, 0, none⟩ = some (.slice xa xn xc) := cell_at nb
  have n1 : W1.cell? ⟨W.heap.size, 1, none⟩ = some (.bool xt) := cell_at nb
  have hHn : H ≠ W.heap.size := by omega
  have HK1 := hid (show Kept (fun k => k = H) W W1 from ⟨hB1.os, hB1.tape, hB1.output, hB1.size, fun k hk _ => hB1.block k hk⟩)
  clear hW1 hB1 nb hb h0 h1 f0 f1 x0 x1 HL
  generalize W.heap.size = Z at *
  go_region
  generalize hA : ((W1.setCell ⟨H, 0, none⟩ (Value.int IntKind.i64 (t + 1))).setCell ⟨H, 1, none⟩ (Value.slice (if c = 1 then some ⟨b, off, none⟩ else some ⟨b, off + 2, none⟩) n (c - 1))).drew = A
  have k1 := kept_set W1 H 0 (Value.int IntKind.i64 (t + 1))
  have k2 := kept_set (W1.setCell ⟨H, 0, none⟩ (Value.int IntKind.i64 (t + 1))) H 1 (Value.slice (if c = 1 then some ⟨b, off, none⟩ else some ⟨b, off + 2, none⟩) n (c - 1))
  have hk : Kept (fun k => k = H) W1 A := by
    rw [← hA]
    exact (k1.trans k2).trans (Kept.drewN _ _ 1)
  have e0 : A.cell? ⟨H, 0, none⟩ = some (.int .i64 (t + 1)) := by
    rw [← hA, World.cell?_drew, World.cell?_setCell_other _ _ _ _ (by simp)]
    exact World.cell?_setCell_same' _ _ _ (by rw [c1]; rfl)
  have e1 : A.cell? ⟨H, 1, none⟩ = some (Value.slice (if c = 1 then some ⟨b, off, none⟩ else some ⟨b, off + 2, none⟩) n (c - 1)) := by
    rw [← hA, World.cell?_drew]
    exact World.cell?_setCell_same' _ _ _ (by rw [World.cell?_setCell_other _ _ _ _ (by simp), c2]; rfl)
  have e2 : A.frozen? ⟨H, 0, none⟩ = false := by rw [← hA, World.frozen?_drew, World.frozen?_setCell, World.frozen?_setCell]; exact g0
  have e3 : A.frozen? ⟨H, 1, none⟩ = false := by rw [← hA, World.frozen?_drew, World.frozen?_setCell, World.frozen?_setCell]; exact g1
  have r0 := hk.cell n0 (fun e => hHn e.symm)
  have r1 := hk.cell n1 (fun e => hHn e.symm)
  have hkW : Kept (fun k => k = H) W A := HK1.out.trans hk
  have HYA := hid (HY.out A hkW e0 ⟨_, _, e1, by omega, by
    by_cases hc1 : c = 1
    · exact .inl (by omega)
    · rw [if_neg hc1]; exact .inr rfl⟩ e2 e3)
  clear k1 k2 hA hkW HY e0 e1 e2 e3 hk c0 c1 c2 g0 g1 n0 n1
  generalize (if c = 1 then some (⟨b, off, none⟩ : Addr) else some ⟨b, off + 2, none⟩) = a' at *
  obtain ⟨fn, tmps, assign, body, hy, hR⟩ := HYA.out
  have HR := hid hR
  clear hR HYA
  gi_wp2_with fail
  refine ⟨(fun h => nomatch h), ?_⟩
  refine HR.out.mono ?_
  rintro e w2 ⟨rfl, hr⟩
  have HRR := hid hr
  clear hr
  gi_wp2_with fail
  refine bodyPost_ret (results_none rfl _ _ _) rfl ?_
  exact ⟨⟨_, rfl⟩, HRR.out⟩
end Go.Proofs.Ythdgbeaibajkeaa
