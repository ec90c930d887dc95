/-
  What MemMade leans on: lists with marks read as lists; bytes of them overwritten.
-/
import Derived.Test.YtedkmfklobipaaaDoorWf
namespace Go.Proofs.YtedkmfklobipaaaDoor
open Go.RowKit
set_option linter.unusedVariables false

theorem Tens.up {B B' : Nat} {w : World} (h : Tens B w) (hb : B ≤ B') : Tens B' w := fun W hW => h W (hW.mono hb)
theorem Wp.pseg {w : World} {L n : Nat} {ln : Nat → Nat} {g : Nat → Nat → Int} {QF CF : Nat → Nat} (h : Wp w L n ln g (n + 64) QF CF) (hn : n ≤ 1048576) (hln : ∀ i, i < n → ln i ≤ 1048576) : PSeg w (.slice (some ⟨L, 0, none⟩) n (n + 64)) n ln g := by
  refine ⟨_, _, rfl, by omega, by omega, .inr ⟨L, 0, rfl, fun i hi => ?_⟩⟩
  refine ⟨_, by rw [Nat.zero_add]; exact h.U (by omega), ?_⟩
  have hU : wpU n ln QF CF (n + 64) i = .slice (some ⟨QF i, 0, none⟩) (ln i) (ln i + 64) := by unfold wpU; rw [if_pos (by omega), if_pos hi]
  rw [hU]
  refine ⟨_, _, rfl, by omega, by have := hln i hi; omega, .inr ⟨QF i, 0, rfl, fun j hj => ?_⟩⟩
  have hr := h.pg i hi (by omega)
  rw [Nat.zero_add, hr.cell j (by omega), bytesL_get _ _ _ (by omega)]
  unfold wdB
  rw [if_pos hj]
/-- Blocks that may be overwritten. -/
def Wq (w : World) (n : Nat) (ln QF : Nat → Nat) : Prop := ∀ i, i < n → ∃ xs, Row w 5 (QF i) (ln i + 64) (ln i + 64) xs
def Sq (n : Nat) (QF : Nat → Nat) (q : Nat) : Prop := ∃ i, i < n ∧ q = QF i
theorem Wq.put {w : World} {n : Nat} {ln QF : Nat → Nat} (h : Wq w n ln QF) (hm : ∀ i j, i < j → j < n → QF i < QF j) {i : Nat} (hi : i < n) (j : Nat) (u : Value) : Wq (w.setCell ⟨QF i, j, none⟩ u) n ln QF ∧ Kept (Sq n QF) w (w.setCell ⟨QF i, j, none⟩ u) := by
  have hk := kept_setCell w (QF i) j u
  refine ⟨fun x hx => ?_, hk.mono (fun q hq => ⟨i, hi, hq⟩)⟩
  by_cases e : x = i
  · subst e
    obtain ⟨xs, hr⟩ := h x hx
    exact ⟨_, (hr.put j u).1⟩
  · obtain ⟨xs, hr⟩ := h x hx
    refine ⟨xs, hr.kept hk ?_⟩
    rcases Nat.lt_or_gt_of_ne e with h1 | h1
    · have := hm x i h1 hi; omega
    · have := hm i x h1 hx; omega
theorem Wq.cell {w : World} {n : Nat} {ln QF : Nat → Nat} (h : Wq w n ln QF) {i : Nat} (hi : i < n) {j : Nat} (hj : j < ln i) : (∃ u, w.cell? ⟨QF i, j, none⟩ = some u) ∧ w.frozen? ⟨QF i, j, none⟩ = false := by
  obtain ⟨xs, hr⟩ := h i hi
  have hl : xs.length = ln i + 64 := by have := hr.1; omega
  refine ⟨⟨xs[j]'(by omega), ?_⟩, hr.free j⟩
  rw [hr.cell j (by omega), List.getElem?_eq_getElem]
theorem Wp.wq {w : World} {L n : Nat} {ln : Nat → Nat} {g : Nat → Nat → Int} {QF CF : Nat → Nat} (h : Wp w L n ln g (n + 64) QF CF) : Wq w n ln QF := fun i hi => ⟨_, h.pg i hi (by omega)⟩
theorem pgf_frF {g : Nat → Nat → Int} {n i j : Nat} (hi : i < n) (hj : j < 4096) : pgf (frF g n) i j = g i j := frF_page hi hj
end Go.Proofs.YtedkmfklobipaaaDoor
