/-
  What is left of a script is told one by one: the iterator, and what a call is told.
-/
import Derived.Test.YthdgbeaibajkeaaGi
import Derived.RangeFuncNested
import Derived.RangeFuncBound
import Derived.RangeFuncCalls
import Derived.RangeFuncLeaves
import Derived.TacticsInMore
import Derived.OwnWalkIn
import Derived.LoopNIn
import Derived.LoopIn
namespace Go.Proofs.Ythdgbeaibajkeaa
open Go.RowKit
set_option linter.unusedVariables false

/-- What a call is told by a reply. -/
def toldV (x : Rp) (s : ByteArray) : Array Value := if x.tr = false ∧ allB x.l s = true then #[.slice x.a x.n x.c, .bool true] else #[.slice none 0 0, .bool false]
set_option maxHeartbeats 1000000 in
theorem told21 (Q : Nat → Prop) (x : Rp) (s : ByteArray) (w : World) (h : SegU Q w x.a x.n x.c x.l) (hs : s.size ≤ 140737488355328) :
    Calls Try.prog 21 #[.agg #[.slice x.a x.n x.c, .bool x.tr], .string s] w fun e w' => e = .returned (.tuple (toldV x s)) ∧ Below w.heap.size w w' := by
  obtain ⟨xa, xn, xc, xl, xt⟩ := x
  simp only at h ⊢
  have hB := below_new w (.cells #[.slice xa xn xc, .bool xt] 33)
  have HF := hid (fit25 Q xa xn xc xl s _ (h.later hB) hs)
  have HB := hid hB
  clear h hB
  cases xt
  · go_enter Try.func21, Try.ntmps21
    go_wp2_with fail
    refine HF.out.mono ?_
    rintro e w1 ⟨rfl, hw⟩
    have hw' := hw.symm; subst hw'; clear hw
    cases hf : allB xl s
    · go_wp2_with fail
      go_ret2
      exact ⟨by simp [toldV, hf], HB.out⟩
    · go_wp2_with fail
      go_ret2
      exact ⟨by simp [toldV, hf], HB.out⟩
  · clear HF
    go_enter Try.func21, Try.ntmps21
    go_wp2_with fail
    go_ret2
    exact ⟨by simp [toldV], HB.out⟩

theorem replies20 (p : Option Addr) (w : World) :
    Calls Try.prog 20 #[.pointer p] w fun e w' => e = .returned (.func (.func 24) #[] #[.pointer (some ⟨w.heap.size, 0, none⟩)]) ∧ w' = w.alloc (.cells #[.pointer p] 28) := by
  have hmf : ∀ (fn : Fn) (first cap : Array Value) (w : World), (Instr.makeFunc fn first cap).run Try.prog w = .ok (.func fn first cap) w := fun _ _ _ _ => rfl
  go_enter Try.func20, Try.ntmps20
  go_wp2
  go_ret
  exact ⟨rfl, rfl⟩

/-- The iterator where none is left. -/
theorem iter24_none (l Bh : Nat) (p : Option Addr) (W : World) (n : Nat) (hb : W.cell? ⟨Bh, 0, none⟩ = some (.pointer p))
    (hl : Calls Try.prog 12 #[.pointer p] W fun e w' => e = .returned (.int .i64 0) ∧ w' = W) :
    CallsIn Fence.wide n Try.prog 24 #[.func (.yield l) #[] #[], .pointer (some ⟨Bh, 0, none⟩)] W fun e W' => (∃ v, e = .returned v) ∧ W' = W := by
  have HL := hid hl
  clear hl
  refine callsIn_wide.2 ?_
  go_enter Try.func24, Try.ntmps24
  refine wp_block ?_
  refine wp_loop_rounds 1 ?_
  rw [rounds_succ]
  go_wp2_with fail
  refine HL.out.mono ?_
  rintro e w1 ⟨rfl, hw⟩
  have hw' := hw.symm; subst hw'; clear hw
  go_wp2_with fail
  go_end0
  exact ⟨⟨_, rfl⟩, rfl⟩
end Go.Proofs.Ythdgbeaibajkeaa
