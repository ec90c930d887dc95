/-
  The walk over works: the calls at fixed texts.
-/
import Derived.Test.YtngcidcfmolahaaKeep
namespace Go.Proofs.Ytngcidcfmolahaa
open Go.RowKit
set_option linter.unusedVariables false

theorem then_ {w w1 w2 : World} (h1 : Below w.heap.size w w1) (h2 : Below w1.heap.size w1 w2) : Below w.heap.size w w2 := h1.trans (h2.mono h1.size)

theorem works5 (w : World) : Calls Try.prog 5 #[] w fun e w' => e = .returned (.bool true) ∧ Below w.heap.size w w' := by
  have H1 := hid (push6 ⟨#[119]⟩ ⟨#[108, 119]⟩ w (by decide) (by decide))
  have H2 := fun w => hid (pop8 ⟨#[119, 108, 119]⟩ ⟨#[119]⟩ w (by decide) (by decide))
  have H3 := fun w => hid (keep12 ⟨#[119, 108, 119, 119]⟩ 1 ⟨#[119]⟩ w (by decide) (by decide))
  have H4 := fun w => hid (top10 ⟨#[119, 108, 119]⟩ ⟨#[108, 119]⟩ w (by decide) (by decide))
  have H5 := fun w => hid (top10 ⟨#[119, 108, 119]⟩ ⟨#[108]⟩ w (by decide) (by decide))
  rw [show pushV ⟨#[119]⟩ ⟨#[108, 119]⟩ = ⟨#[119, 108, 119]⟩ from by decide +kernel, show pushE ⟨#[119]⟩ ⟨#[108, 119]⟩ = 0 from by decide +kernel] at H1
  simp only [show popV ⟨#[119, 108, 119]⟩ ⟨#[119]⟩ = ⟨#[119, 108]⟩ from by decide +kernel, show popE ⟨#[119, 108, 119]⟩ ⟨#[119]⟩ = 0 from by decide +kernel] at H2
  simp only [show keepV ⟨#[119, 108, 119, 119]⟩ 1 ⟨#[119]⟩ = ⟨#[119, 119]⟩ from by decide +kernel, show keepE ⟨#[119, 108, 119, 119]⟩ 1 ⟨#[119]⟩ = 0 from by decide +kernel] at H3
  simp only [show topB ⟨#[119, 108, 119]⟩ ⟨#[108, 119]⟩ = true from by decide +kernel] at H4
  simp only [show topB ⟨#[119, 108, 119]⟩ ⟨#[108]⟩ = false from by decide +kernel] at H5
  go_enter Try.func5, Try.ntmps5
  go_wp2_with fail
  refine H1.out.mono ?_
  rintro e w1 ⟨rfl, b1⟩
  go_wp2_with fail
  refine (H2 _).out.mono ?_
  rintro e w2 ⟨rfl, b2⟩
  have b2 := then_ b1 b2
  clear b1
  go_wp2_with fail
  refine (H3 _).out.mono ?_
  rintro e w3 ⟨rfl, b3⟩
  have b3 := then_ b2 b3
  clear b2
  go_wp2_with fail
  refine (H4 _).out.mono ?_
  rintro e w4 ⟨rfl, b4⟩
  have b4 := then_ b3 b4
  clear b3
  go_wp2_with fail
  refine (H5 _).out.mono ?_
  rintro e w5 ⟨rfl, b5⟩
  have b5 := then_ b4 b5
  clear b4
  go_wp2
  go_ret
  exact ⟨rfl, b5⟩

end Go.Proofs.Ytngcidcfmolahaa
