/-
  The walk over works: no idle program.
-/
import Derived.Test.YtmbbmlchbnjoiaaDoorOf
import Derived.Test.YtmbbmlchbnjoiaaDoorFind
import Derived.Test.YtmbbmlchbnjoiaaDoorAll
namespace Go.Proofs.YtmbbmlchbnjoiaaDoor
open Go.RowKit
set_option linter.unusedVariables false

theorem wk_of : ofV 41 = ((41, ⟨#[108, 46, 115, 116, 111, 114, 101]⟩, 9, ⟨#[119, 108]⟩, ⟨#[]⟩, true), true) := by decide +kernel
theorem wk_find : findP ⟨#[119, 46, 114, 111, 116, 114]⟩ = (72, true) := by decide +kernel
theorem wk_all : (opsTo 7).length = 90 := by decide +kernel

set_option maxRecDepth 100000 in
set_option maxHeartbeats 4000000 in
theorem works9 (w : World) (hk : KindsOk w) : Calls Tryd.prog 9 #[] w fun e w' => e = .returned (.bool true) ∧ Below w.heap.size w w' := by
  have h0 := hk.pos
  go_enter Tryd.func9, Tryd.ntmps9
  go_wp2_with fail
  refine (of6 41 w hk (by decide) (by decide)).mono ?_
  rintro e w1 ⟨rfl, hb1⟩
  rw [wk_of]
  simp only [rv, rowV]
  have HB2 := hid (hb1.alloc hb1.size (.cells #[.int .u8 41, .string ⟨#[108, 46, 115, 116, 111, 114, 101]⟩, .int .i8 9, .string ⟨#[119, 108]⟩, .string ⟨#[]⟩, .bool true] 24))
  have HF := hid (find10 ⟨#[119, 46, 114, 111, 116, 114]⟩ (w1.alloc (.cells #[.int .u8 41, .string ⟨#[108, 46, 115, 116, 111, 114, 101]⟩, .int .i8 9, .string ⟨#[119, 108]⟩, .string ⟨#[]⟩, .bool true] 24)) (hk.later HB2.out h0))
  clear hb1
  go_wp2_with fail
  refine HF.out.mono ?_
  rintro e w2 ⟨rfl, hb2⟩
  rw [wk_find]
  have HX := hid (show w2.cell? ⟨w1.heap.size, 0, none⟩ = some (.int .u8 41) ∧ w2.cell? ⟨w1.heap.size, 1, none⟩ = some (.string ⟨#[108, 46, 115, 116, 111, 114, 101]⟩) ∧ w2.cell? ⟨w1.heap.size, 2, none⟩ = some (.int .i8 9) ∧ w2.cell? ⟨w1.heap.size, 3, none⟩ = some (.string ⟨#[119, 108]⟩) ∧ w2.cell? ⟨w1.heap.size, 4, none⟩ = some (.string ⟨#[]⟩) ∧ w2.cell? ⟨w1.heap.size, 5, none⟩ = some (.bool true) by
    refine ⟨?_, ?_, ?_, ?_, ?_, ?_⟩ <;> (rw [hb2.cell (by simp)]; simp [go_sem]))
  have HB3 := hid (HB2.out.trans (hb2.mono HB2.out.size))
  have HA := hid (all12 w2 (hk.later HB3.out h0))
  clear hb2 HB2 HF
  obtain ⟨c0, c1, c2, c3, c4, c5⟩ := HX.out
  go_wp2_with fail
  refine HA.out.mono ?_
  rintro e w3 ⟨v, rfl, hm, hb3⟩
  obtain ⟨va, vc, rfl⟩ := hm.slice
  rw [wk_all]
  have HB4 := hid (HB3.out.trans (hb3.mono HB3.out.size))
  clear hb3 hm HA
  go_wp2_with fail
  go_ret
  exact ⟨rfl, HB4.out⟩
end Go.Proofs.YtmbbmlchbnjoiaaDoor
