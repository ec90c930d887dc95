/-
  The walk over works: no idle program.
-/
import Derived.Test.YtdlpbldpddobcaaDoorVals
namespace Go.Proofs.YtdlpbldpddobcaaDoor
open Go.RowKit
set_option linter.unusedVariables false

theorem wk_sig : sigB ⟨#[119, 108]⟩ ⟨#[]⟩ = true := by decide +kernel
theorem wk_word : wordV ⟨#[119, 108]⟩ ⟨#[]⟩ = ⟨#[119, 108, 32, 45, 62, 32, 45]⟩ := by decide +kernel
theorem wk_word0 : wordE ⟨#[119, 108]⟩ ⟨#[]⟩ = 0 := by decide +kernel
theorem wk_rd : rdP ⟨#[45, 32, 45, 62, 32, 108]⟩ = ⟨#[]⟩ ∧ rdR ⟨#[45, 32, 45, 62, 32, 108]⟩ = ⟨#[108]⟩ ∧ rdE ⟨#[45, 32, 45, 62, 32, 108]⟩ = 0 := by decide +kernel
theorem wk_s1 : lett ⟨#[119, 108]⟩ 256 = true := by decide +kernel
theorem wk_s2 : lett ⟨#[119, 120]⟩ 256 = false := by decide +kernel
theorem wk_f1 : fitsB 7 119 = true := by decide +kernel
theorem wk_f2 : fitsB 4294967296 119 = false := by decide +kernel
theorem wk_a : allB [1] ⟨#[108]⟩ = true := by decide +kernel

set_option maxRecDepth 100000 in
set_option maxHeartbeats 4000000 in
theorem works5 (w : World) (hm : MaxOk w) : Calls Tryd.prog 4 #[] w fun e w' => e = .returned (.bool true) ∧ Below w.heap.size w w' := by
  go_enter Tryd.func4, Tryd.ntmps4
  go_wp2_with fail
  refine (word6 ⟨#[119, 108]⟩ ⟨#[]⟩ _ (by decide) (by decide)).mono ?_
  rintro e w1 ⟨rfl, hb1⟩
  rw [wk_word, wk_word0]
  have HM := hid (hm.later hb1 (Nat.le_refl _))
  have HB1 := hid hb1
  clear hb1
  go_wp2_with fail
  refine (readSig8 ⟨#[45, 32, 45, 62, 32, 108]⟩ _ (by decide) HM.out).mono ?_
  rintro e w2 ⟨rfl, hb2⟩
  rw [wk_rd.1, wk_rd.2.1, wk_rd.2.2]
  have HB2 := hid (HB1.out.trans (hb2.mono HB1.out.size))
  clear hb2 HB1
  have HX := hid (show (w2.alloc (.cells #[.string ⟨#[]⟩, .string ⟨#[108]⟩] 23)).cell? ⟨w2.heap.size, 0, none⟩ = some (.string ⟨#[]⟩) ∧ (w2.alloc (.cells #[.string ⟨#[]⟩, .string ⟨#[108]⟩] 23)).cell? ⟨w2.heap.size, 1, none⟩ = some (.string ⟨#[108]⟩) ∧ w2.heap.size < (w2.alloc (.cells #[.string ⟨#[]⟩, .string ⟨#[108]⟩] 23)).heap.size ∧ Below w.heap.size w (w2.alloc (.cells #[.string ⟨#[]⟩, .string ⟨#[108]⟩] 23)) from
    ⟨by rw [World.cell?_alloc_at _ _ _ _ rfl]; rfl, by rw [World.cell?_alloc_at _ _ _ _ rfl]; rfl, by simp, HB2.out.alloc HB2.out.size _⟩)
  go_wp2_with fail
  generalize w2.alloc (.cells #[.string ⟨#[]⟩, .string ⟨#[108]⟩] 23) = w3 at HX ⊢
  refine (shape11 ⟨#[119, 108]⟩ w3 (by decide)).mono ?_
  rintro e w4 ⟨rfl, hb4⟩
  rw [wk_s1]
  have HB4 := hid hb4
  clear hb4
  go_wp2_with fail
  refine (shape11 ⟨#[119, 120]⟩ w4 (by decide)).mono ?_
  rintro e w5 ⟨rfl, hb5⟩
  rw [wk_s2]
  have HB5 := hid hb5
  clear hb5
  go_wp2_with fail
  refine (fits13 7 119 w5).mono ?_
  rintro e w6 ⟨rfl, rfl⟩
  rw [wk_f1]
  go_wp2_with fail
  refine (fits13 4294967296 119 _).mono ?_
  rintro e w7 ⟨rfl, rfl⟩
  rw [wk_f2]
  have HS := hid (all10 (some ⟨w7.heap.size, 0, none⟩) 1 1 [1] ⟨#[108]⟩ (w7.alloc (.cells #[.int .u64 1] 32)) ⟨rfl, by omega, by omega, by simp, .inr ⟨w7.heap.size, 0, rfl, fun j hj => by
    obtain rfl : j = 0 := by omega
    rw [World.cell?_alloc_at _ _ _ _ rfl]; rfl⟩⟩ (by decide))
  go_wp2_with fail
  refine HS.out.mono ?_
  rintro e w8 ⟨rfl, hb8⟩
  rw [wk_a]
  have c0 : w8.cell? ⟨w2.heap.size, 0, none⟩ = some (.string ⟨#[]⟩) := by
    have h3 := HX.out.2.2.1
    have h4 := HB4.out.size
    have h5 := HB5.out.size
    rw [hb8.cell (by simp; omega), World.cell?_alloc_past _ _ _ (by omega), HB5.out.cell (by simp; omega), HB4.out.cell (by simpa using h3)]
    exact HX.out.1
  have c1 : w8.cell? ⟨w2.heap.size, 1, none⟩ = some (.string ⟨#[108]⟩) := by
    have h3 := HX.out.2.2.1
    have h4 := HB4.out.size
    have h5 := HB5.out.size
    rw [hb8.cell (by simp; omega), World.cell?_alloc_past _ _ _ (by omega), HB5.out.cell (by simp; omega), HB4.out.cell (by simpa using h3)]
    exact HX.out.2.1
  have hbb : Below w.heap.size w w8 := by
    have h0 := HX.out.2.2.2.size
    have h4 := HB4.out.size
    have h5 := HB5.out.size
    exact (((HX.out.2.2.2.trans (HB4.out.mono h0)).trans (HB5.out.mono (by omega))).alloc (by omega) _).trans (hb8.mono (by simp; omega))
  have HB8 := hid hbb
  clear hbb hb8 HX HB4 HB5 HS HB2 HM
  go_wp2
  go_ret
  exact ⟨by rfl, HB8.out⟩
end Go.Proofs.YtdlpbldpddobcaaDoor
