/-
  The walk over OpsRows: every byte's row.
-/
import Derived.Test.YtmbbmlchbnjoiaaDoorWorks
import Derived.Test.YtmbbmlchbnjoiaaDoorPure
namespace Go.Proofs.YtmbbmlchbnjoiaaDoor
open Go.RowKit
set_option linter.unusedVariables false

set_option maxRecDepth 100000 in
set_option maxHeartbeats 4000000 in
theorem same8 (k tk : Int) (wd pp ps : ByteArray) (pl : Bool) (w : World) : Calls Tryd.prog 8 #[.agg #[.int .u8 k, .string wd, .int .i8 tk, .string pp, .string ps, .bool pl], .agg #[.int .u8 k, .string wd, .int .i8 tk, .string pp, .string ps, .bool pl]] w fun e w' => e = .returned (.bool true) ∧ Below w.heap.size w w' := by
  go_enter Tryd.func8, Tryd.ntmps8
  go_wp2
  go_ret
  exact ⟨rfl, ((Below.refl _ w).alloc (Nat.le_refl _) _).alloc (by simp) _⟩

set_option maxRecDepth 100000 in
set_option maxHeartbeats 4000000 in
theorem opsRows3 (w : World) (hk : KindsOk w) : Calls Tryd.prog 3 #[] w fun e w' => e = .returned (.bool true) ∧ Below w.heap.size w w' := by
  have hp := hk.pos
  go_enter Tryd.func3, Tryd.ntmps3
  go_wp2_with fail
  go_loopw [1] (fun p wr => ∃ i : Nat, p = .int .i64 i ∧ i ≤ 256 ∧ Below w.heap.size w wr) (fun p wr => 256 - (intOf p).toNat)
  case atStart => exact ⟨0, rfl, by decide, Below.refl _ _⟩
  case round =>
    obtain ⟨i, rfl, hi, hB⟩ := hrel
    by_cases h7 : i = 256
    · subst h7
      have HW := hid (works9 wr (hk.later hB hp))
      have HB := hid hB
      clear hB
      go_wp2_with fail
      refine HW.out.mono ?_
      rintro e w2 ⟨rfl, hb2⟩
      have HB2 := hid (HB.out.trans (hb2.mono HB.out.size))
      clear hb2
      go_wp2_with fail
      go_ret
      exact ⟨rfl, HB2.out⟩
    have hlt : (i : Int) < 256 := by omega
    have hw : wrap64 ((i : Int) + 1) = i + 1 := by unfold wrap64; omega
    have hw8 : IntKind.u8.wrap (i : Int) = i := by rw [IntKind.wrap_u8]; omega
    have ho := of6 i wr (hk.later hB hp) (by omega) (by omega)
    have hr := fun W => ref7 i W
    have he := refLook_eq refTab i
    rw [← of_ref i (by omega) (by omega)] at he
    rw [he] at hr
    clear he
    obtain ⟨V, hV⟩ : ∃ V, ofV i = V := ⟨_, rfl⟩
    rw [hV] at ho hr
    clear hV
    obtain ⟨⟨k, wd, tk, pp, ps, pl⟩, ok⟩ := V
    have HO := hid ho
    have HR := hid hr
    have HB := hid hB
    clear hB ho hr
    go_wp2_with fail
    refine HO.out.mono ?_
    rintro e w1 ⟨rfl, hb1⟩
    have HB1 := hid (HB.out.trans (hb1.mono HB.out.size))
    simp only [rv, rowV]
    clear hb1 HO
    go_wp2_with fail
    refine (HR.out _).mono ?_
    rintro e w2 ⟨rfl, rfl⟩
    simp only [rv, rowV]
    have HB2 := hid (((HB1.out.alloc HB1.out.size (.cells #[.int .u8 k, .string wd, .int .i8 tk, .string pp, .string ps, .bool pl] 24)).alloc (by have := HB1.out.size; simp; omega) (.cells #[.int .u8 k, .string wd, .int .i8 tk, .string pp, .string ps, .bool pl] 27)).alloc (by have := HB1.out.size; simp; omega) (.cells #[.int .u8 k, .string wd, .int .i8 tk, .string pp, .string ps, .bool pl] 27))
    go_wp2_with fail
    refine (same8 k tk wd pp ps pl _).mono ?_
    rintro e w3 ⟨rfl, hb3⟩
    have HB3 := hid (HB2.out.trans (hb3.mono HB2.out.size))
    clear hb3 HB2
    go_wp2_with fail
    exact ⟨⟨i + 1, by simp, by omega, HB3.out⟩, by simp [intOf]; omega⟩
end Go.Proofs.YtmbbmlchbnjoiaaDoor
