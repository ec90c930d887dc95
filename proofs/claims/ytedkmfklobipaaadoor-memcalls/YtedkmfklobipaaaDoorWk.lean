/-
  The walk over works.
-/
import Derived.Test.YtedkmfklobipaaaDoorNw
import Derived.Test.YtedkmfklobipaaaDoorPg
namespace Go.Proofs.YtedkmfklobipaaaDoor
open Go.RowKit
set_option linter.unusedVariables false

theorem works_ld : ldv (stR (fun _ => 0) 4094 258 2) 4095 1 = 1 := by decide
theorem works_dl : dl (grM (stM (fun _ => false) 4094 2) 1 1) 64 = [0, 1] := by decide
theorem works_any : anyD (grM (stM (fun _ => false) 4094 2) 1 1) = true := by decide
theorem fp_new {w w2 : World} {R : Nat} {sv : Value} {PB : List Nat} {B : Nat} (hk : Kept (Fp R sv PB) w w2) (hB : B ≤ w.heap.size) (hf : ∀ k, Fp R sv PB k → B ≤ k) : Below B w w2 :=
  hk.to_below hB (fun k hk2 hx => absurd (hf k hx) (by omega))

set_option maxRecDepth 100000 in
set_option maxHeartbeats 1000000 in
theorem works_yes (w : World) : Calls Tryd.prog 5 #[] w fun e w' => e = .returned (.bool true) ∧ Below w.heap.size w w' := by
  go_enter Tryd.func5, Tryd.ntmps5
  go_wp2_with fail
  refine (new_yes 1 2 w (by decide)).mono ?_
  rintro e w1 ⟨R, sv, PB, rfl, hM, hl, hb, hf⟩
  have HM := hid hM
  have HL := hid hl
  have HB := hid hb
  have HF := hid hf
  clear hM hl hb hf
  go_wp2_with fail
  refine (store_mem R 2 sv PB _ _ 4094 2 258 w1 HM.out (by omega) (by omega) (by rw [HL.out]; decide)).mono ?_
  rintro e w2 ⟨rfl, hM, hK⟩
  have HM2 := hid hM
  have HB2 := hid (HB.out.trans (fp_new hK HB.out.size HF.out))
  clear hM hK HM HB
  go_wp2_with fail
  refine (load_mem R 2 sv PB _ _ 4095 1 w2 HM2.out (by omega) (by rw [HL.out]; decide)).mono ?_
  rintro e w' ⟨rfl, hw⟩
  have hw' := hw.symm; subst hw'; clear hw
  rw [works_ld]
  go_wp2_with fail
  refine (size_mem R 2 sv PB _ _ w2 HM2.out).mono ?_
  rintro e w' ⟨rfl, hw⟩
  have hw' := hw.symm; subst hw'; clear hw
  rw [HL.out]
  go_wp2_with fail
  refine (grow_yes R 2 sv PB _ _ 1 w2 HM2.out (by rw [HL.out]; omega)).mono ?_
  rintro e w3 ⟨rfl, sv', PB', hM, hl, hK, hF⟩
  have HM3 := hid hM
  have HL3 := hid hl
  have HB3 := hid (HB2.out.trans (fp_new hK HB2.out.size HF.out))
  have HF3 := hid (show ∀ k, Fp R sv' PB' k → w.heap.size ≤ k from fun k hk => (hF k hk).elim (HF.out k) (fun h => Nat.le_trans HB2.out.size h))
  clear hM hl hK hF HM2 HB2 HF
  rw [HL.out] at HM3 HL3 ⊢
  go_wp2_with fail
  refine (dirty_some R 2 sv' PB' _ _ w3 HM3.out works_any).mono ?_
  rintro e w4 ⟨v, rfl, hLI, hb⟩
  rw [works_dl] at hLI
  obtain ⟨a, c, rfl⟩ := hLI.slice
  have HM4 := hid (HM3.out.later hb)
  have HB4 := hid (HB3.out.trans (hb.mono HB3.out.size))
  have HLI := hid hLI
  clear hLI hb HM3 HB3
  go_wp2_with fail
  refine (eq_two_yes w4 w3.heap.size a _ c 0 1 HLI.out (by simp)).mono ?_
  rintro e w5 ⟨rfl, hb⟩
  have HM5 := hid (HM4.out.later hb)
  have HB5 := hid (HB4.out.trans (hb.mono HB4.out.size))
  clear hb HM4 HB4
  go_wp2_with fail
  refine (clean_mem R 2 sv' PB' _ _ w5 HM5.out).mono ?_
  rintro e w6 ⟨rfl, hM, hK⟩
  have HM6 := hid hM
  have HB6 := hid (HB5.out.trans (fp_new (hK.mono (fun k hk => (show Fp R sv' PB' k from .inl hk))) HB5.out.size HF3.out))
  clear hM hK HM5 HB5
  go_wp2_with fail
  refine (pages_mem R 2 sv' PB' _ _ w6 HM6.out).mono ?_
  rintro e w7 ⟨L, QB, rfl, hP, hl, hb⟩
  have HB7 := hid (HB6.out.trans (hb.mono HB6.out.size))
  clear hP hb HM6 HB6
  rw [HL3.out]
  go_wp2_with fail
  go_ret
  exact ⟨rfl, HB7.out⟩
end Go.Proofs.YtedkmfklobipaaaDoor
