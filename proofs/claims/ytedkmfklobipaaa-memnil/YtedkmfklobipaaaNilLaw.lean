/-
  The walk over MemNil: a memory that is not there answers zero values, and does nothing.
-/
import Derived.Test.YtedkmfklobipaaaWk
namespace Go.Proofs.Ytedkmfklobipaaa
open Go.RowKit
set_option linter.unusedVariables false

theorem zero_made (w : World) : (w.alloc (Obj.cells mz 38)).cell? ⟨w.heap.size, 0, none⟩ = some (.bool false) := by
  rw [World.cell?_alloc_new, ← Array.getElem?_toList, mz_list]; rfl

set_option maxRecDepth 100000 in
set_option maxHeartbeats 1000000 in
theorem nil_law (w : World) : Calls Try.prog 4 #[] w fun e w' => e = .returned (.bool true) ∧ Below w.heap.size w w' := by
  have HZ := hid (zero_made w)
  have HA := hid ((Below.refl w.heap.size w).alloc (Nat.le_refl _) (Obj.cells mz 38))
  have hzv := Try.zvMem
  go_enter Try.func4, Try.ntmps4
  go_wp2_with fail
  refine (load_not none 0 1 w (hol_nil 0 1 w)).mono ?_
  rintro e w' ⟨rfl, hw⟩
  have hw' := hw.symm; subst hw'; clear hw
  go_wp2_with fail
  refine (load_not (some ⟨w.heap.size, 0, none⟩) 0 1 _ (hol_plain w.heap.size 0 1 _ HZ.out)).mono ?_
  rintro e w' ⟨rfl, hw⟩
  generalize w.alloc (Obj.cells mz 38) = w1 at *
  have hw' := hw.symm; subst hw'; clear hw
  go_wp2_with fail
  refine (works_yes w1).mono ?_
  rintro e w2 ⟨rfl, hb⟩
  have HB := hid (HA.out.trans (hb.mono HA.out.size))
  clear hb HA HZ
  go_wp2_with fail
  refine (store_not none 0 1 1 w2 (hol_nil 0 1 w2)).mono ?_
  rintro e w' ⟨rfl, hw⟩
  have hw' := hw.symm; subst hw'; clear hw
  go_wp2_with fail
  refine (size_nil w2).mono ?_
  rintro e w' ⟨rfl, hw⟩
  have hw' := hw.symm; subst hw'; clear hw
  go_wp2_with fail
  refine (grow_nil 1 w2).mono ?_
  rintro e w' ⟨rfl, hw⟩
  have hw' := hw.symm; subst hw'; clear hw
  go_wp2_with fail
  refine (pages_nil w2).mono ?_
  rintro e w' ⟨rfl, hw⟩
  have hw' := hw.symm; subst hw'; clear hw
  go_wp2_with fail
  refine (dirty_nil w2).mono ?_
  rintro e w' ⟨rfl, hw⟩
  have hw' := hw.symm; subst hw'; clear hw
  go_wp2_with fail
  refine (clean_nil w2).mono ?_
  rintro e w' ⟨rfl, hw⟩
  have hw' := hw.symm; subst hw'; clear hw
  go_wp2_with fail
  go_ret
  exact ⟨rfl, HB.out⟩
end Go.Proofs.Ytedkmfklobipaaa
