/-
  The walk over New.
-/
import Derived.Test.YtedkmfklobipaaaDoorMn
namespace Go.Proofs.YtedkmfklobipaaaDoor
open Go.RowKit
set_option linter.unusedVariables false

theorem new_no (p m : Int) (w : World) (h : mayB p m = false) : Calls Tryd.prog 7 #[.int .i64 p, .int .i64 m] w fun e w' => e = .returned (.tuple #[.pointer none, .int .i64 1]) ∧ w' = w := by
  have HH := hid h
  clear h
  go_enter Tryd.func7, Tryd.ntmps7
  go_wp2_with fail
  refine (may_any p m _).mono ?_
  rintro e w' ⟨rfl, hw⟩
  have hw' := hw.symm; subst hw'; clear hw
  rw [HH.out]
  go_wp2_with fail
  go_ret2
  exact ⟨rfl, rfl⟩
theorem mem0 (m : Nat) : (mz.setIfInBounds 0 (Value.bool true)).setIfInBounds 1 (Value.int .i64 m) = memC m (.slice none 0 0) (fun _ => false) := by
  have hz : mz = (Value.bool false :: Value.int .i64 0 :: Value.slice none 0 0 :: marksL fun _ => false).toArray := by
    rw [noMarks]; rfl
  rw [hz]
  simp [memC]
theorem mem_first (w : World) (m : Nat) (hm : m ≤ 64) : Mem (w.alloc (Obj.cells (memC m (.slice none 0 0) (fun _ => false)) 79)) w.heap.size m (.slice none 0 0) [] (fun _ => 0) (fun _ => false) :=
  ⟨heap_alloc_last w _, ⟨rfl, .inl ⟨rfl, rfl⟩⟩, fun i p h => by simp at h, by simp, by simp, hm, fun _ => by simp, fun i h => absurd h (by simp), fun _ _ => rfl⟩
set_option maxRecDepth 100000 in
theorem new_yes (p m : Nat) (w : World) (h : mayB p m = true) : Calls Tryd.prog 7 #[.int .i64 p, .int .i64 m] w fun e w' => ∃ R sv PB, e = .returned (.tuple #[.pointer (some ⟨R, 0, none⟩), .int .i64 0]) ∧ Mem w' R m sv PB (fun _ => 0) (fun _ => false) ∧ PB.length = p ∧ Below w.heap.size w w' ∧ ∀ k, Fp R sv PB k → w.heap.size ≤ k := by
  have HH := hid h
  have hzv := Tryd.zvMem
  clear h
  go_enter Tryd.func7, Tryd.ntmps7
  go_wp2_with fail
  refine (may_any p m _).mono ?_
  rintro e w' ⟨rfl, hw⟩
  have hw' := hw.symm; subst hw'; clear hw
  rw [HH.out]
  go_wp2_with fail
  rw [mem0]
  have hm : p ≤ m ∧ m ≤ 64 := by have := HH.out; simp [mayB] at this; omega
  refine (add_mem w.heap.size m _ [] _ _ p _ (mem_first w m hm.2) (by simp; omega)).mono ?_
  rintro e w2 ⟨rfl, sv, PB, hM, hl, hK, hF⟩
  have HM := hid hM
  have HL := hid hl
  have HK := hid hK
  have HF := hid hF
  clear hM hl hK hF hm
  go_wp2_with fail
  go_ret2
  refine ⟨w.heap.size, sv, PB, rfl, HM.out, by have := HL.out; simpa using this, ?_, fun k hk => ?_⟩
  · have hb := (Below.refl w.heap.size w).alloc (Nat.le_refl _) (Obj.cells (memC m (.slice none 0 0) (fun _ => false)) 79)
    refine hb.trans (HK.out.to_below (by simp) (fun k hk hx => ?_))
    rcases hx with rfl | hx | hx
    · omega
    · cases hx
    · cases hx
  · rcases HF.out k hk with hx | hx
    · rcases hx with rfl | hx | hx
      · omega
      · cases hx
      · cases hx
    · simp at hx; omega
end Go.Proofs.YtedkmfklobipaaaDoor
