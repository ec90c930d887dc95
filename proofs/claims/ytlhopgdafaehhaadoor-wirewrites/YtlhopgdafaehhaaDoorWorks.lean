/-
  The walk over works: the program is no idle one.
-/
import Derived.Test.YtlhopgdafaehhaaDoorUvar
namespace Go.Proofs.YtlhopgdafaehhaaDoor
open Go.RowKit
set_option linter.unusedVariables false

/-- A list that was just written out. -/
theorem seg_lit (w : World) (zs : List Int) (e : TypeId) (hr : ∀ z ∈ zs, 0 ≤ z ∧ z ≤ 255) (hn : zs.length ≤ 1000) :
    Seg (w.alloc (.cells (zs.map (Value.int .u8)).toArray e)) (some ⟨w.heap.size, 0, none⟩) zs.length zs.length zs := by
  refine ⟨rfl, Nat.le_refl _, by omega, hr, .inr ⟨_, 0, rfl, fun j hj => ?_⟩⟩
  simp [hj]

theorem wk1 (W : World) (B : Nat) (hB : W.heap.size = B) : Calls Tryd.prog 14 #[.slice (some ⟨B, 0, none⟩) 3 3, .int .i64 1] (W.alloc (.cells #[.int .u8 1, .int .u8 172, .int .u8 2] 5)) fun e w' =>
    e = .returned (.tuple #[.int .u64 300, .int .i64 3, .int .i64 0]) ∧ w' = W.alloc (.cells #[.int .u8 1, .int .u8 172, .int .u8 2] 5) := by
  subst hB
  have h := ru7 (some ⟨W.heap.size, 0, none⟩) 3 3 [1, 172, 2] 1 (W.alloc (.cells #[.int .u8 1, .int .u8 172, .int .u8 2] 5)) (seg_lit W [1, 172, 2] 5 (by decide) (by decide))
  rw [show ruAt [1, 172, 2] 1 = (300, 3, 0) from by decide] at h
  exact h
theorem wk2 (W : World) (B : Nat) (hB : W.heap.size = B) : Calls Tryd.prog 15 #[.slice (some ⟨B, 0, none⟩) 1 1, .int .i64 0] (W.alloc (.cells #[.int .u8 1] 5)) fun e w' =>
    e = .returned (.tuple #[.int .i64 (-1), .int .i64 1, .int .i64 0]) ∧ w' = W.alloc (.cells #[.int .u8 1] 5) := by
  subst hB
  have h := rs9 (some ⟨W.heap.size, 0, none⟩) 1 1 [1] 0 (W.alloc (.cells #[.int .u8 1] 5)) (seg_lit W [1] 5 (by decide) (by decide))
  rw [show rsAt [1] 0 = (-1, 1, 0) from by decide] at h
  exact h
theorem wk3 (W : World) (B : Nat) (hB : W.heap.size = B) : Calls Tryd.prog 14 #[.slice (some ⟨B, 0, none⟩) 2 2, .int .i64 0] (W.alloc (.cells #[.int .u8 128, .int .u8 0] 5)) fun e w' =>
    e = .returned (.tuple #[.int .u64 0, .int .i64 0, .int .i64 12]) ∧ w' = W.alloc (.cells #[.int .u8 128, .int .u8 0] 5) := by
  subst hB
  have h := ru7 (some ⟨W.heap.size, 0, none⟩) 2 2 [128, 0] 0 (W.alloc (.cells #[.int .u8 128, .int .u8 0] 5)) (seg_lit W [128, 0] 5 (by decide) (by decide))
  rw [show ruAt [128, 0] 0 = (0, 0, 12) from by decide] at h
  exact h
theorem wk4 (W : World) (B : Nat) (hB : W.heap.size = B) : Calls Tryd.prog 5 #[.int .u64 300] W fun e w' =>
    e = .returned (.slice (some ⟨B + 2, 0, none⟩) 2 2) ∧ Seg w' (some ⟨B + 2, 0, none⟩) 2 2 [172, 2] ∧ Below B W w' ∧ (B + 2 < w'.heap.size ∧ Rowz w' (B + 2) 2 [172, 2]) := by
  subst hB
  have h := uvar17 300 W (by decide) (by decide)
  rw [show uvar 300 = [172, 2] from by decide] at h
  exact h

set_option maxHeartbeats 1000000 in
theorem works5 (w : World) : Calls Tryd.prog 4 #[] w fun e w' => e = .returned (.bool true) ∧ Below w.heap.size w w' := by
  go_enter Tryd.func4, Tryd.ntmps4
  go_wp2_with fail
  refine (wk1 _ _ rfl).mono ?_
  rintro e w1 ⟨rfl, rfl⟩
  go_wp2_with fail
  refine (wk2 _ _ (by simp)).mono ?_
  rintro e w1 ⟨rfl, rfl⟩
  go_wp2_with fail
  refine (wk3 _ _ (by simp)).mono ?_
  rintro e w1 ⟨rfl, rfl⟩
  go_wp2_with fail
  refine (wk4 _ (w.heap.size + 3) (by simp)).mono ?_
  rintro e w1 ⟨rfl, hseg, hb, hz⟩
  have hbw : Below w.heap.size w w1 := ((((Below.refl _ _).alloc (Nat.le_refl _) _).alloc (by simp) _).alloc (by simp; omega) _).trans (hb.mono (by omega))
  have HSg := hid hseg
  have HBw := hid hbw
  clear hseg hb hbw
  go_wp2_with fail
  refine (eq15 _ _ 2 2 2 [172, 2] _ (HSg.out.later ((Below.refl _ _).alloc (Nat.le_refl _) _) (Nat.le_refl _)) (seg_lit w1 [172, 2] 5 (by decide) (by decide))).mono ?_
  rintro e w2 ⟨rfl, m, rfl⟩
  go_wp2
  go_ret
  exact ⟨rfl, below_drewN (HBw.out.alloc (HBw.out.size) _) m⟩
end Go.Proofs.YtlhopgdafaehhaaDoor
