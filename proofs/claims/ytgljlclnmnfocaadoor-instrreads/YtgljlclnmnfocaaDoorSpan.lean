/-
  The walks over the small functions of package instr: spans of whole numbers, what they hold.
-/
import Derived.Test.YtgljlclnmnfocaaDoorRows
import Derived.Test.YtgljlclnmnfocaaDoorIns
import Derived.WalkKit
import Derived.WalkSpells
import Derived.WalkLawsBesides
import Derived.Deep.QuietTactic
import Derived.BigQuiet
import Derived.Below
namespace Go.Proofs.YtgljlclnmnfocaaDoor
open Go.RowKit
set_option linter.unusedVariables false

/-- A span of numbers as a value. -/
def spanV (a b : Int) : Value := .agg #[.int .i64 a, .int .i64 b]

/-- Is v from a to b? -/
def inB (a b v : Int) : Bool := decide (a ≤ v ∧ v ≤ b)
theorem inB_yes {a b v : Int} (h1 : a ≤ v) (h2 : v ≤ b) : inB a b v = true := by unfold inB; simp [h1, h2]
theorem inB_no {a b v : Int} (h : v < a ∨ b < v) : inB a b v = false := by unfold inB; simp; omega

set_option maxHeartbeats 1000000 in
theorem holds31 (a b v : Int) (w : World) : Calls Tryd.prog 31 #[spanV a b, .int .i64 v] w fun e w' => e = .returned (.bool (inB a b v)) ∧ Below w.heap.size w w' := by
  unfold spanV
  by_cases h1 : a ≤ v
  · by_cases h2 : v ≤ b
    · have HR := show Hid _ from inB_yes h1 h2
      go_enter Tryd.func31, Tryd.ntmps31
      go_wp2
      go_ret
      exact ⟨by rw [HR.out]; rfl, (Below.refl _ _).alloc (Nat.le_refl _) _⟩
    · have HR := show Hid _ from inB_no (a := a) (.inr (by omega : b < v))
      go_enter Tryd.func31, Tryd.ntmps31
      go_wp2
      go_ret
      exact ⟨by rw [HR.out]; rfl, (Below.refl _ _).alloc (Nat.le_refl _) _⟩
  · have HR := show Hid _ from inB_no (b := b) (.inl (by omega : v < a))
    go_enter Tryd.func31, Tryd.ntmps31
    go_wp2
    go_ret
    exact ⟨by rw [HR.out]; rfl, (Below.refl _ _).alloc (Nat.le_refl _) _⟩

set_option maxHeartbeats 400000 in
theorem indices33 (w : World) : Calls Tryd.prog 33 #[] w fun e w' => e = .returned (spanV 0 2147483647) ∧ Below w.heap.size w w' := by
  go_enter Tryd.func33, Tryd.ntmps33
  go_wp2
  refine bodyPost_ret (v := .agg #[.int .i64 0, .int .i64 2147483647]) (by simp [results, Tryd.results33, go_sem]) rfl ⟨rfl, ?_⟩
  exact (Below.refl _ _).alloc (Nat.le_refl _) _

/-- What A may be, and how many numbers L may have, as spans. -/
def isL (ps : ByteArray) : Bool := decide (ps = ⟨#[108]⟩)

theorem isL_toList (ps : ByteArray) : (ps.toList == [108]) = isL ps := by
  rw [ByteArray.toList_eq]
  unfold isL
  by_cases h : ps = ⟨#[108]⟩
  · simp [h]
  · rw [decide_eq_false h, beq_eq_false_iff_ne]
    intro e
    apply h
    cases ps with
    | mk d =>
      have e2 : d.toList = (#[108] : Array UInt8).toList := e
      rw [Array.toList_inj.1 e2]

set_option maxHeartbeats 1000000 in
theorem numbers30 (c t : Int) (wd pp ps : ByteArray) (pl : Bool) (w : World) :
    Calls Tryd.prog 30 #[.agg #[.int .u8 c, .string wd, .int .i8 t, .string pp, .string ps, .bool pl]] w fun e w' => e = .returned (spanV (lo t (isL ps)) (hi t (isL ps))) ∧ Below w.heap.size w w' := by
  by_cases h0 : t = 0
  · subst h0
    go_enter Tryd.func30, Tryd.ntmps30
    go_wp2
    refine bodyPost_ret (v := .agg #[.int .i64 0, .int .i64 0]) (by simp [results, Tryd.results30, go_sem]) rfl ⟨rfl, ?_⟩
    exact ((Below.refl _ _).alloc (Nat.le_refl _) _).alloc (by simp) _
  by_cases h3 : t = 3
  · subst h3
    go_enter Tryd.func30, Tryd.ntmps30
    go_wp2
    refine bodyPost_ret (v := .agg #[.int .i64 0, .int .i64 0]) (by simp [results, Tryd.results30, go_sem]) rfl ⟨rfl, ?_⟩
    exact ((Below.refl _ _).alloc (Nat.le_refl _) _).alloc (by simp) _
  by_cases h9 : t = 9
  · subst h9
    go_enter Tryd.func30, Tryd.ntmps30
    go_wp2
    refine bodyPost_ret (v := .agg #[.int .i64 0, .int .i64 4294967295]) (by simp [results, Tryd.results30, go_sem]) rfl ⟨rfl, ?_⟩
    exact ((Below.refl _ _).alloc (Nat.le_refl _) _).alloc (by simp) _
  by_cases h8 : t = 8
  · subst h8
    have hl := isL_toList ps
    cases hb : isL ps
    · rw [hb] at hl
      go_enter Tryd.func30, Tryd.ntmps30
      go_wp2
      refine bodyPost_ret (v := .agg #[.int .i64 (-2147483648), .int .i64 2147483647]) (by simp [results, Tryd.results30, go_sem]) rfl ⟨rfl, ?_⟩
      exact ((Below.refl _ _).alloc (Nat.le_refl _) _).alloc (by simp) _
    · rw [hb] at hl
      go_enter Tryd.func30, Tryd.ntmps30
      go_wp2
      refine bodyPost_ret (v := .agg #[.int .i64 (-9223372036854775808), .int .i64 9223372036854775807]) (by simp [results, Tryd.results30, go_sem]) rfl ⟨rfl, ?_⟩
      exact ((Below.refl _ _).alloc (Nat.le_refl _) _).alloc (by simp) _
  have e0 : (t == 0) = false := by simp [h0]
  have e3 : (t == 3) = false := by simp [h3]
  have e9 : (t == 9) = false := by simp [h9]
  have e8 : (t == 8) = false := by simp [h8]
  have HV := show Hid (spanV (lo t (isL ps)) (hi t (isL ps)) = spanV 0 2147483647) by
    show spanV (lo t (isL ps)) (hi t (isL ps)) = spanV 0 2147483647
    unfold lo hi
    rw [if_neg h8, if_neg (by omega), if_neg h9, if_neg h8]
  clear h0 h3 h9 h8
  go_enter Tryd.func30, Tryd.ntmps30
  go_wp2_with fail
  refine (indices33 _).mono ?_
  rintro e w1 ⟨rfl, hb⟩
  unfold spanV at *
  have c0 : w1.cell? ⟨w.heap.size + 1, 0, none⟩ = some (.int .i64 0) := by rw [hb.cell (by simp)]; simp [go_sem]
  have c1 : w1.cell? ⟨w.heap.size + 1, 1, none⟩ = some (.int .i64 0) := by rw [hb.cell (by simp)]; simp [go_sem]
  have f0 : w1.frozen? ⟨w.heap.size + 1, 0, none⟩ = false := by rw [hb.frozen (by simp)]; simp [go_sem]
  have f1 : w1.frozen? ⟨w.heap.size + 1, 1, none⟩ = false := by rw [hb.frozen (by simp)]; simp [go_sem]
  go_wp2
  refine bodyPost_ret (v := .agg #[.int .i64 0, .int .i64 2147483647]) (by simp [results, Tryd.results30, go_sem, c0, c1]) rfl ⟨congrArg Ending.returned HV.out.symm, ?_⟩
  exact ((((((Below.refl _ _).alloc (Nat.le_refl _) _).alloc (by simp) _).trans (hb.mono (by simp; omega))).setCell (by simp) _).setCell (by simp) _)

set_option maxHeartbeats 1000000 in
theorem counts32 (c t : Int) (wd pp ps : ByteArray) (pl : Bool) (w : World) :
    Calls Tryd.prog 32 #[.agg #[.int .u8 c, .string wd, .int .i8 t, .string pp, .string ps, .bool pl]] w fun e w' => e = .returned (if t = 3 then spanV 1 16 else spanV 0 0) ∧ Below w.heap.size w w' := by
  by_cases h3 : t = 3
  · subst h3
    rw [if_pos rfl]
    go_enter Tryd.func32, Tryd.ntmps32
    go_wp2
    refine bodyPost_ret (v := .agg #[.int .i64 1, .int .i64 16]) (by simp [results, Tryd.results32, go_sem]) rfl ⟨rfl, ?_⟩
    exact ((Below.refl _ _).alloc (Nat.le_refl _) _).alloc (by simp) _
  · rw [if_neg h3]
    have e3 : (t == 3) = false := by simp [h3]
    clear h3
    go_enter Tryd.func32, Tryd.ntmps32
    go_wp2
    refine bodyPost_ret (v := .agg #[.int .i64 0, .int .i64 0]) (by simp [results, Tryd.results32, go_sem]) rfl ⟨rfl, ?_⟩
    exact ((Below.refl _ _).alloc (Nat.le_refl _) _).alloc (by simp) _
end Go.Proofs.YtgljlclnmnfocaaDoor
