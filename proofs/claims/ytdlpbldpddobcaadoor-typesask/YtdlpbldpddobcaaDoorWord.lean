/-
  The walks over side, Sig, Word, readSide and the document's Sig.
-/
import Derived.Test.YtdlpbldpddobcaaDoorEach
import Derived.Deep.QuietTactic
import Derived.BigQuiet
namespace Go.Proofs.YtdlpbldpddobcaaDoor
open Go.RowKit
set_option linter.unusedVariables false

/-- How a side of a signature is told. -/
def sideS (s : ByteArray) : ByteArray := if s.toList.isEmpty = true then ⟨#[45]⟩ else s

theorem sideS_size (s : ByteArray) : (sideS s).size ≤ s.size + 1 := by
  unfold sideS
  split
  · exact Nat.le_add_left 1 _
  · omega

theorem side15 (s : ByteArray) (w : World) :
    Calls Tryd.prog 46 #[.string s] w fun e w' => e = .returned (.string (sideS s)) ∧ w' = w := by
  cases h : s.toList.isEmpty
  all_goals
    go_enter Tryd.func46, Tryd.ntmps46
    go_wp2
    go_ret
    exact ⟨by simp [sideS, h], rfl⟩
theorem sig14 (p r : ByteArray) (w : World) (hp : p.size ≤ 1073741824) (hr : r.size ≤ 1073741824) :
    Calls Tryd.prog 10 #[.agg #[.string p, .string r]] w fun e w' => e = .returned (.bool (lett p 8 && lett r 8)) ∧ Below w.heap.size w w' := by
  have hb0 : Below w.heap.size w (w.alloc (.cells #[.string p, .string r] 23)) := (Below.refl _ _).alloc (Nat.le_refl _) _
  have hc1 : (w.alloc (.cells #[.string p, .string r] 23)).cell? ⟨w.heap.size, 1, none⟩ = some (.string r) := by
    rw [World.cell?_alloc_at _ _ _ _ rfl]; rfl
  go_enter Tryd.func10, Tryd.ntmps10
  go_wp2_with fail
  refine (letters22 p 8 _ hp (by omega)).mono ?_
  rintro e w1 ⟨rfl, hb1⟩
  cases h1 : lett p 8
  · go_wp2
    go_ret
    exact ⟨by rw [h1]; rfl, hb0.trans (hb1.mono (by simp))⟩
  · have hc2 : w1.cell? ⟨w.heap.size, 1, none⟩ = some (.string r) := (hb1.cell (by simp)).trans hc1
    go_wp2_with fail
    refine (letters22 r 8 _ hr (by omega)).mono ?_
    rintro e w2 ⟨rfl, hb2⟩
    go_wp2
    go_ret
    exact ⟨by rw [h1]; rfl, (hb0.trans (hb1.mono (by simp))).trans (hb2.mono (by have := hb1.size; simp at this; omega))⟩

theorem sig16 (p r : ByteArray) (w : World) (hp : p.size ≤ 1073741824) (hr : r.size ≤ 1073741824) :
    Calls Tryd.prog 11 #[.agg #[.string p, .string r]] w fun e w' => e = .returned (.bool (lett p 8 && lett r 8)) ∧ Below w.heap.size w w' := by
  have hb0 : Below w.heap.size w (w.alloc (.cells #[.string p, .string r] 23)) := (Below.refl _ _).alloc (Nat.le_refl _) _
  go_enter Tryd.func11, Tryd.ntmps11
  go_wp2_with fail
  refine (letters23 p 8 _ hp (by omega)).mono ?_
  rintro e w1 ⟨rfl, rfl⟩
  cases h1 : lett p 8
  · go_wp2
    go_ret
    exact ⟨by rw [h1]; rfl, hb0⟩
  · go_wp2_with fail
    refine (letters23 r 8 _ hr (by omega)).mono ?_
    rintro e w2 ⟨rfl, rfl⟩
    go_wp2
    go_ret
    exact ⟨by rw [h1]; rfl, hb0⟩

/-- May they be a signature's? -/
def sigB (p r : ByteArray) : Bool := lett p 8 && lett r 8
/-- The text of a signature. -/
def wordS (p r : ByteArray) : ByteArray := sideS p ++ ⟨#[32, 45, 62, 32]⟩ ++ sideS r
def wordV (p r : ByteArray) : ByteArray := if sigB p r = true then wordS p r else ⟨#[]⟩
def wordE (p r : ByteArray) : Int := if sigB p r = true then 0 else 15

/-- types.Word. -/
theorem word6 (p r : ByteArray) (w : World) (hp : p.size ≤ 1073741824) (hr : r.size ≤ 1073741824) :
    Calls Tryd.prog 22 #[.agg #[.string p, .string r]] w fun e w' => e = .returned (.tuple #[.string (wordV p r), .int .i64 (wordE p r)]) ∧ Below w.heap.size w w' := by
  have hb0 : Below w.heap.size w (w.alloc (.cells #[.string p, .string r] 23)) := (Below.refl _ _).alloc (Nat.le_refl _) _
  have hc0 : (w.alloc (.cells #[.string p, .string r] 23)).cell? ⟨w.heap.size, 0, none⟩ = some (.string p) := by
    rw [World.cell?_alloc_at _ _ _ _ rfl]; rfl
  have hc1 : (w.alloc (.cells #[.string p, .string r] 23)).cell? ⟨w.heap.size, 1, none⟩ = some (.string r) := by
    rw [World.cell?_alloc_at _ _ _ _ rfl]; rfl
  have HG := hid (sig14 p r (w.alloc (.cells #[.string p, .string r] 23)) hp hr)
  go_enter Tryd.func22, Tryd.ntmps22
  go_wp2_with fail
  refine HG.out.mono ?_
  rintro e w1 ⟨rfl, hb1⟩
  have hd0 : w1.cell? ⟨w.heap.size, 0, none⟩ = some (.string p) := (hb1.cell (by simp)).trans hc0
  have hd1 : w1.cell? ⟨w.heap.size, 1, none⟩ = some (.string r) := (hb1.cell (by simp)).trans hc1
  have HB := hid (hb0.trans (hb1.mono (by simp)))
  cases h1 : sigB p r
  · rw [show (lett p 8 && lett r 8) = false from h1]
    go_wp2
    go_ret2
    exact ⟨by simp [wordV, wordE, h1], HB.out⟩
  · rw [show (lett p 8 && lett r 8) = true from h1]
    clear hc0 hc1 hb0 hb1 HG
    have h2 := sideS_size p
    have h3 := sideS_size r
    have a1 : ∀ w, (Op.stringOp .add (sideS p) ⟨#[32, 45, 62, 32]⟩).run Tryd.prog w = .ok (.string (sideS p ++ ⟨#[32, 45, 62, 32]⟩)) w := fun w => run_string_add_sum w _ _ (by simp only [ByteArray.size_mk', Array.size]; simp; omega)
    have a2 : ∀ w, (Op.stringOp .add (sideS p ++ ⟨#[32, 45, 62, 32]⟩) (sideS r)).run Tryd.prog w = .ok (.string (wordS p r)) w := fun w => run_string_add_sum w _ _ (by rw [ByteArray.size_append]; simp only [ByteArray.size_mk', Array.size]; simp; omega)
    go_wp2
    go_quiet ((go_at_call 46; refine Calls.quiet_of_same (side15 _ _)))
    go_wp2
    go_ret2
    exact ⟨by simp [wordV, wordE, h1], below_drewN HB.out nq⟩
/-- What a side tells. -/
def rsV (s : ByteArray) : ByteArray := if s.toList.isEmpty = true then ⟨#[]⟩ else if (s.toList == [45]) = true then ⟨#[]⟩ else s
def rsB (s : ByteArray) : Bool := if s.toList.isEmpty = true then false else if (s.toList == [45]) = true then true else lett s 8

/-- types.readSide. -/
theorem readSide19 (s : ByteArray) (w : World) (hs : s.size ≤ 1073741824) :
    Calls Tryd.prog 48 #[.string s] w fun e w' => e = .returned (.tuple #[.string (rsV s), .bool (rsB s)]) ∧ Below w.heap.size w w' := by
  cases h : s.toList.isEmpty
  · cases h' : (s.toList == [45])
    · go_enter Tryd.func48, Tryd.ntmps48
      go_wp2_with fail
      refine (letters22 s 8 _ hs (by omega)).mono ?_
      rintro e w1 ⟨rfl, hb1⟩
      go_wp2
      go_ret2
      exact ⟨by simp [rsV, rsB, h, h'], hb1⟩
    · go_enter Tryd.func48, Tryd.ntmps48
      go_wp2
      go_ret2
      exact ⟨by simp [rsV, rsB, h, h'], Below.refl _ _⟩
  · go_enter Tryd.func48, Tryd.ntmps48
    go_wp2
    go_ret2
    exact ⟨by simp [rsV, rsB, h], Below.refl _ _⟩

end Go.Proofs.YtdlpbldpddobcaaDoor
