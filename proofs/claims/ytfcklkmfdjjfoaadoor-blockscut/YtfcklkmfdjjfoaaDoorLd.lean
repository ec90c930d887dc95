/-
  The walks over cut, leaders and Leaders.
-/
import Derived.Test.YtfcklkmfdjjfoaaDoorBp
namespace Go.Proofs.YtfcklkmfdjjfoaaDoor
open Go.RowKit
set_option linter.unusedVariables false

theorem Tryd.infBools : (Tryd.prog.info? 4).map (fun i => (i.zero, i.size, i.bytes)) = some (some (.bool false), 1, 1) := by kernel_rfl

/-- A list of truths as values. -/
def flB (n : Nat) (f : Nat → Bool) : List Value := (List.range n).map fun i => Value.bool (f i)
theorem flB_len (n : Nat) (f : Nat → Bool) : (flB n f).length = n := by simp [flB]
theorem flB_get (n : Nat) (f : Nat → Bool) (i : Nat) (h : i < n) : (flB n f)[i]? = some (.bool (f i)) := by simp [flB, h]
theorem flB_congr {n : Nat} {f g : Nat → Bool} (h : ∀ i, i < n → f i = g i) : flB n f = flB n g := by
  unfold flB; apply List.map_congr_left; intro i hi; rw [h i (by simpa using hi)]
theorem flB_set {n : Nat} {f : Nat → Bool} {t : Nat} {v : Bool} {g : Nat → Bool} (h : ∀ i, i < n → g i = if i = t then v else f i) : (flB n f).set t (.bool v) = flB n g := by
  apply List.ext_getElem?
  intro j
  by_cases hj : j < n
  · rw [flB_get n g j hj, h j hj]
    by_cases e : j = t
    · subst e
      rw [if_pos rfl, List.getElem?_set_self (by rw [flB_len]; exact hj)]
    · rw [if_neg e, List.getElem?_set_ne (fun x => e x.symm), flB_get n f j hj]
  · rw [List.getElem?_eq_none (by rw [List.length_set, flB_len]; omega), List.getElem?_eq_none (by rw [flB_len]; omega)]

/-- Block B holds the n truths f. -/
def RB (w : World) (B n : Nat) (f : Nat → Bool) : Prop := Row w 4 B n n (flB n f)
theorem RB.cell {w : World} {B n : Nat} {f : Nat → Bool} (h : RB w B n f) (i : Nat) (hi : i < n) : w.cell? ⟨B, i, none⟩ = some (.bool (f i)) := (Row.cell h i hi).trans (flB_get n f i hi)
theorem RB.free {w : World} {B n : Nat} {f : Nat → Bool} (h : RB w B n f) (i : Nat) : w.frozen? ⟨B, i, none⟩ = false := Row.free h i
theorem RB.lt {w : World} {B n : Nat} {f : Nat → Bool} (h : RB w B n f) : B < w.heap.size := Row.lt h
theorem RB.congr {w : World} {B n : Nat} {f g : Nat → Bool} (h : RB w B n f) (e : ∀ i, i < n → g i = f i) : RB w B n g := by
  unfold RB; rw [flB_congr e]; exact h
theorem RB.put {w : World} {B n : Nat} {f g : Nat → Bool} (h : RB w B n f) (t : Nat) (v : Bool) (e : ∀ i, i < n → g i = if i = t then v else f i) : RB (w.setCell ⟨B, t, none⟩ (.bool v)) B n g ∧ Kept (fun k => k = B) w (w.setCell ⟨B, t, none⟩ (.bool v)) := by
  have := Row.put h t (.bool v)
  rw [flB_set e] at this
  exact this
theorem RB.kept {S : Nat → Prop} {w w' : World} {B n : Nat} {f : Nat → Bool} (h : RB w B n f) (hk : Kept S w w') (hs : ¬ S B) : RB w' B n f := Row.kept h hk hs
theorem made_rb {w1 : World} {B n : Nat} (hown : w1.ownsRow B 4 1 (.slice (some ⟨B, 0, none⟩) n n) n (madeCells (Value.bool false).cells (n * 1)).toList) (f : Nat → Bool) (hf : ∀ i, f i = false) : RB w1 B n f := by
  have e : (madeCells (Value.bool false).cells (n * 1)).toList = flB n f := by
    rw [Nat.mul_one]; refine (toList_madeCells_one _ _).trans ?_
    apply List.ext_getElem?
    intro j
    by_cases hj : j < n
    · rw [flB_get n _ j hj, hf]; simp [hj]
    · rw [List.getElem?_eq_none (by simp; omega), List.getElem?_eq_none (by rw [flB_len]; omega)]
  unfold RB
  rw [← e]; exact Row.of hown

set_option maxHeartbeats 1000000 in
/-- cut. -/
theorem cutC (c : Int) (w : World) (h0 : 0 ≤ c) (h1 : c ≤ 255) : Calls Tryd.prog 62 #[.int .u8 c] w fun e w' => e = .returned (.tuple #[.bool (cutB c), .bool (decide (c = 4))]) ∧ w' = w := by
  by_cases h : c = 0 ∨ (3 ≤ c ∧ c ≤ 12)
  · have h : c = 0 ∨ c = 3 ∨ c = 4 ∨ c = 5 ∨ c = 6 ∨ c = 7 ∨ c = 8 ∨ c = 9 ∨ c = 10 ∨ c = 11 ∨ c = 12 := by omega
    rcases h with rfl | rfl | rfl | rfl | rfl | rfl | rfl | rfl | rfl | rfl | rfl
    all_goals
      go_enter Tryd.func62, Tryd.ntmps62
      go_wp2_with fail
      go_ret2
      exact ⟨rfl, rfl⟩
  · have e1 : cutB c = false := by rw [Bool.eq_false_iff, Ne, cutB_iff]; exact h
    have e2 : decide (c = 4) = false := decide_eq_false (by omega)
    rw [e1, e2]
    have b0 : (c == 0) = false := by simp; omega
    have b3 : (c == 3) = false := by simp; omega
    have b4 : (c == 4) = false := by simp; omega
    have b5 : (c == 5) = false := by simp; omega
    have b6 : (c == 6) = false := by simp; omega
    have b7 : (c == 7) = false := by simp; omega
    have b8 : (c == 8) = false := by simp; omega
    have b9 : (c == 9) = false := by simp; omega
    have b10 : (c == 10) = false := by simp; omega
    have b11 : (c == 11) = false := by simp; omega
    have b12 : (c == 12) = false := by simp; omega
    clear e1 e2 h
    go_enter Tryd.func62, Tryd.ntmps62
    go_wp2_with fail
    go_ret2
    exact ⟨rfl, rfl⟩
end Go.Proofs.YtfcklkmfdjjfoaaDoor
