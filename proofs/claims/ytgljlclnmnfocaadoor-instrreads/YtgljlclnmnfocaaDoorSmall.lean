/-
  The walks over takes, plain, numberEffect and effect: what the program says of an opcode beside its word.
-/
import Derived.Test.YtgljlclnmnfocaaDoorRows
import Derived.WalkKit
import Derived.WalkSpells
import Derived.WalkLawsBesides
namespace Go.Proofs.YtgljlclnmnfocaaDoor
open Go.RowKit
set_option linter.unusedVariables false

def takesV (c : Int) : Int :=
  if c = 2 then 1 else if c = 3 then 1 else if c = 4 then 1 else if c = 7 then 2 else if c = 8 then 2 else if c = 9 then 3 else if c = 11 then 4 else if c = 12 then 5
  else if c = 18 then 6 else if c = 19 then 6 else if c = 20 then 6 else if c = 21 then 7 else if c = 22 then 7 else if c = 24 then 8 else if c = 25 then 8
  else if c = 32 then 9 else if c = 33 then 9 else if c = 34 then 9 else if c = 35 then 9 else if c = 36 then 9 else if c = 37 then 9 else if c = 38 then 9 else if c = 39 then 9 else if c = 40 then 9 else if c = 41 then 9 else 0

def plainV (c : Int) : Bool := decide (c = 1 ∨ 24 ≤ c)

/-- The letters of an instruction of numbers. -/
def numV (k : Int) (s : ByteArray) : ByteArray × ByteArray :=
  if k = 0 then (s, ⟨#[119]⟩) else if k ≤ 6 then (s ++ s, ⟨#[119]⟩) else if k ≤ 9 then (s, s) else (s ++ s, s)

def effV (c : Int) : ByteArray × ByteArray :=
  if 48 ≤ c ∧ c ≤ 72 then numV (c - 48) ⟨#[119]⟩ else if 80 ≤ c ∧ c ≤ 104 then numV (c - 80) ⟨#[108]⟩
  else if c = 24 then (⟨#[]⟩, ⟨#[119]⟩) else if c = 42 then (⟨#[]⟩, ⟨#[119]⟩) else if c = 25 then (⟨#[]⟩, ⟨#[108]⟩)
  else if c = 32 then (⟨#[119]⟩, ⟨#[119]⟩) else if c = 33 then (⟨#[119]⟩, ⟨#[119]⟩) else if c = 34 then (⟨#[119]⟩, ⟨#[119]⟩) else if c = 35 then (⟨#[119]⟩, ⟨#[119]⟩) else if c = 36 then (⟨#[119]⟩, ⟨#[119]⟩) else if c = 43 then (⟨#[119]⟩, ⟨#[119]⟩) else if c = 115 then (⟨#[119]⟩, ⟨#[119]⟩) else if c = 116 then (⟨#[119]⟩, ⟨#[119]⟩)
  else if c = 37 then (⟨#[119]⟩, ⟨#[108]⟩) else if c = 113 then (⟨#[119]⟩, ⟨#[108]⟩) else if c = 114 then (⟨#[119]⟩, ⟨#[108]⟩)
  else if c = 112 then (⟨#[108]⟩, ⟨#[119]⟩) else if c = 117 then (⟨#[108]⟩, ⟨#[108]⟩)
  else if c = 38 then (⟨#[119, 119]⟩, ⟨#[]⟩) else if c = 39 then (⟨#[119, 119]⟩, ⟨#[]⟩) else if c = 40 then (⟨#[119, 119]⟩, ⟨#[]⟩) else if c = 41 then (⟨#[119, 108]⟩, ⟨#[]⟩) else (⟨#[]⟩, ⟨#[]⟩)

set_option maxRecDepth 100000 in
set_option maxHeartbeats 4000000 in
theorem takes19 (c : Int) (w : World) : Calls Tryd.prog 62 #[.int .u8 c] w fun e w' => e = .returned (.int .i8 (takesV c)) ∧ w' = w := by
  go_enter Tryd.func62, Tryd.ntmps62
  go_wp2
  all_goals (go_ret; exact ⟨by unfold takesV; simp_all, rfl⟩)

theorem plain20 (c : Int) (w : World) : Calls Tryd.prog 63 #[.int .u8 c] w fun e w' => e = .returned (.bool (plainV c)) ∧ w' = w := by
  go_enter Tryd.func63, Tryd.ntmps63
  go_wp2
  all_goals (go_ret; refine ⟨?_, rfl⟩; unfold plainV; simp_all)

theorem num39 (k : Int) (s : ByteArray) (w : World) (hs : s.size ≤ 1099511627776) : Calls Tryd.prog 71 #[.int .u8 k, .string s] w fun e w' => e = .returned (.tuple #[.string (numV k s).1, .string (numV k s).2]) ∧ w' = w := by
  have hax : ¬ (s.size + s.size > 9223372036854775807) := by omega
  go_enter Tryd.func71, Tryd.ntmps71
  go_wp2
  all_goals (go_ret2; refine ⟨?_, rfl⟩; unfold numV; simp_all)
  all_goals (repeat rw [if_neg (by omega)])
  all_goals exact ⟨rfl, rfl⟩

set_option maxRecDepth 100000 in
set_option maxHeartbeats 4000000 in
theorem effect17 (c : Int) (w : World) (h0 : 0 ≤ c) (h1 : c ≤ 255) : Calls Tryd.prog 60 #[.int .u8 c] w fun e w' => e = .returned (.tuple #[.string (effV c).1, .string (effV c).2]) ∧ w' = w := by
  by_cases ha : 48 ≤ c ∧ c ≤ 72
  · rw [show effV c = numV (c - 48) ⟨#[119]⟩ by unfold effV; rw [if_pos ha]]
    obtain ⟨ha1, ha2⟩ := ha
    go_enter Tryd.func60, Tryd.ntmps60
    go_wp2_with fail
    refine (num39 (c - 48) ⟨#[119]⟩ w (by decide)).mono ?_
    rintro e w' ⟨rfl, rfl⟩
    go_wp2
    go_ret2
    exact ⟨rfl, rfl⟩
  · by_cases hb : 80 ≤ c ∧ c ≤ 104
    · rw [show effV c = numV (c - 80) ⟨#[108]⟩ by unfold effV; rw [if_neg ha, if_pos hb]]
      obtain ⟨hb1, hb2⟩ := hb
      have hx : ¬ c ≤ 72 := by omega
      go_enter Tryd.func60, Tryd.ntmps60
      go_wp2_with fail
      refine (num39 (c - 80) ⟨#[108]⟩ w (by decide)).mono ?_
      rintro e w' ⟨rfl, rfl⟩
      go_wp2
      go_ret2
      exact ⟨rfl, rfl⟩
    · unfold effV
      rw [if_neg ha, if_neg hb]
      go_enter Tryd.func60, Tryd.ntmps60
      go_wp2_with fail
      all_goals (go_ret2; first | exact ⟨rfl, rfl⟩ | (refine ⟨?_, rfl⟩; simp_all))
end Go.Proofs.YtgljlclnmnfocaaDoor
