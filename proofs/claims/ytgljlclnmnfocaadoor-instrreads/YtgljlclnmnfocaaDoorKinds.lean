/-
  The table of kinds as the program's text lays it: its cells, and what a load of it yields.
-/
import Derived.Test.YtgljlclnmnfocaaDoorWord
import Derived.Test.YtgljlclnmnfocaaDoorHid
import Derived.WalkSpells
import Derived.WalkLawsBesides
namespace Go.Proofs.YtgljlclnmnfocaaDoor
open Go.RowKit
set_option linter.unusedVariables false


def kW0 : ByteArray := ⟨#[116, 114, 97, 112, 32, 110, 111, 112, 32, 98, 108, 111, 99, 107, 32, 108, 111, 111, 112, 32, 105, 102, 32, 101, 108, 115, 101, 32, 101, 110, 100, 32, 98, 114, 32, 98, 114, 105, 102, 32, 98, 114, 116, 97, 98, 108, 101, 32, 114, 101, 116, 117, 114, 110, 32, 99, 97, 108, 108, 32, 104, 111, 115, 116]⟩
def kW1 : ByteArray := ⟨#[100, 114, 111, 112, 32, 115, 101, 108, 101, 99, 116, 32, 103, 101, 116, 32, 115, 101, 116, 32, 116, 101, 101, 32, 103, 103, 101, 116, 32, 103, 115, 101, 116]⟩
def kW2 : ByteArray := ⟨#[119, 46, 99, 111, 110, 115, 116, 32, 108, 46, 99, 111, 110, 115, 116]⟩
def kW3 : ByteArray := ⟨#[119, 46, 108, 111, 97, 100, 56, 117, 32, 119, 46, 108, 111, 97, 100, 56, 115, 32, 119, 46, 108, 111, 97, 100, 49, 54, 117, 32, 119, 46, 108, 111, 97, 100, 49, 54, 115, 32, 119, 46, 108, 111, 97, 100, 32, 108, 46, 108, 111, 97, 100, 32, 119, 46, 115, 116, 111, 114, 101, 56, 32, 119, 46, 115, 116, 111, 114, 101, 49, 54, 32, 119, 46, 115, 116, 111, 114, 101, 32, 108, 46, 115, 116, 111, 114, 101, 32, 115, 105, 122, 101, 32, 103, 114, 111, 119]⟩
def kW4 : ByteArray := ⟨#[101, 113, 122, 32, 101, 113, 32, 110, 101, 32, 108, 116, 115, 32, 108, 116, 117, 32, 108, 101, 115, 32, 108, 101, 117, 32, 99, 108, 122, 32, 99, 116, 122, 32, 112, 111, 112, 32, 97, 100, 100, 32, 115, 117, 98, 32, 109, 117, 108, 32, 100, 105, 118, 115, 32, 100, 105, 118, 117, 32, 114, 101, 109, 115, 32, 114, 101, 109, 117, 32, 97, 110, 100, 32, 111, 114, 32, 120, 111, 114, 32, 115, 104, 108, 32, 115, 104, 114, 115, 32, 115, 104, 114, 117, 32, 114, 111, 116, 108, 32, 114, 111, 116, 114]⟩
def kW5 : ByteArray := ⟨#[101, 113, 122, 32, 101, 113, 32, 110, 101, 32, 108, 116, 115, 32, 108, 116, 117, 32, 108, 101, 115, 32, 108, 101, 117, 32, 99, 108, 122, 32, 99, 116, 122, 32, 112, 111, 112, 32, 97, 100, 100, 32, 115, 117, 98, 32, 109, 117, 108, 32, 100, 105, 118, 115, 32, 100, 105, 118, 117, 32, 114, 101, 109, 115, 32, 114, 101, 109, 117, 32, 97, 110, 100, 32, 111, 114, 32, 120, 111, 114, 32, 115, 104, 108, 32, 115, 104, 114, 115, 32, 115, 104, 114, 117, 32, 114, 111, 116, 108, 32, 114, 111, 116, 114]⟩
def kW6 : ByteArray := ⟨#[119, 46, 119, 114, 97, 112, 32, 108, 46, 101, 120, 116, 101, 110, 100, 115, 32, 108, 46, 101, 120, 116, 101, 110, 100, 117, 32, 119, 46, 101, 120, 116, 56, 32, 119, 46, 101, 120, 116, 49, 54, 32, 108, 46, 101, 120, 116, 51, 50]⟩
def kF : Nat → Int
  | 0 => 0
  | 1 => 16
  | 2 => 24
  | 3 => 32
  | 4 => 48
  | 5 => 80
  | _ => 112
def kL : Nat → Int
  | 0 => 12
  | 1 => 22
  | 2 => 25
  | 3 => 43
  | 4 => 72
  | 5 => 104
  | _ => 117
def kA : Nat → ByteArray
  | 0 => ⟨#[]⟩
  | 1 => ⟨#[]⟩
  | 2 => ⟨#[]⟩
  | 3 => ⟨#[]⟩
  | 4 => ⟨#[119, 46]⟩
  | 5 => ⟨#[108, 46]⟩
  | _ => ⟨#[]⟩
def kW : Nat → ByteArray
  | 0 => kW0
  | 1 => kW1
  | 2 => kW2
  | 3 => kW3
  | 4 => kW4
  | 5 => kW5
  | _ => kW6

/-- The table's cells. -/
def kindsL : List Value := [.int .u8 0, .int .u8 12, .string ⟨#[]⟩, .string kW0, .int .u8 16, .int .u8 22, .string ⟨#[]⟩, .string kW1, .int .u8 24, .int .u8 25, .string ⟨#[]⟩, .string kW2, .int .u8 32, .int .u8 43, .string ⟨#[]⟩, .string kW3, .int .u8 48, .int .u8 72, .string ⟨#[119, 46]⟩, .string kW4, .int .u8 80, .int .u8 104, .string ⟨#[108, 46]⟩, .string kW5, .int .u8 112, .int .u8 117, .string ⟨#[]⟩, .string kW6]
def kindsV : Value := .agg kindsL.toArray
def KindsOk (w : World) : Prop := ∀ j v, kindsL[j]? = some v → w.cell? ⟨0, j, none⟩ = some v

theorem KindsOk.pos {w : World} (h : KindsOk w) : 0 < w.heap.size := World.block_lt_of_cell? w ⟨0, 0, none⟩ (h 0 _ rfl)
theorem KindsOk.later {n : Nat} {w w' : World} (h : KindsOk w) (hb : Below n w w') (hn : 0 < n) : KindsOk w' :=
  fun j v hj => (hb.cell (p := ⟨0, j, none⟩) hn).trans (h j v hj)

theorem run_kinds {w : World} (h : KindsOk w) : (loadVar 100 ⟨0, 0, none⟩).run Tryd.prog w = .ok kindsV w := by
  have hl : (loadCells ⟨0, 0, none⟩ 28).run Tryd.prog w = .ok kindsL.toArray w := run_loadCells_list (P := Tryd.prog) w ⟨0, 0, none⟩ kindsL (fun j v hj => by
    have e : (⟨0, 0, none⟩ : Addr).add j = ⟨0, j, none⟩ := by unfold Addr.add; split <;> simp_all
    rw [e]
    exact h j v hj)
  unfold loadVar
  simp only [Sem.run_bind, Tryd.isAgg100, Result.andThen, if_true, Tryd.sizeOf100, hl, Sem.run_pure]
  rfl
theorem exec_kinds {w : World} (h : KindsOk w) (a : Act) (d : Option Tmp) (p : String) (af : Array Edge) (g : Option (Nat × Bool)) :
    (execOp a.eval { dst := d, op := Op.load 100 (Operand.global 0), type := 100, pos := p, after := af, guard := g }).run Tryd.prog w = .ok (.value kindsV) w := by
  show (do pure (Next.value (← Instr.loadAt 100 (.pointer (some ⟨0, 0, none⟩)))) : Sem Next).run Tryd.prog w = _
  have e : (Instr.sureAddr (.pointer (some ⟨0, 0, none⟩))).run Tryd.prog w = .ok ⟨0, 0, none⟩ w := rfl
  unfold Instr.loadAt
  simp only [Sem.run_bind, e, Sem.run_pure, Result.andThen, run_kinds h]

set_option maxRecDepth 20000 in
theorem run_kind {w : World} (i : Nat) (hi : i < 7) : (Instr.index 100 kindsV (.int .i64 i)).run Tryd.prog w = .ok (.agg #[.int .u8 (kF i), .int .u8 (kL i), .string (kA i), .string (kW i)]) w := by
  have h : i = 0 ∨ i = 1 ∨ i = 2 ∨ i = 3 ∨ i = 4 ∨ i = 5 ∨ i = 6 := by omega
  rcases h with rfl | rfl | rfl | rfl | rfl | rfl | rfl <;> simp [Instr.index, go_sem, kindsV, kindsL, kF, kL, kA, kW]

/-- What is said of every kind. -/
theorem kind_facts (i : Nat) (hi : i < 7) : 0 ≤ kF i ∧ kF i ≤ kL i ∧ kL i ≤ 117 ∧ kF i + (bpieces (kW i)).length ≤ 255 ∧ (kW i).size ≤ 1099511627776 ∧ (kA i).size ≤ 1099511627776 := by
  have h : i = 0 ∨ i = 1 ∨ i = 2 ∨ i = 3 ∨ i = 4 ∨ i = 5 ∨ i = 6 := by omega
  rcases h with rfl | rfl | rfl | rfl | rfl | rfl | rfl <;> decide +kernel
end Go.Proofs.YtgljlclnmnfocaaDoor
