/-
  The walk over the document's table, flagonref03.Of: a chain of cases, link by link, whatever the frame's other places hold.
-/
import Derived.Test.YtgljlclnmnfocaaDoorRows
import Derived.WalkKit
import Derived.WalkSpells
import Derived.WalkLawsBesides
namespace Go.Proofs.YtgljlclnmnfocaaDoor
open Go.RowKit
set_option linter.unusedVariables false

/-- One operation that yields a value. -/
theorem step_val {ops : Array Oper} {Q : Exit → Act → World → Prop} {o : Oper} {rest : List Oper} {a : Act} {w w' : World} {v : Value} (hg : o.guard = none) (he : (execOp a.eval o).run Tryd.prog w = .ok (.value v) w')
    (h : wpList Tryd.prog ops Q rest (a.put o.dst v) w') : wpList Tryd.prog ops Q (o :: rest) a w :=
  wpList_plain hg fun K hK => by simp only [Oper.wp, he, Oper.upon_value]; exact hK _ _ h
theorem step_skip {ops : Array Oper} {Q : Exit → Act → World → Prop} {o : Oper} {rest : List Oper} {a : Act} {w w' : World} (hg : o.guard = none) (he : (execOp a.eval o).run Tryd.prog w = .ok .skip w')
    (h : wpList Tryd.prog ops Q rest (a.put o.dst undef) w') : wpList Tryd.prog ops Q (o :: rest) a w :=
  wpList_plain hg fun K hK => by simp only [Oper.wp, he, Oper.upon_skip]; exact hK _ _ h

theorem link_test {id s s' : Nat} {k c : Int} {pos pos' : String} {af : Array Edge} {x y : Code} {Q : Exit → Act → World → Prop} {ts : Array Value} {w : World}
   (h4 : ts[4]?.getD undef = .int .u8 c) (hz : s < ts.size) (hz' : s' < ts.size)
   (hx : c = k → x.wp Tryd.prog Q ⟨(ts.setIfInBounds s' (.bool (c == k))).setIfInBounds s (.bool (c == k)), []⟩ w)
   (hy : c ≠ k → y.wp Tryd.prog Q ⟨(ts.setIfInBounds s' (.bool (c == k))).setIfInBounds s (.bool (c == k)), []⟩ w) :
   ((Code.region id #[{dst := some s', op := .binOp .eql 5 (.tmp 4) (.const (.int .u8 k)) 5, type := 4, pos := pos, after := #[], guard := none}, {dst := some s, op := .assign (.tmp s'), type := 4, pos := pos', after := af, guard := none}] false).seq (Code.cond (.tmp s) x y)).wp Tryd.prog Q ⟨ts, []⟩ w := by
  refine wp_seq (wp_region_lit ?_)
  refine wpList_plain rfl fun K hK => ?_
  have e1 : (execOp ({ tmps := ts, defers := [] } : Act).eval { dst := some s', op := Op.binOp BinOp.eql 5 (Operand.tmp 4) (Operand.const (Value.int IntKind.u8 k)) 5, type := 4, pos := pos, after := #[], guard := none }).run Tryd.prog w = .ok (.value (.bool (c == k))) w := by
    simp [go_sem, h4]
  simp only [Oper.wp, e1, Oper.upon_value]
  refine hK _ _ (wpList_plain rfl fun K' hK' => ?_)
  have e3 : (execOp ({ tmps := ts.setIfInBounds s' (.bool (c == k)), defers := [] } : Act).eval { dst := some s, op := Op.assign (Operand.tmp s'), type := 4, pos := pos', after := af, guard := none }).run Tryd.prog w = .ok (.value (.bool (c == k))) w := by
    simp [go_sem, hz']
  show Oper.upon _ _ _ _ _ (Sem.run Tryd.prog (execOp ({ tmps := ts.setIfInBounds s' (.bool (c == k)), defers := [] } : Act).eval _) w)
  rw [e3, Oper.upon_value]
  refine hK' _ _ ?_
  have e5 : ({ tmps := (ts.setIfInBounds s' (.bool (c == k))).setIfInBounds s (.bool (c == k)), defers := [] } : Act).eval (.tmp s) = .bool (c == k) := by
    show ((ts.setIfInBounds s' (.bool (c == k))).setIfInBounds s (.bool (c == k))).getD s undef = _
    simp [hz]
  refine wpList_nil (wp_cond_split e5 (fun h => hx (by simpa using h)) (fun h => hy (by simpa using h)))

/-- A row as the document's table has it. -/
def rowV (k : Int) (wd : ByteArray) (tk : Int) (pp ps : ByteArray) (pl : Bool) : Array Value := #[.int .u8 k, .string wd, .int .i8 tk, .string pp, .string ps, .bool pl]

set_option maxRecDepth 10000 in
theorem link_row {id s : Nat} {k tk : Int} {wd pp ps : ByteArray} {pl : Bool} {p1 p2 p3 : String} {a2 a3 : Array Edge} {Q : Exit → Act → World → Prop} {ts : Array Value} {w : World}
   (h2 : ts[2]?.getD undef = .pointer (some ⟨w.heap.size, 0, none⟩)) (hz : s < ts.size) (hs : 4 < s)
   (hq : Q .ret ⟨(ts.setIfInBounds s (.agg (rowV k wd tk pp ps pl))).setIfInBounds 3 (.bool true), []⟩ (w.alloc (.cells (rowV k wd tk pp ps pl) 80))) :
   ((Code.region id #[{dst := some s, op := .build 80 #[(0, .const (.int .u8 k)), (1, .const (.string wd)), (2, .const (.int .i8 tk)), (3, .const (.string pp)), (4, .const (.string ps)), (5, .const (.bool pl))], type := 80, pos := p1, after := #[], guard := none},
      {dst := none, op := .store 80 (.tmp 2) (.tmp s), type := 0, pos := p2, after := a2, guard := none}, {dst := some 3, op := .assign (.const (.bool true)), type := 4, pos := p3, after := a3, guard := none}] false).seq .ret).wp Tryd.prog Q ⟨ts, []⟩ (w.alloc (.cells (rowV 0 ⟨#[]⟩ 0 ⟨#[]⟩ ⟨#[]⟩ false) 80)) := by
  refine wp_seq (wp_region_lit ?_)
  refine wpList_plain rfl fun K hK => ?_
  have e1 : (execOp ({ tmps := ts, defers := [] } : Act).eval { dst := some s, op := .build 80 #[(0, .const (.int .u8 k)), (1, .const (.string wd)), (2, .const (.int .i8 tk)), (3, .const (.string pp)), (4, .const (.string ps)), (5, .const (.bool pl))], type := 80, pos := p1, after := #[], guard := none }).run Tryd.prog (w.alloc (.cells (rowV 0 ⟨#[]⟩ 0 ⟨#[]⟩ ⟨#[]⟩ false) 80)) = .ok (.value (.agg (rowV k wd tk pp ps pl))) (w.alloc (.cells (rowV 0 ⟨#[]⟩ 0 ⟨#[]⟩ ⟨#[]⟩ false) 80)) := by
    simp [go_sem, rowV]
  simp only [Oper.wp, e1, Oper.upon_value]
  refine hK _ _ (wpList_plain rfl fun K' hK' => ?_)
  have e2 : (execOp ({ tmps := ts.setIfInBounds s (.agg (rowV k wd tk pp ps pl)), defers := [] } : Act).eval { dst := none, op := .store 80 (.tmp 2) (.tmp s), type := 0, pos := p2, after := a2, guard := none }).run Tryd.prog (w.alloc (.cells (rowV 0 ⟨#[]⟩ 0 ⟨#[]⟩ ⟨#[]⟩ false) 80)) = .ok .skip (w.alloc (.cells (rowV k wd tk pp ps pl) 80)) := by
    have g2 : (ts.setIfInBounds s (.agg (rowV k wd tk pp ps pl)))[2]?.getD undef = .pointer (some ⟨w.heap.size, 0, none⟩) := by
      rw [Array.getElem?_setIfInBounds_ne (by omega)]; exact h2
    simp only [rowV] at g2 ⊢
    simp [go_sem, g2, hz]
  show Oper.upon _ _ _ _ _ (Sem.run Tryd.prog (execOp ({ tmps := ts.setIfInBounds s (.agg (rowV k wd tk pp ps pl)), defers := [] } : Act).eval _) _)
  rw [e2, Oper.upon_skip]
  refine hK' _ _ (wpList_plain rfl fun K2 hK2 => ?_)
  have e3 : (execOp ({ tmps := ts.setIfInBounds s (.agg (rowV k wd tk pp ps pl)), defers := [] } : Act).eval { dst := some 3, op := .assign (.const (.bool true)), type := 4, pos := p3, after := a3, guard := none }).run Tryd.prog (w.alloc (.cells (rowV k wd tk pp ps pl) 80)) = .ok (.value (.bool true)) (w.alloc (.cells (rowV k wd tk pp ps pl) 80)) := by
    simp [go_sem]
  show Oper.upon _ _ _ _ _ (Sem.run Tryd.prog (execOp ({ tmps := ts.setIfInBounds s (.agg (rowV k wd tk pp ps pl)), defers := [] } : Act).eval _) _)
  rw [e3, Oper.upon_value]
  exact hK2 _ _ (wpList_nil (wp_ret hq))

/-- One row of the table: its number, its word, what it takes, pops, pushes, whether it is plain. -/
abbrev RefRow := Int × ByteArray × Int × ByteArray × ByteArray × Bool

/-- The row of a number, and whether there is one. -/
def refLook : List RefRow → Int → Array Value × Bool
  | [], _ => (rowV 0 ⟨#[]⟩ 0 ⟨#[]⟩ ⟨#[]⟩ false, false)
  | x :: r, c => if c = x.1 then (rowV x.1 x.2.1 x.2.2.1 x.2.2.2.1 x.2.2.2.2.1 x.2.2.2.2.2, true) else refLook r c

def refTab : List RefRow := [
  ((0, ⟨#[116, 114, 97, 112]⟩, 0, ⟨#[]⟩, ⟨#[]⟩, false) : RefRow),
  ((1, ⟨#[110, 111, 112]⟩, 0, ⟨#[]⟩, ⟨#[]⟩, true) : RefRow),
  ((2, ⟨#[98, 108, 111, 99, 107]⟩, 1, ⟨#[]⟩, ⟨#[]⟩, false) : RefRow),
  ((3, ⟨#[108, 111, 111, 112]⟩, 1, ⟨#[]⟩, ⟨#[]⟩, false) : RefRow),
  ((4, ⟨#[105, 102]⟩, 1, ⟨#[]⟩, ⟨#[]⟩, false) : RefRow),
  ((5, ⟨#[101, 108, 115, 101]⟩, 0, ⟨#[]⟩, ⟨#[]⟩, false) : RefRow),
  ((6, ⟨#[101, 110, 100]⟩, 0, ⟨#[]⟩, ⟨#[]⟩, false) : RefRow),
  ((7, ⟨#[98, 114]⟩, 2, ⟨#[]⟩, ⟨#[]⟩, false) : RefRow),
  ((8, ⟨#[98, 114, 105, 102]⟩, 2, ⟨#[]⟩, ⟨#[]⟩, false) : RefRow),
  ((9, ⟨#[98, 114, 116, 97, 98, 108, 101]⟩, 3, ⟨#[]⟩, ⟨#[]⟩, false) : RefRow),
  ((10, ⟨#[114, 101, 116, 117, 114, 110]⟩, 0, ⟨#[]⟩, ⟨#[]⟩, false) : RefRow),
  ((11, ⟨#[99, 97, 108, 108]⟩, 4, ⟨#[]⟩, ⟨#[]⟩, false) : RefRow),
  ((12, ⟨#[104, 111, 115, 116]⟩, 5, ⟨#[]⟩, ⟨#[]⟩, false) : RefRow),
  ((16, ⟨#[100, 114, 111, 112]⟩, 0, ⟨#[]⟩, ⟨#[]⟩, false) : RefRow),
  ((17, ⟨#[115, 101, 108, 101, 99, 116]⟩, 0, ⟨#[]⟩, ⟨#[]⟩, false) : RefRow),
  ((18, ⟨#[103, 101, 116]⟩, 6, ⟨#[]⟩, ⟨#[]⟩, false) : RefRow),
  ((19, ⟨#[115, 101, 116]⟩, 6, ⟨#[]⟩, ⟨#[]⟩, false) : RefRow),
  ((20, ⟨#[116, 101, 101]⟩, 6, ⟨#[]⟩, ⟨#[]⟩, false) : RefRow),
  ((21, ⟨#[103, 103, 101, 116]⟩, 7, ⟨#[]⟩, ⟨#[]⟩, false) : RefRow),
  ((22, ⟨#[103, 115, 101, 116]⟩, 7, ⟨#[]⟩, ⟨#[]⟩, false) : RefRow),
  ((24, ⟨#[119, 46, 99, 111, 110, 115, 116]⟩, 8, ⟨#[]⟩, ⟨#[119]⟩, true) : RefRow),
  ((25, ⟨#[108, 46, 99, 111, 110, 115, 116]⟩, 8, ⟨#[]⟩, ⟨#[108]⟩, true) : RefRow),
  ((32, ⟨#[119, 46, 108, 111, 97, 100, 56, 117]⟩, 9, ⟨#[119]⟩, ⟨#[119]⟩, true) : RefRow),
  ((33, ⟨#[119, 46, 108, 111, 97, 100, 56, 115]⟩, 9, ⟨#[119]⟩, ⟨#[119]⟩, true) : RefRow),
  ((34, ⟨#[119, 46, 108, 111, 97, 100, 49, 54, 117]⟩, 9, ⟨#[119]⟩, ⟨#[119]⟩, true) : RefRow),
  ((35, ⟨#[119, 46, 108, 111, 97, 100, 49, 54, 115]⟩, 9, ⟨#[119]⟩, ⟨#[119]⟩, true) : RefRow),
  ((36, ⟨#[119, 46, 108, 111, 97, 100]⟩, 9, ⟨#[119]⟩, ⟨#[119]⟩, true) : RefRow),
  ((37, ⟨#[108, 46, 108, 111, 97, 100]⟩, 9, ⟨#[119]⟩, ⟨#[108]⟩, true) : RefRow),
  ((38, ⟨#[119, 46, 115, 116, 111, 114, 101, 56]⟩, 9, ⟨#[119, 119]⟩, ⟨#[]⟩, true) : RefRow),
  ((39, ⟨#[119, 46, 115, 116, 111, 114, 101, 49, 54]⟩, 9, ⟨#[119, 119]⟩, ⟨#[]⟩, true) : RefRow),
  ((40, ⟨#[119, 46, 115, 116, 111, 114, 101]⟩, 9, ⟨#[119, 119]⟩, ⟨#[]⟩, true) : RefRow),
  ((41, ⟨#[108, 46, 115, 116, 111, 114, 101]⟩, 9, ⟨#[119, 108]⟩, ⟨#[]⟩, true) : RefRow),
  ((42, ⟨#[115, 105, 122, 101]⟩, 0, ⟨#[]⟩, ⟨#[119]⟩, true) : RefRow),
  ((43, ⟨#[103, 114, 111, 119]⟩, 0, ⟨#[119]⟩, ⟨#[119]⟩, true) : RefRow),
  ((48, ⟨#[119, 46, 101, 113, 122]⟩, 0, ⟨#[119]⟩, ⟨#[119]⟩, true) : RefRow),
  ((49, ⟨#[119, 46, 101, 113]⟩, 0, ⟨#[119, 119]⟩, ⟨#[119]⟩, true) : RefRow),
  ((50, ⟨#[119, 46, 110, 101]⟩, 0, ⟨#[119, 119]⟩, ⟨#[119]⟩, true) : RefRow),
  ((51, ⟨#[119, 46, 108, 116, 115]⟩, 0, ⟨#[119, 119]⟩, ⟨#[119]⟩, true) : RefRow),
  ((52, ⟨#[119, 46, 108, 116, 117]⟩, 0, ⟨#[119, 119]⟩, ⟨#[119]⟩, true) : RefRow),
  ((53, ⟨#[119, 46, 108, 101, 115]⟩, 0, ⟨#[119, 119]⟩, ⟨#[119]⟩, true) : RefRow),
  ((54, ⟨#[119, 46, 108, 101, 117]⟩, 0, ⟨#[119, 119]⟩, ⟨#[119]⟩, true) : RefRow),
  ((55, ⟨#[119, 46, 99, 108, 122]⟩, 0, ⟨#[119]⟩, ⟨#[119]⟩, true) : RefRow),
  ((56, ⟨#[119, 46, 99, 116, 122]⟩, 0, ⟨#[119]⟩, ⟨#[119]⟩, true) : RefRow),
  ((57, ⟨#[119, 46, 112, 111, 112]⟩, 0, ⟨#[119]⟩, ⟨#[119]⟩, true) : RefRow),
  ((58, ⟨#[119, 46, 97, 100, 100]⟩, 0, ⟨#[119, 119]⟩, ⟨#[119]⟩, true) : RefRow),
  ((59, ⟨#[119, 46, 115, 117, 98]⟩, 0, ⟨#[119, 119]⟩, ⟨#[119]⟩, true) : RefRow),
  ((60, ⟨#[119, 46, 109, 117, 108]⟩, 0, ⟨#[119, 119]⟩, ⟨#[119]⟩, true) : RefRow),
  ((61, ⟨#[119, 46, 100, 105, 118, 115]⟩, 0, ⟨#[119, 119]⟩, ⟨#[119]⟩, true) : RefRow),
  ((62, ⟨#[119, 46, 100, 105, 118, 117]⟩, 0, ⟨#[119, 119]⟩, ⟨#[119]⟩, true) : RefRow),
  ((63, ⟨#[119, 46, 114, 101, 109, 115]⟩, 0, ⟨#[119, 119]⟩, ⟨#[119]⟩, true) : RefRow),
  ((64, ⟨#[119, 46, 114, 101, 109, 117]⟩, 0, ⟨#[119, 119]⟩, ⟨#[119]⟩, true) : RefRow),
  ((65, ⟨#[119, 46, 97, 110, 100]⟩, 0, ⟨#[119, 119]⟩, ⟨#[119]⟩, true) : RefRow),
  ((66, ⟨#[119, 46, 111, 114]⟩, 0, ⟨#[119, 119]⟩, ⟨#[119]⟩, true) : RefRow),
  ((67, ⟨#[119, 46, 120, 111, 114]⟩, 0, ⟨#[119, 119]⟩, ⟨#[119]⟩, true) : RefRow),
  ((68, ⟨#[119, 46, 115, 104, 108]⟩, 0, ⟨#[119, 119]⟩, ⟨#[119]⟩, true) : RefRow),
  ((69, ⟨#[119, 46, 115, 104, 114, 115]⟩, 0, ⟨#[119, 119]⟩, ⟨#[119]⟩, true) : RefRow),
  ((70, ⟨#[119, 46, 115, 104, 114, 117]⟩, 0, ⟨#[119, 119]⟩, ⟨#[119]⟩, true) : RefRow),
  ((71, ⟨#[119, 46, 114, 111, 116, 108]⟩, 0, ⟨#[119, 119]⟩, ⟨#[119]⟩, true) : RefRow),
  ((72, ⟨#[119, 46, 114, 111, 116, 114]⟩, 0, ⟨#[119, 119]⟩, ⟨#[119]⟩, true) : RefRow),
  ((80, ⟨#[108, 46, 101, 113, 122]⟩, 0, ⟨#[108]⟩, ⟨#[119]⟩, true) : RefRow),
  ((81, ⟨#[108, 46, 101, 113]⟩, 0, ⟨#[108, 108]⟩, ⟨#[119]⟩, true) : RefRow),
  ((82, ⟨#[108, 46, 110, 101]⟩, 0, ⟨#[108, 108]⟩, ⟨#[119]⟩, true) : RefRow),
  ((83, ⟨#[108, 46, 108, 116, 115]⟩, 0, ⟨#[108, 108]⟩, ⟨#[119]⟩, true) : RefRow),
  ((84, ⟨#[108, 46, 108, 116, 117]⟩, 0, ⟨#[108, 108]⟩, ⟨#[119]⟩, true) : RefRow),
  ((85, ⟨#[108, 46, 108, 101, 115]⟩, 0, ⟨#[108, 108]⟩, ⟨#[119]⟩, true) : RefRow),
  ((86, ⟨#[108, 46, 108, 101, 117]⟩, 0, ⟨#[108, 108]⟩, ⟨#[119]⟩, true) : RefRow),
  ((87, ⟨#[108, 46, 99, 108, 122]⟩, 0, ⟨#[108]⟩, ⟨#[108]⟩, true) : RefRow),
  ((88, ⟨#[108, 46, 99, 116, 122]⟩, 0, ⟨#[108]⟩, ⟨#[108]⟩, true) : RefRow),
  ((89, ⟨#[108, 46, 112, 111, 112]⟩, 0, ⟨#[108]⟩, ⟨#[108]⟩, true) : RefRow),
  ((90, ⟨#[108, 46, 97, 100, 100]⟩, 0, ⟨#[108, 108]⟩, ⟨#[108]⟩, true) : RefRow),
  ((91, ⟨#[108, 46, 115, 117, 98]⟩, 0, ⟨#[108, 108]⟩, ⟨#[108]⟩, true) : RefRow),
  ((92, ⟨#[108, 46, 109, 117, 108]⟩, 0, ⟨#[108, 108]⟩, ⟨#[108]⟩, true) : RefRow),
  ((93, ⟨#[108, 46, 100, 105, 118, 115]⟩, 0, ⟨#[108, 108]⟩, ⟨#[108]⟩, true) : RefRow),
  ((94, ⟨#[108, 46, 100, 105, 118, 117]⟩, 0, ⟨#[108, 108]⟩, ⟨#[108]⟩, true) : RefRow),
  ((95, ⟨#[108, 46, 114, 101, 109, 115]⟩, 0, ⟨#[108, 108]⟩, ⟨#[108]⟩, true) : RefRow),
  ((96, ⟨#[108, 46, 114, 101, 109, 117]⟩, 0, ⟨#[108, 108]⟩, ⟨#[108]⟩, true) : RefRow),
  ((97, ⟨#[108, 46, 97, 110, 100]⟩, 0, ⟨#[108, 108]⟩, ⟨#[108]⟩, true) : RefRow),
  ((98, ⟨#[108, 46, 111, 114]⟩, 0, ⟨#[108, 108]⟩, ⟨#[108]⟩, true) : RefRow),
  ((99, ⟨#[108, 46, 120, 111, 114]⟩, 0, ⟨#[108, 108]⟩, ⟨#[108]⟩, true) : RefRow),
  ((100, ⟨#[108, 46, 115, 104, 108]⟩, 0, ⟨#[108, 108]⟩, ⟨#[108]⟩, true) : RefRow),
  ((101, ⟨#[108, 46, 115, 104, 114, 115]⟩, 0, ⟨#[108, 108]⟩, ⟨#[108]⟩, true) : RefRow),
  ((102, ⟨#[108, 46, 115, 104, 114, 117]⟩, 0, ⟨#[108, 108]⟩, ⟨#[108]⟩, true) : RefRow),
  ((103, ⟨#[108, 46, 114, 111, 116, 108]⟩, 0, ⟨#[108, 108]⟩, ⟨#[108]⟩, true) : RefRow),
  ((104, ⟨#[108, 46, 114, 111, 116, 114]⟩, 0, ⟨#[108, 108]⟩, ⟨#[108]⟩, true) : RefRow),
  ((112, ⟨#[119, 46, 119, 114, 97, 112]⟩, 0, ⟨#[108]⟩, ⟨#[119]⟩, true) : RefRow),
  ((113, ⟨#[108, 46, 101, 120, 116, 101, 110, 100, 115]⟩, 0, ⟨#[119]⟩, ⟨#[108]⟩, true) : RefRow),
  ((114, ⟨#[108, 46, 101, 120, 116, 101, 110, 100, 117]⟩, 0, ⟨#[119]⟩, ⟨#[108]⟩, true) : RefRow),
  ((115, ⟨#[119, 46, 101, 120, 116, 56]⟩, 0, ⟨#[119]⟩, ⟨#[119]⟩, true) : RefRow),
  ((116, ⟨#[119, 46, 101, 120, 116, 49, 54]⟩, 0, ⟨#[119]⟩, ⟨#[119]⟩, true) : RefRow),
  ((117, ⟨#[108, 46, 101, 120, 116, 51, 50]⟩, 0, ⟨#[108]⟩, ⟨#[108]⟩, true) : RefRow)]

/-- The frame's places that the chain reads. -/
def Fr (c : Int) (b : Nat) (ts : Array Value) : Prop := ts.size = 276 ∧ ts[2]?.getD undef = .pointer (some ⟨b, 0, none⟩) ∧ ts[4]?.getD undef = .int .u8 c

theorem Fr.put {c : Int} {b : Nat} {ts : Array Value} (h : Fr c b ts) {s : Nat} (hs : 4 < s) (v : Value) : Fr c b (ts.setIfInBounds s v) := by
  refine ⟨by simpa using h.1, ?_, ?_⟩
  · rw [Array.getElem?_setIfInBounds_ne (by omega)]; exact h.2.1
  · rw [Array.getElem?_setIfInBounds_ne (by omega)]; exact h.2.2

/-- What the function answers. -/
def refPost (w : World) (V : Array Value × Bool) : Ending → World → Prop := fun e w' => e = .returned (.tuple #[.agg V.1, .bool V.2]) ∧ w' = w.alloc (.cells V.1 80)

theorem ref_ends {w : World} {V : Array Value × Bool} {k tk : Int} {wd pp ps : ByteArray} {pl ok : Bool} {ts : Array Value} (hV : (rowV k wd tk pp ps pl, ok) = V)
    (h2 : ts[2]?.getD undef = .pointer (some ⟨w.heap.size, 0, none⟩)) (h3 : ts[3]?.getD undef = .bool ok) : bodyPost Tryd.prog Tryd.f34 (refPost w V) .ret ⟨ts, []⟩ (w.alloc (.cells (rowV k wd tk pp ps pl) 80)) := by
  subst hV
  refine bodyPost_ret (v := .tuple #[.agg (rowV k wd tk pp ps pl), .bool ok]) ?_ rfl ⟨rfl, rfl⟩
  rw [results_cell_tmp rfl]
  simp only [rowV]
  simp [go_sem, h2, h3]

theorem link {id id' s s' s2 : Nat} {c : Int} {x : RefRow} {r : List RefRow} {V : Array Value × Bool} {pos pos' p1 p2 p3 : String} {af a2 a3 : Array Edge} {y : Code} {Q : Exit → Act → World → Prop} {ts : Array Value} {w : World}
    (hQ : ∀ a w', bodyPost Tryd.prog Tryd.f34 (refPost w V) .ret a w' → Q .ret a w') (ht : Fr c w.heap.size ts) (hV : refLook (x :: r) c = V) (l1 : 4 < s ∧ s < 276) (l2 : 4 < s' ∧ s' < 276) (l3 : 4 < s2 ∧ s2 < 276)
    (next : refLook r c = V → ∀ ts', Fr c w.heap.size ts' → y.wp Tryd.prog Q ⟨ts', []⟩ (w.alloc (.cells (rowV 0 ⟨#[]⟩ 0 ⟨#[]⟩ ⟨#[]⟩ false) 80))) :
    ((Code.region id #[{dst := some s', op := .binOp .eql 5 (.tmp 4) (.const (.int .u8 x.1)) 5, type := 4, pos := pos, after := #[], guard := none}, {dst := some s, op := .assign (.tmp s'), type := 4, pos := pos', after := af, guard := none}] false).seq (Code.cond (.tmp s)
      ((Code.region id' #[{dst := some s2, op := .build 80 #[(0, .const (.int .u8 x.1)), (1, .const (.string x.2.1)), (2, .const (.int .i8 x.2.2.1)), (3, .const (.string x.2.2.2.1)), (4, .const (.string x.2.2.2.2.1)), (5, .const (.bool x.2.2.2.2.2))], type := 80, pos := p1, after := #[], guard := none},
      {dst := none, op := .store 80 (.tmp 2) (.tmp s2), type := 0, pos := p2, after := a2, guard := none}, {dst := some 3, op := .assign (.const (.bool true)), type := 4, pos := p3, after := a3, guard := none}] false).seq .ret) y)).wp Tryd.prog Q ⟨ts, []⟩ (w.alloc (.cells (rowV 0 ⟨#[]⟩ 0 ⟨#[]⟩ ⟨#[]⟩ false) 80)) := by
  have hts := (ht.put l2.1 (.bool (c == x.1))).put l1.1 (.bool (c == x.1))
  refine link_test ht.2.2 (by rw [ht.1]; exact l1.2) (by rw [ht.1]; exact l2.2) (fun h => ?_) (fun h => next (by rw [refLook, if_neg h] at hV; exact hV) _ hts)
  refine link_row hts.2.1 (by rw [hts.1]; exact l3.2) l3.1 (hQ _ _ (ref_ends (by rw [refLook, if_pos h] at hV; exact hV) ?_ ?_))
  · rw [Array.getElem?_setIfInBounds_ne (by omega)]
    exact (hts.put l3.1 _).2.1
  · rw [Array.getElem?_setIfInBounds_self_of_lt (by simp; have := hts.1; simp at this; omega)]
    rfl

set_option maxRecDepth 100000 in
set_option maxHeartbeats 4000000 in
theorem ref7 (c : Int) (w : World) : Calls Tryd.prog 34 #[.int .u8 c] w (refPost w (refLook refTab c)) := by
  obtain ⟨V, hV⟩ : ∃ V, refLook refTab c = V := ⟨_, rfl⟩
  rw [hV]
  refine calls_of_wp Tryd.func34 rfl ?_
  obtain ⟨ts, hts⟩ : ∃ ts : Array Value, (#[.int .u8 c] : Array Value) ++ Array.replicate (Tryd.f34.ntmps - (#[.int .u8 c] : Array Value).size) undef = ts := ⟨_, rfl⟩
  have z0 : ts.size = 276 := by rw [← hts]; simp [Tryd.ntmps34]
  have t0 : ts[0]?.getD undef = .int .u8 c := by rw [← hts]; simp
  rw [hts]
  clear hts
  refine wp_seq (wp_region_lit ?_)
  refine step_val rfl (v := .pointer (some ⟨w.heap.size, 0, none⟩)) (w' := w.alloc (.cells (rowV 0 ⟨#[]⟩ 0 ⟨#[]⟩ ⟨#[]⟩ false) 80)) (by simp only [rowV]; simp [go_sem]) ?_
  refine step_val rfl (v := .bool false) (w' := w.alloc (.cells (rowV 0 ⟨#[]⟩ 0 ⟨#[]⟩ ⟨#[]⟩ false) 80)) (by simp [go_sem]) ?_
  refine wpList_nil (wp_seq (wp_seq (wp_region_lit ?_)))
  refine step_val rfl (v := .int .u8 c) (w' := w.alloc (.cells (rowV 0 ⟨#[]⟩ 0 ⟨#[]⟩ ⟨#[]⟩ false) 80)) (by simp [go_sem, Act.put, t0]) ?_
  refine wpList_nil (wp_block ?_)
  have hts : Fr c w.heap.size (((ts.setIfInBounds 2 (.pointer (some ⟨w.heap.size, 0, none⟩))).setIfInBounds 3 (.bool false)).setIfInBounds 4 (.int .u8 c)) := by
    refine ⟨by simpa using z0, ?_, ?_⟩
    · rw [Array.getElem?_setIfInBounds_ne (by omega), Array.getElem?_setIfInBounds_ne (by omega), Array.getElem?_setIfInBounds_self_of_lt (by omega)]; rfl
    · rw [Array.getElem?_setIfInBounds_self_of_lt (by simp; omega)]; rfl
  show Code.wp _ _ _ ⟨((ts.setIfInBounds 2 (.pointer (some ⟨w.heap.size, 0, none⟩))).setIfInBounds 3 (.bool false)).setIfInBounds 4 (.int .u8 c), []⟩ _
  generalize ((ts.setIfInBounds 2 (.pointer (some ⟨w.heap.size, 0, none⟩))).setIfInBounds 3 (.bool false)).setIfInBounds 4 (.int .u8 c) = ts1 at hts ⊢
  clear z0 t0
  clear ts
  unfold refTab at hV
  iterate 90
    refine link ?_ hts hV ?_ ?_ ?_ ?_
    · exact fun _ _ h => h
    · decide
    · decide
    · decide
    clear hV hts
    intro hV ts hts
  refine wp_skip ?_
  show Code.wp _ _ _ _ _
  refine wp_seq (wp_region_lit ?_)
  have h275 : (275 : Nat) < ts.size := by rw [hts.1]; decide
  refine step_val rfl (v := .agg (rowV 0 ⟨#[]⟩ 0 ⟨#[]⟩ ⟨#[]⟩ false)) (w' := w.alloc (.cells (rowV 0 ⟨#[]⟩ 0 ⟨#[]⟩ ⟨#[]⟩ false) 80)) (by simp only [rowV]; simp [go_sem]) ?_
  have g2 : (ts.setIfInBounds 275 (.agg (rowV 0 ⟨#[]⟩ 0 ⟨#[]⟩ ⟨#[]⟩ false)))[2]?.getD undef = .pointer (some ⟨w.heap.size, 0, none⟩) := (hts.put (by decide) _).2.1
  refine step_skip rfl (w' := w.alloc (.cells (rowV 0 ⟨#[]⟩ 0 ⟨#[]⟩ ⟨#[]⟩ false) 80)) (by simp only [rowV]; simp [go_sem, Act.put, h275, hts.2.1]) ?_
  refine step_val rfl (v := .bool false) (w' := w.alloc (.cells (rowV 0 ⟨#[]⟩ 0 ⟨#[]⟩ ⟨#[]⟩ false) 80)) (by simp [go_sem]) ?_
  refine wpList_nil (wp_ret (ref_ends hV ?_ ?_))
  · show ((ts.setIfInBounds 275 _).setIfInBounds 3 _)[2]?.getD undef = _
    rw [Array.getElem?_setIfInBounds_ne (by omega)]
    exact g2
  · show ((ts.setIfInBounds 275 _).setIfInBounds 3 _)[3]?.getD undef = _
    rw [Array.getElem?_setIfInBounds_self_of_lt (by simp; omega)]
    rfl
end Go.Proofs.YtgljlclnmnfocaaDoor
