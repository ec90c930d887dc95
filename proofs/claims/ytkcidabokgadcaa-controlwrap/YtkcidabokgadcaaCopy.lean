/-
  A code copied, deep.
-/
import Derived.Test.YtkcidabokgadcaaList
import Derived.Laws.AppendOwnNone
namespace Go.Proofs.Ytkcidabokgadcaa
open Go.RowKit
set_option linter.unusedVariables false

def insV (c a : Int) (v : Value) : Value := .agg #[.int .u8 c, .int .i64 a, v]
theorem Try.infIns : (Try.prog.info? 31).map (fun i => (i.zero, i.size, i.bytes)) = some (some (.agg #[.int .u8 0, .int .i64 0, .slice none 0 0]), 3, 40) := by kernel_rfl

/-- 'append(nil, nil...)'. -/
theorem app_nil (w : World) {ops : Array Oper} {rest : List Oper} {o : Oper} {a : Act} {Q : Exit → Act → World → Prop} (hgd : o.guard = none)
    (s x : Operand) (ho : o.op = Op.call { callee := Callee.builtin Builtin.append, args := #[s, x], argTypes := #[25, 25] })
    (c : Nat) (hs : a.eval s = .slice none 0 0) (hx : a.eval x = .slice none 0 c) (h : wpList Try.prog ops Q rest (a.put o.dst (.slice none 0 0)) w) : wpList Try.prog ops Q (o :: rest) a w := by
  obtain ⟨i0, hi, _⟩ := info_parts Try.infInts
  refine wpList_plain hgd fun K hK => ?_
  unfold Oper.wp
  simp [execOp, ho, resolve, invoke, builtin, hs, hx, Builtin.append_, run_underlying Try.underlying25, sizeOf, typeInfo, hi, Builtin.lenOf, Builtin.firstCells, Result.andThen]
  exact hK _ _ h

theorem copyInts (a : Option Addr) (n c : Nat) (l : List Int) (w : World) (h : SegI w a n c l) (hn : n ≤ 100000) :
    Calls Try.prog 28 #[.slice a n c] w fun e w' => ∃ v, e = .returned v ∧ LI w' w.heap.size v l ∧ Below w.heap.size w w' := by
  obtain ⟨hl, _, _, _, hc⟩ := h
  by_cases ha : a = none
  · subst ha
    have hn0 : n = 0 := by
      rcases hc with h | ⟨b, off, e, _⟩
      · exact h
      · cases e
    subst hn0
    have hl0 : l = [] := List.eq_nil_of_length_eq_zero hl
    subst hl0
    clear hc hl
    go_enter Try.func28, Try.ntmps28
    go_wp2_with (first | (at_builtin; refine app_nil _ rfl (.tmp 4) (.tmp 5) rfl c rfl rfl ?_))
    go_ret
    exact ⟨_, rfl, LI.nil _ _, Below.refl _ _⟩
  · obtain ⟨ad, rfl⟩ := Option.ne_none_iff_exists'.1 ha
    have hu : ∀ (j : Nat) (y : Value), (l.map (Value.int .i64))[j]? = some y → w.cell? (ad.add j) = some y := fun j y hj => by
      have hj' : j < l.length := by
        rcases Nat.lt_or_ge j l.length with h | h
        · exact h
        · rw [List.getElem?_eq_none (by simpa using h)] at hj; cases hj
      rcases hc with h | ⟨b, off, e, hcell⟩
      · omega
      · have e := Option.some.inj e
        subst e
        have hplain : (⟨b, off, none⟩ : Addr).add j = ⟨b, off + j, none⟩ := by unfold Addr.add; split <;> simp_all
        rw [hplain, hcell j (by omega)]
        rw [List.getElem?_map, List.getElem?_eq_getElem hj'] at hj
        rw [List.getD_eq_getElem?_getD, List.getElem?_eq_getElem hj']
        exact hj
    have HU := hid hu
    clear hu hc ha
    go_enter Try.func28, Try.ntmps28
    go_wp2_with (first | (at_builtin; refine app_ints _ rfl (.tmp 4) (.tmp 5) rfl w.heap.size _ [] rfl (LI.nil _ _) (Nat.le_refl _) ad l n c rfl hl HU.out (by simp; omega) ?_; intro a' k' c' w' hk hL hb; have HL := hid hL; have HB := hid hb; clear hL hb hk))
    go_ret
    exact ⟨_, rfl, by simpa using HL.out, HB.out⟩

theorem LI.below {w : World} {base : Nat} {v : Value} {l : List Int} (h : LI w base v l) {p : Addr} (hp : p.block < base) (u : Value) : LI (w.setCell p u) base v l := ownsRow_setCell_below h hp u

set_option maxHeartbeats 1000000 in
theorem copyIns (c a : Int) (la : Option Addr) (ln lc : Nat) (l : List Int) (w : World) (h : SegI w la ln lc l) (hn : ln ≤ 100000) :
    Calls Try.prog 19 #[insV c a (.slice la ln lc)] w fun e w' => ∃ v, e = .returned (insV c a v) ∧ LI w' w.heap.size v l ∧ Below w.heap.size w w' := by
  unfold insV
  have hb : Below w.heap.size w ((w.alloc (.cells #[.int .u8 c, .int .i64 a, .slice la ln lc] 31)).alloc (.cells #[.int .u8 0, .int .i64 0, .slice none 0 0] 31)) := ((Below.refl _ _).alloc (Nat.le_refl _) _).alloc (by simp) _
  have hw := copyInts la ln lc l _ (h.later hb (Nat.le_refl _)) hn
  rw [show ((w.alloc (.cells #[.int .u8 c, .int .i64 a, .slice la ln lc] 31)).alloc (.cells #[.int .u8 0, .int .i64 0, .slice none 0 0] 31)).heap.size = w.heap.size + 2 by simp] at hw
  have HW := hid hw
  have HB := hid hb
  clear h hb hw
  go_enter Try.func19, Try.ntmps19
  go_wp2_with fail
  refine HW.out.mono ?_
  rintro e w1 ⟨v, rfl, hL, hb1⟩
  have hlt0 : w.heap.size < w.heap.size + 2 := by omega
  have hlt1 : w.heap.size + 1 < w.heap.size + 2 := by omega
  have y : (w1.cell? ⟨w.heap.size, 0, none⟩ = some (.int .u8 c) ∧ w1.cell? ⟨w.heap.size, 1, none⟩ = some (.int .i64 a) ∧ w1.cell? ⟨w.heap.size, 2, none⟩ = some (.slice la ln lc) ∧ w1.frozen? ⟨w.heap.size, 2, none⟩ = false) ∧
      (w1.cell? ⟨w.heap.size + 1, 0, none⟩ = some (.int .u8 0) ∧ w1.cell? ⟨w.heap.size + 1, 1, none⟩ = some (.int .i64 0) ∧ w1.cell? ⟨w.heap.size + 1, 2, none⟩ = some (.slice none 0 0)) ∧
      (w1.frozen? ⟨w.heap.size + 1, 0, none⟩ = false ∧ w1.frozen? ⟨w.heap.size + 1, 1, none⟩ = false ∧ w1.frozen? ⟨w.heap.size + 1, 2, none⟩ = false) := by
    refine ⟨⟨?_, ?_, ?_, ?_⟩, ⟨?_, ?_, ?_⟩, ⟨?_, ?_, ?_⟩⟩
    · rw [hb1.cell (by exact hlt0)]; simp [go_sem]
    · rw [hb1.cell (by exact hlt0)]; simp [go_sem]
    · rw [hb1.cell (by exact hlt0)]; simp [go_sem]
    · rw [hb1.frozen (by exact hlt0)]; simp [go_sem]
    · rw [hb1.cell (by exact hlt1)]; simp [go_sem]
    · rw [hb1.cell (by exact hlt1)]; simp [go_sem]
    · rw [hb1.cell (by exact hlt1)]; simp [go_sem]
    · rw [hb1.frozen (by exact hlt1)]; simp [go_sem]
    · rw [hb1.frozen (by exact hlt1)]; simp [go_sem]
    · rw [hb1.frozen (by exact hlt1)]; simp [go_sem]
  obtain ⟨⟨x0, x1, x2, f2⟩, ⟨y0, y1, y2⟩, g0, g1, g2⟩ := y
  have B1 := hid (HB.out.trans (hb1.mono (by omega)))
  have C1 := hid hL
  obtain ⟨va, vc, rfl⟩ := hL.slice
  clear hb1 hL HB HW
  go_wp2_with fail
  refine bodyPost_ret (v := .agg #[.int .u8 c, .int .i64 a, .slice va l.length vc]) (by simp [results, Try.results19, go_sem, y0, y1, y2]) rfl ⟨_, rfl, ?_, ?_⟩
  · exact ((((C1.out.below (p := ⟨w.heap.size, 2, none⟩) (by simp) _).below (p := ⟨w.heap.size + 1, 0, none⟩) (by simp) _).below (p := ⟨w.heap.size + 1, 1, none⟩) (by simp) _).below (p := ⟨w.heap.size + 1, 2, none⟩) (by simp) _).mono (by omega)
  · exact (((B1.out.setCell (p := ⟨w.heap.size, 2, none⟩) (Nat.le_refl _) _).setCell (p := ⟨w.heap.size + 1, 0, none⟩) (by simp) _).setCell (p := ⟨w.heap.size + 1, 1, none⟩) (by simp) _).setCell (p := ⟨w.heap.size + 1, 2, none⟩) (by simp) _
end Go.Proofs.Ytkcidabokgadcaa
