/-
  Rows of words of the call's own.
-/
import Derived.Test.YtdlpbldpddobcaaDoorWorks
namespace Go.Proofs.YtdlpbldpddobcaaDoor
open Go.RowKit
set_option linter.unusedVariables false

theorem below_then' {w w1 w2 : World} (h1 : Below w.heap.size w w1) (h2 : Below w1.heap.size w1 w2) : Below w.heap.size w w2 := h1.trans (h2.mono h1.size)

theorem words_one (l : List Int) : ∀ u ∈ l.map (Value.int .u64), u.oneCell' = true := by
  intro u hu
  obtain ⟨z, _, rfl⟩ := List.mem_map.1 hu
  rfl

theorem segW_cells {w : World} {a : Option Addr} {n cap : Nat} {zs : List Int} (h : SegW w a n cap zs) :
    ∀ ad, a = some ad → ∀ (j : Nat) (u : Value), (zs.map (Value.int .u64))[j]? = some u → w.cell? (ad.add j) = some u := by
  intro ad had j u hu
  obtain ⟨hz, _, _, _, ha⟩ := h
  have hj : j < zs.length := by
    rcases Nat.lt_or_ge j zs.length with h | h
    · exact h
    · rw [List.getElem?_eq_none (by simpa using h)] at hu; cases hu
  rcases ha with ha | ⟨b, off, e, hc⟩
  · omega
  · rw [had] at e
    cases e
    have hplain : (⟨b, off, none⟩ : Addr).add j = ⟨b, off + j, none⟩ := by unfold Addr.add; split <;> simp_all
    rw [hplain, hc j (by omega)]
    rw [List.getElem?_map, List.getElem?_eq_getElem hj] at hu
    simp at hu
    rw [← hu]
    simp [hj]

theorem ownW_below {w w' : World} {base : Nat} {v : Value} {n : Nat} {xs : List Value} (hown : w.ownsRow base 32 1 v n xs) (hg : w.grownBy w' v.ownBlock) (hbase : base ≤ w.heap.size) : Below base w w' := by
  refine ⟨hg.os, hg.tape, hg.output, hg.size, fun k hk => hg.block k (by omega) ?_⟩
  rcases hown.2 with ⟨rfl, _⟩ | ⟨g, cap, cur, rfl, hbg, _⟩
  · simp [Value.ownBlock]
  · simp [Value.ownBlock]; omega

/-- 'append(l, x...)', l a row of the call's own, x whatever slice of words. -/
theorem appW_any (w : World) {ops : Array Oper} {rest : List Oper} {o : Oper} {a : Act} {Q : Exit → Act → World → Prop} (hgd : o.guard = none)
    (s x : Operand) (ho : o.op = Op.call { callee := Callee.builtin Builtin.append, args := #[s, x], argTypes := #[24, 24] }) (base : Nat) (v : Value) (n : Nat) (xs : List Int)
    (hs : a.eval s = v) (hown : w.ownsRow base 32 1 v n (xs.map (Value.int .u64))) (ao : Option Addr) (m c : Nat) (zs : List Int) (hx : a.eval x = .slice ao m c)
    (hseg : SegW w ao m c zs) (hnone : ao = none → c = 0) (hb : n + m ≤ 1073741824) (hbase : base ≤ w.heap.size)
    (h : ∀ (v' : Value) (w' : World), w'.ownsRow base 32 1 v' (n + m) ((xs ++ zs).map (Value.int .u64)) → Below base w w' → wpList Tryd.prog ops Q rest (a.put o.dst v') w') :
    wpList Tryd.prog ops Q (o :: rest) a w := by
  obtain ⟨i0, hi, hz0, hz1, hz2⟩ := info_parts Tryd.info32
  cases ao with
  | none =>
    have hc := hnone rfl
    subst hc
    have hm : m = 0 := by have := hseg.2.1; omega
    subst hm
    have hzs : zs = [] := List.eq_nil_of_length_eq_zero hseg.1
    subst hzs
    refine wpList_append_own_none hgd s x 24 ho base 32 i0 1 Tryd.underlying24 hi v n _ hs hown hx ?_
    refine h v w ?_ (Below.refl _ _)
    simpa using hown
  | some ad =>
    refine wpList_append_own w hgd s x 24 ho base 32 i0 (.int .u64 0) 1 8 Tryd.underlying24 hi hz0 hz1 hz2 rfl (by decide) v n _ hs hown ad m c (zs.map (Value.int .u64)) hx (by simp [hseg.1])
      (segW_cells hseg ad rfl) (words_one _) (by unfold maxLen; omega) (by omega) hbase ?_
    intro v' w' ho' hg _
    refine h v' w' ?_ (ownW_below hown hg hbase)
    rw [List.map_append]; exact ho'

/-- A row of the call's own as a slice of words. -/
theorem segW_of_own {w : World} {base : Nat} {v : Value} {n : Nat} {zs : List Int} (h : w.ownsRow base 32 1 v n (zs.map (Value.int .u64))) (hn : n ≤ 1073741824) (hr : ∀ z ∈ zs, 0 ≤ z ∧ z < 18446744073709551616) :
    ∃ a c, v = .slice a n c ∧ SegW w a n c zs ∧ (a = none → c = 0) := by
  have hl : zs.length = n := by have := h.1; simpa using this
  rcases h.2 with ⟨rfl, rfl⟩ | ⟨g, cap, cur, rfl, hbg, hh, hnc, _⟩
  · exact ⟨none, 0, rfl, ⟨hl, Nat.le_refl _, by omega, hr, .inl rfl⟩, fun _ => rfl⟩
  · refine ⟨_, cap, rfl, ⟨hl, hnc, by omega, hr, .inr ⟨g, 0, rfl, fun j hj => ?_⟩⟩, fun h => by cases h⟩
    rw [Nat.zero_add, h.cellAt j (by omega)]
    have hj' : j < zs.length := by omega
    simp [hj']

end Go.Proofs.YtdlpbldpddobcaaDoor
