/-
  Lists of numbers that are grown one by one, in memory of the call's own.
-/
import Derived.Test.YtedkmfklobipaaaDoorCode
import Derived.Deep.AppendLies
namespace Go.Proofs.YtedkmfklobipaaaDoor
open Go.RowKit
set_option linter.unusedVariables false

/-- The slice v holds the numbers l, in memory of its own, not below base. -/
def LI (w : World) (base : Nat) (v : Value) (l : List Int) : Prop := w.ownsRow base 3 1 v l.length (l.map (Value.int .i64))

theorem LI.nil (w : World) (base : Nat) : LI w base (.slice none 0 0) [] := ⟨rfl, .inl ⟨rfl, rfl⟩⟩
theorem LI.later {w w' : World} {base B : Nat} {v : Value} {l : List Int} (h : LI w base v l) (hb : Below B w w') (hB : w.heap.size ≤ B) : LI w' base v l :=
  own_keep h (fun b hx => hb.block b (by
    rcases h.2 with h0 | ⟨g, cp, cur, h1, h2, h3, _⟩
    · rw [h0.1] at hx; cases hx
    · rw [h1] at hx
      have : g = b := by simpa [Value.ownBlock] using hx
      subst this
      exact Nat.lt_of_lt_of_le (Array.getElem?_eq_some_iff.1 h3).1 hB))
theorem LI.kept {S : Nat → Prop} {w w' : World} {base : Nat} {v : Value} {l : List Int} (h : LI w base v l) (hk : Kept S w w') (hs : ∀ b, v.ownBlock = some b → ¬ S b) : LI w' base v l :=
  own_keep h (fun b hx => hk.block b (by
    rcases h.2 with h0 | ⟨g, cp, cur, h1, h2, h3, _⟩
    · rw [h0.1] at hx; cases hx
    · rw [h1] at hx
      have : g = b := by simpa [Value.ownBlock] using hx
      subst this
      exact (Array.getElem?_eq_some_iff.1 h3).1) (hs b hx))
theorem LI.slice {w : World} {base : Nat} {v : Value} {l : List Int} (h : LI w base v l) : ∃ a c, v = .slice a l.length c := by
  rcases h.2 with ⟨h0, h1⟩ | ⟨g, cp, cur, h1, _⟩
  · refine ⟨none, 0, ?_⟩
    rw [h0, h1]
  · exact ⟨_, _, h1⟩
theorem LI.block {w : World} {base b : Nat} {v : Value} {l : List Int} (h : LI w base v l) (hb : v.ownBlock = some b) : base ≤ b ∧ b < w.heap.size := by
  rcases h.2 with h0 | ⟨g, cp, cur, h1, h2, h3, _⟩
  · rw [h0.1] at hb; cases hb
  · rw [h1] at hb
    have : g = b := by simpa [Value.ownBlock] using hb
    subst this
    exact ⟨h2, (Array.getElem?_eq_some_iff.1 h3).1⟩
theorem LI.mono {w : World} {base base' : Nat} {v : Value} {l : List Int} (h : LI w base v l) (hb : base' ≤ base) : LI w base' v l := own_mono h hb
theorem LI.cell {w : World} {base : Nat} {a : Option Addr} {k c : Nat} {l : List Int} (h : LI w base (.slice a k c) l) : k = l.length ∧ (k = 0 ∨ ∃ B, a = some ⟨B, 0, none⟩ ∧ ∀ j, j < k → w.cell? ⟨B, j, none⟩ = some (.int .i64 (l.getD j 0))) := by
  rcases h.2 with ⟨h0, h1⟩ | ⟨g, cp, cur, h1, h2, h3, _⟩
  · injection h0 with e1 e2 e3
    exact ⟨by omega, .inl e2⟩
  · injection h1 with e1 e2 e3
    subst e1 e2 e3
    refine ⟨rfl, .inr ⟨g, rfl, fun j hj => ?_⟩⟩
    have := World.ownsRow.cellAt h j (by omega)
    rw [this]
    simp [hj]
theorem LI.seg {w : World} {base : Nat} {a : Option Addr} {k c : Nat} {l : List Int} (h : LI w base (.slice a k c) l) (hr : ∀ z ∈ l, -9223372036854775808 ≤ z ∧ z ≤ 9223372036854775807) (hk : l.length ≤ 1099511627776) : SegI w a k c l := by
  obtain ⟨e, hc⟩ := h.cell
  refine ⟨e.symm, ?_, by omega, hr, ?_⟩
  · rcases h.2 with ⟨h0, h1⟩ | ⟨g, cp, cur, h1, h2, h3, h4, _⟩
    · injection h0 with e1 e2 e3
      omega
    · injection h1 with e1 e2 e3
      omega
  · rcases hc with h0 | ⟨B, rfl, hc⟩
    · exact .inl h0
    · exact .inr ⟨B, 0, rfl, fun j hj => by rw [Nat.zero_add]; exact hc j hj⟩

theorem own_of_row {w : World} {e : TypeId} {base B n cap : Nat} {xs : List Value} (h : Row w e B n cap xs) (hb : base ≤ B) : w.ownsRow base e 1 (.slice (some ⟨B, 0, none⟩) n cap) n xs := by
  refine ⟨h.1, ?_⟩
  rcases h.2 with ⟨h0, _⟩ | ⟨g, cp, cur, h1, _, h3⟩
  · cases h0
  · injection h1 with e1 e2 e3
    injection e1 with e1
    injection e1 with e1
    subst e1
    exact .inr ⟨B, cp, cur, by rw [e3], hb, h3⟩
theorem LI.of_ri {w : World} {base B n : Nat} {f : Nat → Int} (h : RI w B n f) (hb : base ≤ B) : LI w base (.slice (some ⟨B, 0, none⟩) n n) ((List.range n).map f) := by
  have := own_of_row h hb
  unfold LI
  simpa [fl, Function.comp_def] using this

/-- 'append(l, z)'. -/
theorem app_int (w : World) {ops : Array Oper} {rest : List Oper} {o : Oper} {a : Act} {Q : Exit → Act → World → Prop} (hgd : o.guard = none)
    (s x : Operand) (ho : o.op = Op.call { callee := Callee.builtin Builtin.append, args := #[s, x], argTypes := #[39, 39] })
    (base : Nat) (v : Value) (l : List Int) (hs : a.eval s = v) (hown : LI w base v l) (hbase : base ≤ w.heap.size) (ad : Addr) (z : Int) (hx : a.eval x = .slice (some ad) 1 1) (hu : w.cell? (ad.add 0) = some (.int .i64 z))
    (hlen : l.length ≤ 1073741824)
    (h : ∀ (B cap : Nat) (w' : World), LI w' base (.slice (some ⟨B, 0, none⟩) (l.length + 1) cap) (l ++ [z]) → base ≤ B → Below base w w' → wpList Tryd.prog ops Q rest (a.put o.dst (.slice (some ⟨B, 0, none⟩) (l.length + 1) cap)) w') :
    wpList Tryd.prog ops Q (o :: rest) a w := by
  obtain ⟨i0, hi, hz0, hz1, hz2⟩ := info_parts Tryd.infInts
  refine app_cell w hgd s x 39 ho 3 i0 (.int .i64 0) 8 Tryd.underlying39 hi hz0 hz1 hz2 rfl v l.length (l.map (Value.int .i64)) hs (own_mono hown (Nat.zero_le _)) ad (.int .i64 z) hx hu rfl (by unfold maxLen; omega) (by omega) ?_
  intro B cap w' hrow hcase
  have hB : base ≤ B := by
    rcases hcase with ⟨rfl, _⟩ | ⟨h1, _⟩
    · exact (LI.block hown rfl).1
    · omega
  refine h B cap w' ?_ hB ?_
  · have := own_of_row hrow hB
    unfold LI
    simpa using this
  · rcases hcase with ⟨_, h1⟩ | ⟨_, h1⟩
    · exact h1.to_below hbase (fun k hk e => by omega)
    · exact h1.to_below hbase (fun k hk e => e)

/-- 'append(l, z0, z1, ..)'. -/
theorem app_ints (w : World) {ops : Array Oper} {rest : List Oper} {o : Oper} {a : Act} {Q : Exit → Act → World → Prop} (hgd : o.guard = none)
    (s x : Operand) (ho : o.op = Op.call { callee := Callee.builtin Builtin.append, args := #[s, x], argTypes := #[39, 39] })
    (base : Nat) (v : Value) (l : List Int) (hs : a.eval s = v) (hown : LI w base v l) (hbase : base ≤ w.heap.size) (ad : Addr) (zs : List Int) (m c : Nat) (hx : a.eval x = .slice (some ad) m c) (hm : zs.length = m)
    (hu : ∀ (j : Nat) (y : Value), (zs.map (Value.int .i64))[j]? = some y → w.cell? (ad.add j) = some y)
    (hlen : l.length + zs.length ≤ 1073741824)
    (h : ∀ (a' : Option Addr) (k' c' : Nat) (w' : World), k' = (l ++ zs).length → LI w' base (.slice a' k' c') (l ++ zs) → Below base w w' → wpList Tryd.prog ops Q rest (a.put o.dst (.slice a' k' c')) w') :
    wpList Tryd.prog ops Q (o :: rest) a w := by
  obtain ⟨i0, hi, hz0, hz1, hz2⟩ := info_parts Tryd.infInts
  refine wpList_append_own w hgd s x 39 ho base 3 i0 (.int .i64 0) 1 8 Tryd.underlying39 hi hz0 hz1 hz2 rfl (by decide) v l.length _ hs hown ad m c (zs.map (Value.int .i64)) hx (by simp [hm])
    hu (by intro y hy; simp at hy; obtain ⟨z, _, rfl⟩ := hy; rfl) (by unfold maxLen; omega) (by omega) hbase ?_
  intro v' w' ho' hg _
  have hL : LI w' base v' (l ++ zs) := by
    unfold LI
    rw [List.length_append, hm, List.map_append]
    exact ho'
  obtain ⟨a', c', rfl⟩ := hL.slice
  refine h a' _ c' w' rfl hL ?_
  exact (Kept.of_grown hg).to_below hbase (fun k hk e => by
    have := (LI.block hown e.symm).1
    omega)
/-- The same at a step of a region that draws its order. -/
theorem step_app (w : World) {ops : Array Oper} {o : Oper} {a : Act} {K : Act → World → Prop} {Q : Exit → Act → World → Prop} {E : Prop} (hgd : o.guard = none)
    (s x : Operand) (ho : o.op = Op.call { callee := Callee.builtin Builtin.append, args := #[s, x], argTypes := #[39, 39] })
    (base : Nat) (v : Value) (l : List Int) (hs : a.eval s = v) (hown : LI w base v l) (hbase : base ≤ w.heap.size) (ad : Addr) (zs : List Int) (m c : Nat) (hx : a.eval x = .slice (some ad) m c) (hm : zs.length = m) (hm0 : 0 < m)
    (hu : ∀ (j : Nat) (y : Value), (zs.map (Value.int .i64))[j]? = some y → w.cell? (ad.add j) = some y)
    (hlen : l.length + zs.length ≤ 1073741824)
    (h : ∀ (g k' c' : Nat) (w' : World), k' = (l ++ zs).length → LI w' base (.slice (some ⟨g, 0, none⟩) k' c') (l ++ zs) → Below base w w' → K (a.put o.dst (.slice (some ⟨g, 0, none⟩) k' c')) w') :
    if Region.wanted o (yielded ops a.tmps) = true then Oper.wp Tryd.prog o a w K Q else E := by
  obtain ⟨i0, hi, hz0, hz1, hz2⟩ := info_parts Tryd.infInts
  refine step_append_lies w hgd s x 39 ho base 3 i0 (.int .i64 0) 1 8 Tryd.underlying39 hi hz0 hz1 hz2 rfl (by decide) v l.length _ hs hown ad m c (zs.map (Value.int .i64)) hx (by simp [hm])
    hu (by intro y hy; simp at hy; obtain ⟨z, _, rfl⟩ := hy; rfl) hm0 (by unfold maxLen; omega) (by omega) hbase _ rfl ?_
  intro g cap w' ho' hg _ _
  refine h g _ cap w' (by simp [hm]) ?_ ?_
  · unfold LI
    rw [List.length_append, hm, List.map_append]
    exact ho'
  · exact (Kept.of_grown hg).to_below hbase (fun k hk e => by
      have := (LI.block hown e.symm).1
      omega)
theorem cells1 {w : World} {ad : Addr} {z : Int} (h : w.cell? (ad.add 0) = some (.int .i64 z)) : ∀ (j : Nat) (y : Value), ([z].map (Value.int .i64))[j]? = some y → w.cell? (ad.add j) = some y := fun j y hj => by
  rcases j with _ | j
  · simp at hj; subst hj; exact h
  · simp at hj
theorem cells2 {w : World} {ad : Addr} {z z' : Int} (h : w.cell? (ad.add 0) = some (.int .i64 z)) (h' : w.cell? (ad.add 1) = some (.int .i64 z')) : ∀ (j : Nat) (y : Value), ([z, z'].map (Value.int .i64))[j]? = some y → w.cell? (ad.add j) = some y := fun j y hj => by
  rcases j with _ | _ | j
  · simp at hj; subst hj; exact h
  · simp at hj; subst hj; exact h'
  · simp at hj
end Go.Proofs.YtedkmfklobipaaaDoor
