/-
  A page as a value: an array of 4096 bytes made, sliced, read whole, compared.
-/
import Derived.Test.YtbdjghokedfkfaaDoorAb
import Derived.Deep.WholeRow
import Derived.Laws.CopyRow
namespace Go.Proofs.YtbdjghokedfkfaaDoor
open Go.RowKit
set_option linter.unusedVariables false
set_option maxRecDepth 100000

/-- A page of noughts. -/
def Zp : List Int := List.replicate 4096 0
theorem Zp_len : Zp.length = 4096 := List.length_replicate
abbrev byV (l : List Int) : Array Value := (l.map (Value.int .u8)).toArray
theorem Tryd.inf83 : (Tryd.prog.info? 152).map (fun i => (i.zero, i.size)) = some (some (.agg (byV Zp)), 4096) := by kernel_rfl
theorem Tryd.zer83 (w : World) : (zeroValue 152).run Tryd.prog w = .ok (.agg (byV Zp)) w := (zero_of_info Tryd.inf83).1 w
theorem Tryd.siz83 : (Tryd.prog.info? 152).map (·.size) = some 4096 := (zero_of_info Tryd.inf83).2

theorem wpl_val {ops : Array Oper} {rest : List Oper} {o : Oper} {a : Act} {w w' : World} {Q : Exit → Act → World → Prop} (hgd : o.guard = none) (v : Value)
    (h1 : (execOp a.eval o).run Tryd.prog w = .ok (.value v) w') (h : wpList Tryd.prog ops Q rest (a.put o.dst v) w') : wpList Tryd.prog ops Q (o :: rest) a w :=
  wpList_plain hgd fun K hK => by
    unfold Oper.wp
    rw [h1, Oper.upon_value]
    exact hK _ _ h

theorem ex_al {ρ : Operand → Value} {o : Oper} (ho : o.op = .alloc 152) (w : World) :
    (execOp ρ o).run Tryd.prog w = .ok (.value (.pointer (some ⟨w.heap.size, 0, none⟩))) (w.alloc (.cells (byV Zp) 152)) := by
  simp only [execOp, ho, Instr.alloc, Sem.run_bind, Tryd.zer83, Result.andThen_ok]
  rfl
theorem ex_bd {ρ : Operand → Value} {o : Oper} (ho : o.op = .build 152 #[]) (w : World) :
    (execOp ρ o).run Tryd.prog w = .ok (.value (.agg (byV Zp))) w := by
  simp only [execOp, ho, Instr.build, Sem.run_bind, Tryd.zer83, Result.andThen_ok, run_underlying Tryd.underlying152]
  simp only [Tryd.sizeOf5, Result.andThen_ok]
  have e : (Array.map (fun (x : Nat × Operand) => (x.fst, ρ x.snd)) #[]).toList = [] := by simp
  rw [e]
  simp only [Instr.fill, Sem.run_pure, Result.andThen_ok]
  rfl
theorem ex_sl {ρ : Operand → Value} {o : Oper} (x : Operand) (ho : o.op = .slice 152 x none none none) (B : Nat) (hx : ρ x = .pointer (some ⟨B, 0, none⟩)) (w : World) :
    (execOp ρ o).run Tryd.prog w = .ok (.value (.slice (some ⟨B, 0, none⟩) 4096 4096)) w := by
  have hl : Tryd.prog.arrayLen 152 = 4096 := by kernel_rfl
  have hu : Tryd.prog.underlying 152 = some (.array (Tryd.prog.arrayLen 152) (Tryd.prog.elem 152)) := by kernel_rfl
  have hz : (sizeOf (Tryd.prog.elem 152)).run Tryd.prog w = .ok 1 w := by kernel_rfl
  have h := run_sliceAt_array_all w 152 ⟨B, 0, none⟩ hu
  simp only [execOp, ho, hx, Option.map_none, Sem.run_bind]
  rw [h, hz]
  simp only [Result.andThen, slicedAt, hl]
  simp [Addr.add]
theorem ex_cp {ρ : Operand → Value} {o : Oper} (d s : Operand) (ho : o.op = Op.call { callee := Callee.builtin Builtin.copy, args := #[d, s], argTypes := #[31, 31] })
    (g o1 dn dc : Nat) (hd : ρ d = .slice (some ⟨g, o1, none⟩) dn dc) (a : Addr) (sn sc : Nat) (hs : ρ s = .slice (some a) sn sc) (cur : Array Value) (t : TypeId) (cs : List Value) (w : World)
    (hg : w.heap[g]? = some (.cells cur t (0, 0))) (hn : cs.length = Nat.min sn dn)
    (hsrc : ∀ j v, cs[j]? = some v → w.cell? (a.add j) = some v) (hfit : o1 + cs.length ≤ cur.size) (h1 : ∀ v ∈ cs, v.oneCell' = true) :
    (execOp ρ o).run Tryd.prog w = .ok (.value (goInt cs.length)) (w.setRow g (cur.toList.take o1 ++ cs ++ cur.toList.drop (o1 + cs.length)).toArray) := by
  have h5 : (Tryd.prog.info? 5).map (·.size) = some 1 := by kernel_rfl
  have h := run_copy_row Tryd.prog w 31 31 o.type 5 g o1 dn dc a sn sc cur t cs Tryd.underlying31 h5 hg hn hsrc hfit h1
  simp only [execOp, ho, resolve, invoke, builtin, Sem.run_bind, Sem.run_pure, Result.andThen_ok]
  simp [hd, hs, h]

theorem part_by (xs : List Int) (i : Nat) (x : Int) (h : xs[i]? = some x) (w : World) : (part 5 (byV xs) (i * 1)).run Tryd.prog w = .ok (.int .u8 x) w := by
  have e : (byV xs)[i * 1]? = some (.int .u8 x) := by simp [byV, h]
  simp only [part, Sem.run_bind, Tryd.isAgg5, Result.andThen_ok, Bool.false_eq_true, if_false, e, Sem.run_pure]
theorem eq_go (xs ys : List Int) (d : Nat) (w : World) : ∀ (n k : Nat), k + n = xs.length → k + n = ys.length →
    (forIn (m := Sem) (List.range' k n) ((none, ()) : Option Bool × Unit) (fun i _ => do
      if (!(← Op.equalIn (d + 1) 5 (← part 5 (byV xs) (i * 1)) (← part 5 (byV ys) (i * 1)))) then pure (ForInStep.done (some false, ())) else pure (ForInStep.yield (none, ())))).run Tryd.prog w = .ok (if xs.drop k = ys.drop k then (none, ()) else (some false, ())) w := by
  intro n
  induction n with
  | zero =>
    intro k h1 h2
    rw [List.drop_eq_nil_of_le (by omega), List.drop_eq_nil_of_le (by omega)]
    simp
  | succ n ih =>
    intro k h1 h2
    have hx : k < xs.length := by omega
    have hy : k < ys.length := by omega
    simp only [List.range'_succ, List.forIn_cons, Sem.run_bind, part_by xs k _ (List.getElem?_eq_getElem hx), part_by ys k _ (List.getElem?_eq_getElem hy), Result.andThen_ok, run_equalIn_int w d 5 .u8 .u8 _ _ Tryd.underlying5]
    rw [List.drop_eq_getElem_cons hx, List.drop_eq_getElem_cons hy]
    by_cases h : xs[k] = ys[k]
    · have e : (xs[k] == ys[k]) = true := by simp [h]
      simp only [e, Bool.not_true, Bool.false_eq_true, if_false, Sem.run_pure, Result.andThen_ok]
      have := ih (k + 1) (by omega) (by omega)
      rw [this]
      by_cases h2 : xs.drop (k + 1) = ys.drop (k + 1)
      · rw [if_pos h2, if_pos (by rw [h, h2])]
      · rw [if_neg h2, if_neg (fun hh => h2 (List.cons.inj hh).2)]
    · have e : (xs[k] == ys[k]) = false := by simp [h]
      simp only [e, Bool.not_false, if_true, Sem.run_pure, Result.andThen_ok]
      rw [if_neg (fun hh => h (List.cons.inj hh).1)]
theorem eq_in (xs ys : List Int) (d : Nat) (hx : xs.length = 4096) (hy : ys.length = 4096) (w : World) :
    (Op.equalIn (d + 1 + 1) 152 (.agg (byV xs)) (.agg (byV ys))).run Tryd.prog w = .ok (decide (xs = ys)) w := by
  unfold Op.equalIn
  simp only [Sem.run_bind, run_underlying Tryd.underlying152, Result.andThen_ok, Tryd.sizeOf5]
  have h := eq_go xs ys d w 4096 0 (by omega) (by omega)
  have e : ∀ (f : Nat → Option Bool × Unit → Sem (ForInStep (Option Bool × Unit))), forIn [:4096] ((none, ()) : Option Bool × Unit) f = forIn (List.range' 0 4096) ((none, ()) : Option Bool × Unit) f := fun f => by
    first
    | rw [Std.Legacy.Range.forIn_eq_forIn_range']; rfl
    | rw [Std.Range.forIn_eq_forIn_range']; rfl
  rw [e, h]
  by_cases hq : xs = ys
  · simp [hq]
  · simp [hq]
theorem eq83 (xs ys : List Int) (hx : xs.length = 4096) (hy : ys.length = 4096) (w : World) :
    (Op.equal 152 (.agg (byV xs)) (.agg (byV ys))).run Tryd.prog w = .ok (decide (xs = ys)) w := eq_in xs ys 9998 hx hy w
theorem ex_neq {ρ : Operand → Value} {o : Oper} (x y : Operand) (ty : TypeId) (ho : o.op = .binOp .neq 152 x y ty) (xs ys : List Int) (hx : ρ x = .agg (byV xs)) (hy : ρ y = .agg (byV ys)) (h1 : xs.length = 4096) (h2 : ys.length = 4096) (w : World) :
    (execOp ρ o).run Tryd.prog w = .ok (.value (.bool (!decide (xs = ys)))) w := by
  simp only [execOp, ho, hx, hy, eqGuard, binOp, Sem.run_bind, eq83 xs ys h1 h2]
  simp [Sem.run_bind, run_program, Tryd.eqGuardType152]
theorem ex_eql {ρ : Operand → Value} {o : Oper} (x y : Operand) (ty : TypeId) (ho : o.op = .binOp .eql 152 x y ty) (xs ys : List Int) (hx : ρ x = .agg (byV xs)) (hy : ρ y = .agg (byV ys)) (h1 : xs.length = 4096) (h2 : ys.length = 4096) (w : World) :
    (execOp ρ o).run Tryd.prog w = .ok (.value (.bool (decide (xs = ys)))) w := by
  simp only [execOp, ho, hx, hy, eqGuard, binOp, Sem.run_bind, eq83 xs ys h1 h2]
  simp [Sem.run_bind, run_program, Tryd.eqGuardType152]
end Go.Proofs.YtbdjghokedfkfaaDoor
