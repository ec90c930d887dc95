/-
  Text De: texts behind bytes.
-/
import Derived.Test.YtheefojaplnnoaaGreatDoorC00
import Derived.Test.YtheefojaplnnoaaGreatDoorC05
import Derived.Test.YtheefojaplnnoaaGreatDoorC34
import Derived.Lib.AppendStr
set_option linter.unusedVariables false
set_option maxRecDepth 100000
set_option maxHeartbeats 16000000
namespace Go.Proofs.YtheefojaplnnoaaGreatDoor
open Go.RowKit
abbrev By8 (w : World) (base : Nat) (v : Value) (l : List UInt8) : Prop := w.ownsRow base 5 1 v l.length (l.map fun b => Value.int .u8 b.toNat)
theorem by8_nil (w : World) (base : Nat) : By8 w base (.slice none 0 0) [] := World.ownsRow_nil w base 5 1
theorem app8w (w : World) {o : Oper} {a : Act} {K : Act → World → Prop} {Q : Exit → Act → World → Prop} (sl x : Operand) (ho : o.op = Op.call { callee := Callee.builtin Builtin.append, args := #[sl, x], argTypes := #[63, 9] }) (base : Nat) (v : Value) (P : List UInt8) (s : ByteArray)
    (hs : a.eval sl = v) (hx : a.eval x = .string s) (hown : By8 w base v P) (hb : P.length + s.size ≤ 1099511627776) (hbase : base ≤ w.heap.size) (d : Option Tmp) (hd : o.dst = d)
    (h : ∀ (v' : Value) (w' : World), By8 w' base v' (P ++ s.data.toList) → Below base w w' → aP (fun k => some k = v.ownBlock) w w' → K (a.put d v') w') : o.wp Tryz.prog a w K Q := by
  subst hd
  obtain ⟨i0, hi, hz0, hz1, hz2⟩ := info_parts Tryz.info5
  obtain ⟨v', w', hr, h2, h3, h4⟩ := Lib.run_append_own_string (P := Tryz.prog) w base 63 9 o.type 5 i0 Tryz.underlying63 Tryz.underlying9 hi hz0 hz1 hz2 v P.length _ hown s (by unfold maxLen; omega) (by omega) hbase
  unfold Oper.wp execOp
  simp only [ho, resolve, invoke, builtin, Sem.run_bind, Sem.run_pure, Result.andThen_ok, List.map_toArray, List.map_cons, List.map_nil, hs, hx, hr]
  refine h v' w' ?_ (qR hown h3 hbase) (aP.of_grown h3)
  have e : (P ++ s.data.toList).length = P.length + s.size := by rw [List.length_append]; rfl
  unfold By8
  rw [e, List.map_append]
  exact h2
theorem app8 (w : World) {ops : Array Oper} {rest : List Oper} {o : Oper} {a : Act} {Q : Exit → Act → World → Prop} (hgd : o.guard = none) (sl x : Operand) (ho : o.op = Op.call { callee := Callee.builtin Builtin.append, args := #[sl, x], argTypes := #[63, 9] }) (base : Nat) (v : Value) (P : List UInt8) (s : ByteArray)
    (hs : a.eval sl = v) (hx : a.eval x = .string s) (hown : By8 w base v P) (hb : P.length + s.size ≤ 1099511627776) (hbase : base ≤ w.heap.size)
    (h : ∀ (v' : Value) (w' : World), By8 w' base v' (P ++ s.data.toList) → Below base w w' → aP (fun k => some k = v.ownBlock) w w' → wpList Tryz.prog ops Q rest (a.put o.dst v') w') : wpList Tryz.prog ops Q (o :: rest) a w :=
  wpList_plain hgd fun _ hK => app8w w sl x ho base v P s hs hx hown hb hbase o.dst rfl fun v' w' h2 h3 h4 => hK _ _ (h v' w' h2 h3 h4)
theorem by8_byt {w : World} {base : Nat} {v : Value} {l : List UInt8} (h : By8 w base v l) : Byt w base v (l.map fun b => (b.toNat : Int)) := by
  unfold Byt
  rw [List.length_map, List.map_map]
  exact h
theorem byt_by8 {w : World} {base : Nat} {v : Value} {l : List UInt8} (h : Byt w base v (l.map fun b => (b.toNat : Int))) : By8 w base v l := by
  unfold Byt at h
  rw [List.length_map, List.map_map] at h
  exact h
theorem conv8 {w : World} {base : Nat} {v : Value} {l : List UInt8} (h : By8 w base v l) (hl : l.length ≤ 1099511627776) : (convert 63 9 v).run Tryz.prog w = .ok (.string ⟨l.toArray⟩) w := by
  have hb := by8_byt h
  obtain ⟨a, c, rfl, hs, hn⟩ := xt hb (by rw [List.length_map]; omega) (fun z hz => by
    obtain ⟨b, -, rfl⟩ := List.mem_map.1 hz
    have := UInt8.toNat_lt b
    omega)
  rw [LU w a _ c _ hs]
  have e : strOfNums (l.map fun b => (b.toNat : Int)) = ⟨l.toArray⟩ := by
    unfold strOfNums
    rw [List.map_map]
    congr 2
    conv => rhs; rw [← List.map_id l]
    apply List.map_congr_left
    intro b _
    simp
  rw [e]
theorem blk8 {w w' : World} {base F t : Nat} {v : Value} {P : List UInt8} {cs : Array Value} (hF : w.heap[F]? = some (.cells cs t)) (ht : t ≠ 5) (hb : By8 w base v P) (hk : aP (fun k => some k = v.ownBlock) w w') : w'.heap[F]? = some (.cells cs t) := by
  refine (hk.block F ?_ (fun e => ?_)).trans hF
  · rcases Nat.lt_or_ge F w.heap.size with h | h
    · exact h
    · rw [Array.getElem?_eq_none h] at hF; cases hF
  · rcases hb.2 with ⟨h0, _⟩ | ⟨g, cp, cur, h1, h2, h3, _⟩
    · rw [h0] at e; cases e
    · rw [h1] at e
      have e : some F = some g := e
      injection e with e
      subst e
      rw [hF] at h3
      injection h3 with h3
      injection h3 with _ h4
      exact ht h4
end Go.Proofs.YtheefojaplnnoaaGreatDoor
