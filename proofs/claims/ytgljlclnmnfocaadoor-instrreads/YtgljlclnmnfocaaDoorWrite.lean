/-
  The walks over fold and Svar.
-/
import Derived.Test.YtgljlclnmnfocaaDoorUvar
import Derived.Laws.AppendOwnNone
namespace Go.Proofs.YtgljlclnmnfocaaDoor
open Go.RowKit
set_option linter.unusedVariables false

/-- What 'append' onto a row of the call's own leaves below. -/
theorem own_below {w w' : World} {base : Nat} {v : Value} {n : Nat} {xs : List Value} (hown : w.ownsRow base 5 1 v n xs) (hg : w.grownBy w' v.ownBlock) (hbase : base ≤ w.heap.size) : Below base w w' := by
  refine ⟨hg.os, hg.tape, hg.output, hg.size, fun k hk => hg.block k (by omega) ?_⟩
  rcases hown.2 with ⟨rfl, _⟩ | ⟨g, cap, cur, rfl, hbg, _⟩
  · simp [Value.ownBlock]
  · simp [Value.ownBlock]; omega

/-- 'append(l, x...)', l a row of the call's own, x whatever slice of bytes. -/
theorem app_any (w : World) {ops : Array Oper} {rest : List Oper} {o : Oper} {a : Act} {Q : Exit → Act → World → Prop} (hgd : o.guard = none)
    (s x : Operand) (ho : o.op = Op.call { callee := Callee.builtin Builtin.append, args := #[s, x], argTypes := #[27, 27] }) (base : Nat) (v : Value) (n : Nat) (xs : List Int)
    (hs : a.eval s = v) (hown : w.ownsRow base 5 1 v n (xs.map (Value.int .u8))) (ao : Option Addr) (m c : Nat) (zs : List Int) (hx : a.eval x = .slice ao m c)
    (hseg : Seg w ao m c zs) (hnone : ao = none → c = 0) (hb : n + m ≤ 1099511627776) (hbase : base ≤ w.heap.size)
    (h : ∀ (v' : Value) (w' : World), w'.ownsRow base 5 1 v' (n + m) ((xs ++ zs).map (Value.int .u8)) → Below base w w' → wpList Tryd.prog ops Q rest (a.put o.dst v') w') :
    wpList Tryd.prog ops Q (o :: rest) a w := by
  obtain ⟨i0, hi, hz0, hz1, hz2⟩ := info_parts Tryd.info5
  cases ao with
  | none =>
    have hc := hnone rfl
    subst hc
    have hm : m = 0 := by have := hseg.2.1; omega
    subst hm
    have hzs : zs = [] := List.eq_nil_of_length_eq_zero hseg.1
    subst hzs
    refine wpList_append_own_none hgd s x 27 ho base 5 i0 1 Tryd.underlying27 hi v n _ hs hown hx ?_
    refine h v w ?_ (Below.refl _ _)
    simpa using hown
  | some ad =>
    refine wpList_append_own w hgd s x 27 ho base 5 i0 (.int .u8 0) 1 1 Tryd.underlying27 hi hz0 hz1 hz2 rfl (by decide) v n _ hs hown ad m c (zs.map (Value.int .u8)) hx (by simp [hseg.1])
      (seg_cells hseg ad rfl) (ints_one _) (by unfold maxLen; omega) (by omega) hbase ?_
    intro v' w' ho' hg _
    refine h v' w' ?_ (own_below hown hg hbase)
    rw [List.map_append]; exact ho'

/-- A row of the call's own as a slice of bytes. -/
theorem seg_of_own {w : World} {base : Nat} {v : Value} {n : Nat} {zs : List Int} (h : w.ownsRow base 5 1 v n (zs.map (Value.int .u8))) (hn : n ≤ 1099511627776) (hr : ∀ z ∈ zs, 0 ≤ z ∧ z ≤ 255) :
    ∃ a c, v = .slice a n c ∧ Seg w a n c zs ∧ (a = none → c = 0) := by
  have hl : zs.length = n := by have := h.1; simpa using this
  rcases h.2 with ⟨rfl, rfl⟩ | ⟨g, cap, cur, rfl, hbg, hh, hnc, _⟩
  · exact ⟨none, 0, rfl, ⟨hl, Nat.le_refl _, hn, hr, .inl rfl⟩, fun _ => rfl⟩
  · exact ⟨_, cap, rfl, seg_own h hl hn hr hnc, fun h => by cases h⟩

theorem xor_ones (x : Int) (h0 : 0 ≤ x) (h1 : x < 18446744073709551616) : bits .xor .u64 x 18446744073709551615 = 18446744073709551615 - x := by
  obtain ⟨a, rfl⟩ := Int.eq_ofNat_of_zero_le h0
  show IntKind.u64.wrap ((BitVec.ofInt 64 (a : Int) ^^^ BitVec.ofInt 64 18446744073709551615).toNat : Int) = _
  have e1 : BitVec.ofInt 64 18446744073709551615 = BitVec.allOnes 64 := by decide
  rw [e1, BitVec.xor_allOnes, BitVec.toNat_not, ofInt_u64 a (by omega), IntKind.wrap_u64]
  omega
theorem xor_none (x : Int) (h0 : 0 ≤ x) (h1 : x < 18446744073709551616) : bits .xor .u64 x 0 = x := by
  obtain ⟨a, rfl⟩ := Int.eq_ofNat_of_zero_le h0
  show IntKind.u64.wrap ((BitVec.ofInt 64 (a : Int) ^^^ BitVec.ofInt 64 0).toNat : Int) = _
  have e1 : BitVec.ofInt 64 0 = 0#64 := by decide
  rw [e1, BitVec.xor_zero, ofInt_u64 a (by omega), IntKind.wrap_u64]
  omega

theorem fo_pos (v : Int) (h : 0 ≤ v) (h1 : v < 9223372036854775808) : bits .xor .u64 (v * 2) (v / 9223372036854775808) = fo v := by
  have e : v / 9223372036854775808 = 0 := by omega
  rw [e, xor_none _ (by omega) (by omega)]
  unfold fo
  rw [if_neg (by omega)]; omega
theorem fo_neg (v : Int) (h : v < 0) (h0 : -9223372036854775808 ≤ v) : bits .xor .u64 (IntKind.u64.wrap (IntKind.u64.wrap v * 2)) (IntKind.u64.wrap (v / 9223372036854775808)) = fo v := by
  have e : v / 9223372036854775808 = -1 := by omega
  rw [e]
  have e1 : IntKind.u64.wrap (-1) = 18446744073709551615 := by decide
  have e2 : IntKind.u64.wrap (IntKind.u64.wrap v * 2) = 18446744073709551616 + 2 * v := by
    rw [IntKind.wrap_u64, IntKind.wrap_u64]; omega
  rw [e1, e2, xor_ones _ (by omega) (by omega)]
  unfold fo
  rw [if_pos h]; omega

set_option maxHeartbeats 400000 in
theorem fold25 (v : Int) (w : World) (h0 : -9223372036854775808 ≤ v) (h1 : v < 9223372036854775808) :
    Calls Tryd.prog 64 #[.int .i64 v] w fun e w' => e = .returned (.int .u64 (fo v)) ∧ w' = w := by
  by_cases h : 0 ≤ v
  · have HF := hid (fo_pos v h h1)
    go_enter Tryd.func64, Tryd.ntmps64
    go_wp2
    go_ret
    exact ⟨by rw [← HF.out]; rfl, rfl⟩
  · have HF := hid (fo_neg v (by omega) h0)
    go_enter Tryd.func64, Tryd.ntmps64
    go_wp2
    go_ret
    exact ⟨by rw [← HF.out]; rfl, rfl⟩

set_option maxHeartbeats 400000 in
/-- wire.Svar. -/
theorem svar19 (v : Int) (w : World) (h0 : -9223372036854775808 ≤ v) (h1 : v < 9223372036854775808) :
    Calls Tryd.prog 25 #[.int .i64 v] w fun e w' => e = .returned (.slice (some ⟨w.heap.size + 2, 0, none⟩) (uvar (fo v)).length (uvar (fo v)).length) ∧
      Seg w' (some ⟨w.heap.size + 2, 0, none⟩) (uvar (fo v)).length (uvar (fo v)).length (uvar (fo v)) ∧ Below w.heap.size w w' ∧ w.heap.size + 2 < w'.heap.size := by
  have hr := fo_range v h0 h1
  have HA := hid (fold25 v w h0 h1)
  have HB := hid (uvar17 (fo v) w hr.1 hr.2)
  clear hr
  generalize fo v = u at *
  generalize uvar u = l at *
  go_enter Tryd.func25, Tryd.ntmps25
  go_wp2_with fail
  refine HA.out.mono ?_
  rintro e w1 ⟨rfl, rfl⟩
  go_wp2_with fail
  refine HB.out.mono ?_
  rintro e w2 ⟨rfl, hs, hb, hz⟩
  go_wp2
  go_ret
  exact ⟨rfl, hs, hb, hz⟩
end Go.Proofs.YtgljlclnmnfocaaDoor
