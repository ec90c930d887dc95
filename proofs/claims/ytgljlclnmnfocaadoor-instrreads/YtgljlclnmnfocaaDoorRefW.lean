/-
  The walks over the document's own Uvar, Svar and Text: the same bytes.
-/
import Derived.Test.YtgljlclnmnfocaaDoorWrite
import Derived.Test.YtgljlclnmnfocaaDoorHeap
import Derived.Deep.AppendSrc
namespace Go.Proofs.YtgljlclnmnfocaaDoor
open Go.RowKit
set_option linter.unusedVariables false

/-- One byte more onto a row of the call's own. -/
theorem app_byte (w : World) {ops : Array Oper} {rest : List Oper} {o : Oper} {a : Act} {Q : Exit → Act → World → Prop} (hgd : o.guard = none)
    (s x : Operand) (ho : o.op = Op.call { callee := Callee.builtin Builtin.append, args := #[s, x], argTypes := #[27, 27] }) (base : Nat) (v : Value) (n : Nat) (xs : List Int)
    (hs : a.eval s = v) (hown : w.ownsRow base 5 1 v n (xs.map (Value.int .u8))) (ad : Addr) (z : Int) (hx : a.eval x = .slice (some ad) 1 1) (hu : w.cell? (ad.add 0) = some (.int .u8 z)) (hb : n + 1 ≤ 1099511627776) (hbase : base ≤ w.heap.size)
    (h : ∀ (v' : Value) (w' : World), w'.ownsRow base 5 1 v' (n + 1) ((xs ++ [z]).map (Value.int .u8)) → Below base w w' → wpList Tryd.prog ops Q rest (a.put o.dst v') w') :
    wpList Tryd.prog ops Q (o :: rest) a w := by
  obtain ⟨i0, hi, hz0, hz1, hz2⟩ := info_parts Tryd.info5
  refine wpList_append_own w hgd s x 27 ho base 5 i0 (.int .u8 0) 1 1 Tryd.underlying27 hi hz0 hz1 hz2 rfl (by decide) v n _ hs hown ad 1 1 [.int .u8 z] hx rfl ?_ ?_ (by unfold maxLen; omega) (by omega) hbase ?_
  · intro j u hj
    match j, hj with
    | 0, hj => simp at hj; subst hj; exact hu
    | j + 1, hj => simp at hj
  · intro u hu; simp at hu; subst hu; rfl
  · intro v' w' ho' hg _
    refine h v' w' ?_ (own_below hown hg hbase)
    rw [List.map_append]; exact ho'

set_option maxHeartbeats 1000000 in
theorem ruvar10 (v : Int) (w : World) (h0 : 0 ≤ v) (h1 : v < 18446744073709551616) :
    Calls Tryd.prog 29 #[.int .u64 v] w fun e w' => ∃ y, e = .returned y ∧ w'.ownsRow w.heap.size 5 1 y (uvar v).length ((uvar v).map (Value.int .u8)) ∧ Below w.heap.size w w' := by
  go_enter Tryd.func29, Tryd.ntmps29
  go_wp2_with fail
  go_loopw [0, 3] (fun x l wr => ∃ (k : Nat) (V : Int) (pre : List Int), k ≤ 9 ∧ x = .int .u64 V ∧ pre.length = k ∧ 0 ≤ V ∧ V < 18446744073709551616 ∧ V * 128 ^ k < 18446744073709551616 ∧ uvar v = pre ++ uv (9 - k) V ∧ wr.ownsRow w.heap.size 5 1 l k (pre.map (Value.int .u8)) ∧ Below w.heap.size w wr) (fun x _ _ => (intOf x).toNat)
  case atStart => exact ⟨0, v, [], by omega, rfl, rfl, h0, h1, by simpa using h1, rfl, World.ownsRow_nil _ _ _ _, Below.refl _ _⟩
  case round =>
    obtain ⟨k, V, pre, hk, rfl, hpl, hV0, hV1, hroom, huv, hown, hb⟩ := hrel
    have HU := hid huv
    have HP := hid hpl
    have HR := hid hroom
    have HO := hid hown
    have HB := hid hb
    clear huv hpl hroom hown hb
    by_cases h128 : 128 ≤ V
    · have hk8 := room_end V k HR.out hk h128
      have HN := hid (show uvar v = (pre ++ [V % 128 + 128]) ++ uv (9 - (k + 1)) (V / 128) by
        rw [HU.out, show 9 - k = 9 - (k + 1) + 1 by omega]
        have hn : ¬ V < 128 := by omega
        simp [uv, hn])
      go_wp2_with (first
        | (at_builtin; refine app_byte _ rfl (.tmp 6) (.tmp 11) rfl w.heap.size _ k pre rfl (HO.out.alloc _) ⟨wr.heap.size, 0, none⟩ (V % 128 + 128) rfl (by simp [Addr.add]) (by omega) (by have := HB.out.size; simp; omega) ?_; intro v' w2 hown2 hb2; have O2 := hid hown2; have B2 := hid ((HB.out.alloc HB.out.size _).trans hb2); clear hown2 hb2))
      exact ⟨⟨k + 1, V / 128, pre ++ [V % 128 + 128], by omega, rfl, by simp [HP.out], by omega, by omega, room_up V k HR.out hV0, HN.out, O2.out, B2.out⟩, by simp [intOf]; omega⟩
    · have HF := hid (show uvar v = pre ++ [V] by
        rw [HU.out]
        cases h9 : 9 - k with
        | zero => rfl
        | succ f =>
          have hn : V < 128 := by omega
          simp [uv, hn])
      have HLn := hid (show (uvar v).length = k + 1 by rw [HF.out]; simp [HP.out])
      go_wp2_with (first
        | (at_builtin; refine app_byte _ rfl (.tmp 15) (.tmp 18) rfl w.heap.size _ k pre rfl (HO.out.alloc _) ⟨wr.heap.size, 0, none⟩ V rfl (by simp [Addr.add]) (by omega) (by have := HB.out.size; simp; omega) ?_; intro v' w2 hown2 hb2; have O2 := hid hown2; have B2 := hid ((HB.out.alloc HB.out.size _).trans hb2); clear hown2 hb2))
      go_ret
      refine ⟨v', rfl, ?_, B2.out⟩
      rw [HLn.out, HF.out]
      exact O2.out

theorem uv_range (f : Nat) : ∀ v, 0 ≤ v → v < 128 ^ (f + 1) → ∀ z ∈ uv f v, 0 ≤ z ∧ z ≤ 255 := by
  induction f with
  | zero => intro v h0 h1 z hz; simp [uv] at hz; simp at h1; omega
  | succ f ih =>
    intro v h0 h1 z hz
    by_cases h : v < 128
    · simp [uv, h] at hz; omega
    · simp only [uv, h, if_false, List.mem_cons] at hz
      rcases hz with rfl | hz
      · omega
      · refine ih (v / 128) (by omega) ?_ z hz
        have hs : (128 : Int) ^ (f + 1 + 1) = 128 ^ (f + 1) * 128 := Int.pow_succ _ _
        rw [hs] at h1
        omega
theorem uvar_range (v : Int) (h0 : 0 ≤ v) (h1 : v < 18446744073709551616) : ∀ z ∈ uvar v, 0 ≤ z ∧ z ≤ 255 := by
  refine uv_range 9 v h0 (Int.lt_trans h1 (by decide))

set_option maxHeartbeats 400000 in
theorem folded18 (v : Int) (w : World) (h0 : -9223372036854775808 ≤ v) (h1 : v < 9223372036854775808) :
    Calls Tryd.prog 66 #[.int .i64 v] w fun e w' => e = .returned (.int .u64 (fo v)) ∧ w' = w := by
  by_cases h : v < 0
  · have HF := hid (show 2 * -(v + 1) + 1 = fo v by unfold fo; rw [if_pos h]; omega)
    go_enter Tryd.func66, Tryd.ntmps66
    go_wp2
    go_ret
    exact ⟨by rw [← HF.out]; rfl, rfl⟩
  · have HF := hid (show 2 * v = fo v by unfold fo; rw [if_neg h])
    go_enter Tryd.func66, Tryd.ntmps66
    go_wp2
    go_ret
    exact ⟨by rw [← HF.out]; rfl, rfl⟩

set_option maxHeartbeats 400000 in
theorem rsvar11 (v : Int) (w : World) (h0 : -9223372036854775808 ≤ v) (h1 : v < 9223372036854775808) :
    Calls Tryd.prog 28 #[.int .i64 v] w fun e w' => ∃ y, e = .returned y ∧ w'.ownsRow w.heap.size 5 1 y (uvar (fo v)).length ((uvar (fo v)).map (Value.int .u8)) ∧ Below w.heap.size w w' := by
  have hr := fo_range v h0 h1
  have HA := hid (folded18 v w h0 h1)
  have HB := hid (ruvar10 (fo v) w hr.1 hr.2)
  clear hr
  generalize fo v = u at *
  generalize uvar u = l at *
  go_enter Tryd.func28, Tryd.ntmps28
  go_wp2_with fail
  refine HA.out.mono ?_
  rintro e w1 ⟨rfl, rfl⟩
  go_wp2_with fail
  refine HB.out.mono ?_
  rintro e w2 ⟨y, rfl, hs, hb⟩
  go_wp2
  go_ret
  exact ⟨y, rfl, hs, hb⟩
end Go.Proofs.YtgljlclnmnfocaaDoor
