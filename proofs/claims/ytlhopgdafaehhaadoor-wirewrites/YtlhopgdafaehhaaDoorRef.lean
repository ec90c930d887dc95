/-
  The walks over the document's own Uvar, Svar and Text: the same bytes.
-/
import Derived.Test.YtlhopgdafaehhaaDoorWrite
import Derived.Test.YtlhopgdafaehhaaDoorHeap
import Derived.Deep.AppendSrc
namespace Go.Proofs.YtlhopgdafaehhaaDoor
open Go.RowKit
set_option linter.unusedVariables false

/-- One byte more onto a row of the call's own. -/
theorem app_byte (w : World) {ops : Array Oper} {rest : List Oper} {o : Oper} {a : Act} {Q : Exit → Act → World → Prop} (hgd : o.guard = none)
    (s x : Operand) (ho : o.op = Op.call { callee := Callee.builtin Builtin.append, args := #[s, x], argTypes := #[24, 24] }) (base : Nat) (v : Value) (n : Nat) (xs : List Int)
    (hs : a.eval s = v) (hown : w.ownsRow base 5 1 v n (xs.map (Value.int .u8))) (ad : Addr) (z : Int) (hx : a.eval x = .slice (some ad) 1 1) (hu : w.cell? (ad.add 0) = some (.int .u8 z)) (hb : n + 1 ≤ 1099511627776) (hbase : base ≤ w.heap.size)
    (h : ∀ (v' : Value) (w' : World), w'.ownsRow base 5 1 v' (n + 1) ((xs ++ [z]).map (Value.int .u8)) → Below base w w' → wpList Tryd.prog ops Q rest (a.put o.dst v') w') :
    wpList Tryd.prog ops Q (o :: rest) a w := by
  obtain ⟨i0, hi, hz0, hz1, hz2⟩ := info_parts Tryd.info5
  refine wpList_append_own w hgd s x 24 ho base 5 i0 (.int .u8 0) 1 1 Tryd.underlying24 hi hz0 hz1 hz2 rfl (by decide) v n _ hs hown ad 1 1 [.int .u8 z] hx rfl ?_ ?_ (by unfold maxLen; omega) (by omega) hbase ?_
  · intro j u hj
    match j, hj with
    | 0, hj => simp at hj; subst hj; exact hu
    | j + 1, hj => simp at hj
  · intro u hu; simp at hu; subst hu; rfl
  · intro v' w' ho' hg _
    refine h v' w' ?_ (own_below hown hg hbase)
    rw [List.map_append]; exact ho'

set_option maxHeartbeats 1000000 in
theorem ruvar10 (v : Int) (w : World) (h0 : 0 ≤ v) (h1 : v < 18446744073709551616) :
    Calls Tryd.prog 10 #[.int .u64 v] w fun e w' => ∃ y, e = .returned y ∧ w'.ownsRow w.heap.size 5 1 y (uvar v).length ((uvar v).map (Value.int .u8)) ∧ Below w.heap.size w w' := by
  go_enter Tryd.func10, Tryd.ntmps10
  go_wp2_with fail
  go_loopw [0, 3] (fun x l wr => ∃ (k : Nat) (V : Int) (pre : List Int), k ≤ 9 ∧ x = .int .u64 V ∧ pre.length = k ∧ 0 ≤ V ∧ V < 18446744073709551616 ∧ V * 128 ^ k < 18446744073709551616 ∧ uvar v = pre ++ uv (9 - k) V ∧ wr.ownsRow w.heap.size 5 1 l k (pre.map (Value.int .u8)) ∧ Below w.heap.size w wr) (fun x _ _ => (intOf x).toNat)
  case atStart => exact ⟨0, v, [], by omega, rfl, rfl, h0, h1, by simpa using h1, rfl, World.ownsRow_nil _ _ _ _, Below.refl _ _⟩
  case round =>
    obtain ⟨k, V, pre, hk, rfl, hpl, hV0, hV1, hroom, huv, hown, hb⟩ := hrel
    have HU := hid huv
    have HP := hid hpl
    have HR := hid hroom
    have HO := hid hown
    have HB := hid hb
    clear huv hpl hroom hown hb
    by_cases h128 : 128 ≤ V
    · have hk8 := room_end V k HR.out hk h128
      have HN := hid (show uvar v = (pre ++ [V % 128 + 128]) ++ uv (9 - (k + 1)) (V / 128) by
        rw [HU.out, show 9 - k = 9 - (k + 1) + 1 by omega]
        have hn : ¬ V < 128 := by omega
        simp [uv, hn])
      go_wp2_with (first
        | (at_builtin; refine app_byte _ rfl (.tmp 6) (.tmp 11) rfl w.heap.size _ k pre rfl (HO.out.alloc _) ⟨wr.heap.size, 0, none⟩ (V % 128 + 128) rfl (by simp [Addr.add]) (by omega) (by have := HB.out.size; simp; omega) ?_; intro v' w2 hown2 hb2; have O2 := hid hown2; have B2 := hid ((HB.out.alloc HB.out.size _).trans hb2); clear hown2 hb2))
      exact ⟨⟨k + 1, V / 128, pre ++ [V % 128 + 128], by omega, rfl, by simp [HP.out], by omega, by omega, room_up V k HR.out hV0, HN.out, O2.out, B2.out⟩, by simp [intOf]; omega⟩
    · have HF := hid (show uvar v = pre ++ [V] by
        rw [HU.out]
        cases h9 : 9 - k with
        | zero => rfl
        | succ f =>
          have hn : V < 128 := by omega
          simp [uv, hn])
      have HLn := hid (show (uvar v).length = k + 1 by rw [HF.out]; simp [HP.out])
      go_wp2_with (first
        | (at_builtin; refine app_byte _ rfl (.tmp 15) (.tmp 18) rfl w.heap.size _ k pre rfl (HO.out.alloc _) ⟨wr.heap.size, 0, none⟩ V rfl (by simp [Addr.add]) (by omega) (by have := HB.out.size; simp; omega) ?_; intro v' w2 hown2 hb2; have O2 := hid hown2; have B2 := hid ((HB.out.alloc HB.out.size _).trans hb2); clear hown2 hb2))
      go_ret
      refine ⟨v', rfl, ?_, B2.out⟩
      rw [HLn.out, HF.out]
      exact O2.out

theorem below_setCells {B b : Nat} {w : World} (hB : B ≤ b) : ∀ (vs : List Value) (o : Nat) (w1 : World), Below B w w1 → Below B w (w1.setCells b o vs)
  | [], _, _, h => h
  | v :: r, o, w1, h => below_setCells hB r (o + 1) _ (h.setCell (by simpa using hB) v)

theorem byteCells_eq (s : ByteArray) : byteCells s = (strBytes s).map (Value.int .u8) := by
  unfold byteCells strBytes
  rw [List.map_map]
  rfl

/-- 'append(l, s...)', l a row of the call's own, s a text. -/
theorem app_str (w : World) (base g n cap : Nat) (l : List Int) (s : ByteArray) (hown : w.ownsRow base 5 1 (.slice (some ⟨g, 0, none⟩) n cap) n (l.map (Value.int .u8))) (hbase : base ≤ w.heap.size)
    (hr : ∀ z ∈ l, 0 ≤ z ∧ z ≤ 255) (hn : n ≤ 1000) (hs : s.size ≤ 2000000) :
    ∃ a c W, (∀ ty, (Builtin.append_ #[24, 9] ty #[.slice (some ⟨g, 0, none⟩) n cap, .string s]).run Tryd.prog w = .ok (.slice a (n + s.size) c) W) ∧ Seg W a (n + s.size) c (l ++ strBytes s) ∧ Below base w W := by
  obtain ⟨i0, hi, hz0, hz1, hz2⟩ := info_parts Tryd.info5
  have hll : l.length = n := by have := hown.1; simpa using this
  have hsrc := Src.ofString (P := Tryd.prog) w (tx := 9) Tryd.underlying9 s
  have hsrc' : Src Tryd.prog i0.size 9 (.string s) s.size (byteCells s) w := by rw [hz1]; exact hsrc
  have hbl := byteCells_length s
  have hlen : (l ++ strBytes s).length = n + s.size := by rw [List.length_append, strBytes_len, hll]
  have hrr : ∀ z ∈ l ++ strBytes s, 0 ≤ z ∧ z ≤ 255 := by
    intro z hz
    rcases List.mem_append.1 hz with hz | hz
    · exact hr z hz
    · exact strBytes_range s z hz
  obtain ⟨hbg, cur, hh, hnc, hcm, hcs⟩ : base ≤ g ∧ ∃ cur, w.heap[g]? = some (.cells cur 5) ∧ n ≤ cap ∧ cap ≤ maxLen ∧ cur.size = cap := by
    rcases hown.2 with ⟨h, _⟩ | ⟨g', cp, cur, h1, h2, h3, h4, h5, h6, _⟩
    · cases h
    · simp at h1
      obtain ⟨rfl, rfl⟩ := h1
      exact ⟨h2, cur, h3, h4, h5, by simpa using h6⟩
  by_cases hroom : n + s.size ≤ cap
  · have hsome : ∀ j, j < (byteCells s).length → (w.cell? ⟨g, n + j, none⟩).isSome = true := by
      intro j hj
      rw [cell_of_row w g (n + j) cur 5 (0, 0) hh, Array.getElem?_eq_getElem (by omega)]; rfl
    have hrun := fun ty => run_append_room_src w 24 9 ty 5 i0 Tryd.underlying24 hi g 0 n cap (.string s) s.size (byteCells s) hsrc' hroom
      (by intro j hj; rw [hz1, Nat.zero_add, Nat.mul_one]; exact hsome j hj)
      (by intro j hj; rw [hz1, Nat.zero_add, Nat.mul_one]; exact World.ownsRow.frozenAt hown (n + j))
    simp only [hz1, Nat.zero_add, Nat.mul_one] at hrun
    refine ⟨_, _, _, hrun, ⟨hlen, hroom, by omega, hrr, .inr ⟨g, 0, rfl, fun j hj => ?_⟩⟩, below_setCells hbg _ _ _ (Below.refl _ _)⟩
    rw [Nat.zero_add]
    by_cases hjn : j < n
    · rw [World.cell?_setCells_out g (byteCells s) n w ⟨g, j, none⟩ (fun _ _ => .inl hjn), World.ownsRow.cellAt hown j (by omega)]
      have h1 : j < l.length := by omega
      simp [List.getElem?_append_left h1, h1]
    · have h1 := World.cell?_setCells_in g (byteCells s) n w hsome (j - n) (by omega)
      rw [show n + (j - n) = j by omega] at h1
      rw [h1]
      have h2 : j - n < (strBytes s).length := by rw [strBytes_len]; omega
      have h3 : (byteCells s)[j - n]'(by omega) = .int .u8 ((strBytes s)[j - n]'h2) := by
        simp only [byteCells_eq, List.getElem_map]
      have h4 : (l ++ strBytes s).getD j 0 = (strBytes s)[j - n]'h2 := by
        rw [List.getD_eq_getElem?_getD, List.getElem?_append_right (by omega), hll, List.getElem?_eq_getElem h2, Option.getD_some]
      rw [h3, h4]
  · have hold : (Builtin.firstCells i0.size n (.slice (some ⟨g, 0, none⟩) n cap)).run Tryd.prog w.drew = .ok (l.map (Value.int .u8)).toArray w.drew := by
      refine run_firstCells_some w.drew i0.size n ⟨g, 0, none⟩ n cap _ (by rw [hz1]; simpa using hll) ?_
      intro j v hj
      have hplain : (⟨g, 0, none⟩ : Addr).add j = ⟨g, j, none⟩ := by unfold Addr.add; split <;> simp_all
      have hj' : j < (l.map (Value.int .u8)).length := by
        rcases Nat.lt_or_ge j (l.map (Value.int .u8)).length with h | h
        · exact h
        · rw [List.getElem?_eq_none h] at hj; cases hj
      have : w.cell? ⟨g, j, none⟩ = some v := (World.ownsRow.cellAt hown j (by simp at hj'; omega)).trans hj
      rw [hplain]
      exact this
    have hfit : Builtin.nextslicecap (n + s.size) cap * i0.bytes ≤ 281474976710656 := by
      have := nextslicecap_le (need := n + s.size) (old := cap) (by omega)
      rw [hz2]; omega
    have hrun := fun ty => run_append_grow_src w 24 9 ty 5 i0 (.int .u8 0) Tryd.underlying24 hi hz0 (some ⟨g, 0, none⟩) n cap _ hold (.string s) s.size (byteCells s) hsrc' (by omega) (by omega) hfit
    refine ⟨_, _, _, hrun, ⟨hlen, grownCap_ge _ _ _ _, by omega, hrr, .inr ⟨w.heap.size, 0, rfl, fun j hj => ?_⟩⟩, ((Below.refl _ _).drew).alloc (by simpa using hbase) _⟩
    rw [Nat.zero_add]
    refine (World.cell?_alloc_mark w.drew _ _ _ j).trans ?_
    have h1 : j < (l ++ strBytes s).length := by omega
    have h2 : (l.map (Value.int .u8) ++ byteCells s) = (l ++ strBytes s).map (Value.int .u8) := by rw [byteCells_eq, List.map_append]
    rw [h2, Array.getElem?_append_left (by simpa using h1)]
    simp only [List.getElem?_toArray, List.getElem?_map, List.getElem?_eq_getElem h1, Option.map_some, List.getD_eq_getElem?_getD, Option.getD_some]

/-- A built-in append whose run is known. -/
theorem wpList_append_run {P : Program} (w : World) {ops : Array Oper} {rest : List Oper} {o : Oper} {a : Act} {Q : Exit → Act → World → Prop} (hg : o.guard = none)
    (s x : Operand) (t tx : TypeId) (hop : o.op = Op.call { callee := Callee.builtin Builtin.append, args := #[s, x], argTypes := #[t, tx] }) (vs vx v' : Value) (w' : World) (hs : a.eval s = vs) (hx : a.eval x = vx)
    (hrun : ∀ ty, (Builtin.append_ #[t, tx] ty #[vs, vx]).run P w = .ok v' w') (hK : wpList P ops Q rest (a.put o.dst v') w') : wpList P ops Q (o :: rest) a w := by
  refine wpList_plain hg fun K hK' => ?_
  unfold Oper.wp
  simp [execOp, hop, resolve, invoke, builtin, hs, hx, hrun, Result.andThen]
  exact hK' _ _ hK

theorem uv_range (f : Nat) : ∀ v, 0 ≤ v → v < 128 ^ (f + 1) → ∀ z ∈ uv f v, 0 ≤ z ∧ z ≤ 255 := by
  induction f with
  | zero => intro v h0 h1 z hz; simp [uv] at hz; simp at h1; omega
  | succ f ih =>
    intro v h0 h1 z hz
    by_cases h : v < 128
    · simp [uv, h] at hz; omega
    · simp only [uv, h, if_false, List.mem_cons] at hz
      rcases hz with rfl | hz
      · omega
      · refine ih (v / 128) (by omega) ?_ z hz
        have hs : (128 : Int) ^ (f + 1 + 1) = 128 ^ (f + 1) * 128 := Int.pow_succ _ _
        rw [hs] at h1
        omega
theorem uvar_range (v : Int) (h0 : 0 ≤ v) (h1 : v < 18446744073709551616) : ∀ z ∈ uvar v, 0 ≤ z ∧ z ≤ 255 := by
  refine uv_range 9 v h0 (Int.lt_trans h1 (by decide))

set_option maxRecDepth 100000 in
set_option maxHeartbeats 1000000 in
theorem rtext12 (s : ByteArray) (w : World) (hs : s.size ≤ 2000000) :
    Calls Tryd.prog 12 #[.string s] w fun e w' => ∃ a c, e = .returned (.slice a ((uvar s.size).length + s.size) c) ∧ Seg w' a ((uvar s.size).length + s.size) c (uvar s.size ++ strBytes s) ∧ Below w.heap.size w w' := by
  have HB := hid (ruvar10 s.size w (by omega) (by omega))
  have hl := uvar_len s.size
  have hr := uvar_range s.size (by omega) (by omega)
  generalize uvar s.size = l at *
  go_enter Tryd.func12, Tryd.ntmps12
  go_wp2_with fail
  refine HB.out.mono ?_
  rintro e w1 ⟨y, rfl, hs1, hb1⟩
  obtain ⟨g, cap, rfl⟩ : ∃ g cap, y = .slice (some ⟨g, 0, none⟩) l.length cap := by
    rcases hs1.2 with ⟨_, h⟩ | ⟨g, cap, cur, h, _⟩
    · omega
    · exact ⟨g, cap, h⟩
  obtain ⟨a, c, W, hrun, hsg, hbl⟩ := app_str w1 w.heap.size g l.length cap l s hs1 hb1.size hr (by omega) hs
  have HB1 := hid hb1
  have HSG := hid hsg
  have HBL := hid hbl
  have HR := hid hrun
  clear hs1 hb1 hr HB hsg hbl hrun
  go_wp2_with (at_builtin; refine wpList_append_run _ rfl (.tmp 8) (.tmp 9) 24 9 rfl _ _ _ _ rfl rfl HR.out ?_)
  go_ret
  exact ⟨a, c, rfl, HSG.out, HB1.out.trans HBL.out⟩

set_option maxHeartbeats 400000 in
theorem folded18 (v : Int) (w : World) (h0 : -9223372036854775808 ≤ v) (h1 : v < 9223372036854775808) :
    Calls Tryd.prog 18 #[.int .i64 v] w fun e w' => e = .returned (.int .u64 (fo v)) ∧ w' = w := by
  by_cases h : v < 0
  · have HF := hid (show 2 * -(v + 1) + 1 = fo v by unfold fo; rw [if_pos h]; omega)
    go_enter Tryd.func18, Tryd.ntmps18
    go_wp2
    go_ret
    exact ⟨by rw [← HF.out]; rfl, rfl⟩
  · have HF := hid (show 2 * v = fo v by unfold fo; rw [if_neg h])
    go_enter Tryd.func18, Tryd.ntmps18
    go_wp2
    go_ret
    exact ⟨by rw [← HF.out]; rfl, rfl⟩

set_option maxHeartbeats 400000 in
theorem rsvar11 (v : Int) (w : World) (h0 : -9223372036854775808 ≤ v) (h1 : v < 9223372036854775808) :
    Calls Tryd.prog 11 #[.int .i64 v] w fun e w' => ∃ y, e = .returned y ∧ w'.ownsRow w.heap.size 5 1 y (uvar (fo v)).length ((uvar (fo v)).map (Value.int .u8)) ∧ Below w.heap.size w w' := by
  have hr := fo_range v h0 h1
  have HA := hid (folded18 v w h0 h1)
  have HB := hid (ruvar10 (fo v) w hr.1 hr.2)
  clear hr
  generalize fo v = u at *
  generalize uvar u = l at *
  go_enter Tryd.func11, Tryd.ntmps11
  go_wp2_with fail
  refine HA.out.mono ?_
  rintro e w1 ⟨rfl, rfl⟩
  go_wp2_with fail
  refine HB.out.mono ?_
  rintro e w2 ⟨y, rfl, hs, hb⟩
  go_wp2
  go_ret
  exact ⟨y, rfl, hs, hb⟩
end Go.Proofs.YtlhopgdafaehhaaDoor
