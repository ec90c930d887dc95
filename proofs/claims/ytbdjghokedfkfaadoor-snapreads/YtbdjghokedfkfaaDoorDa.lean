/-
  The document's Write, begun: a number's bytes, lists of numbers, noughts.
-/
import Derived.Test.YtbdjghokedfkfaaDoorPh
namespace Go.Proofs.YtbdjghokedfkfaaDoor
open Go.RowKit
set_option linter.unusedVariables false
set_option maxRecDepth 100000

/-- One byte more onto a row of the call's own. -/
theorem app_byte (w : World) {ops : Array Oper} {rest : List Oper} {o : Oper} {a : Act} {Q : Exit → Act → World → Prop} (hgd : o.guard = none)
    (s x : Operand) (ho : o.op = Op.call { callee := Callee.builtin Builtin.append, args := #[s, x], argTypes := #[31, 31] }) (base : Nat) (v : Value) (n : Nat) (xs : List Int)
    (hs : a.eval s = v) (hown : w.ownsRow base 5 1 v n (xs.map (Value.int .u8))) (ad : Addr) (z : Int) (hx : a.eval x = .slice (some ad) 1 1) (hu : w.cell? (ad.add 0) = some (.int .u8 z)) (hb : n + 1 ≤ 1099511627776) (hbase : base ≤ w.heap.size)
    (h : ∀ (v' : Value) (w' : World), w'.ownsRow base 5 1 v' (n + 1) ((xs ++ [z]).map (Value.int .u8)) → Below base w w' → wpList Tryd.prog ops Q rest (a.put o.dst v') w') :
    wpList Tryd.prog ops Q (o :: rest) a w := by
  obtain ⟨i0, hi, hz0, hz1, hz2⟩ := info_parts Tryd.info5
  refine wpList_append_own w hgd s x 31 ho base 5 i0 (.int .u8 0) 1 1 Tryd.underlying31 hi hz0 hz1 hz2 rfl (by decide) v n _ hs hown ad 1 1 [.int .u8 z] hx rfl ?_ ?_ (by unfold maxLen; omega) (by omega) hbase ?_
  · intro j u hj
    match j, hj with
    | 0, hj => simp at hj; subst hj; exact hu
    | j + 1, hj => simp at hj
  · intro u hu; simp at hu; subst hu; rfl
  · intro v' w' ho' hg _
    refine h v' w' ?_ (own_below hown hg hbase)
    rw [List.map_append]; exact ho'

set_option maxHeartbeats 1000000 in
theorem ruvar74 (v : Int) (w : World) (h0 : 0 ≤ v) (h1 : v < 18446744073709551616) :
    Calls Tryd.prog 74 #[.int .u64 v] w fun e w' => ∃ y, e = .returned y ∧ w'.ownsRow w.heap.size 5 1 y (uvar v).length ((uvar v).map (Value.int .u8)) ∧ Below w.heap.size w w' := by
  go_enter Tryd.func74, Tryd.ntmps74
  go_wp2_with fail
  go_loopw [0, 3] (fun x l wr => ∃ (k : Nat) (V : Int) (pre : List Int), k ≤ 9 ∧ x = .int .u64 V ∧ pre.length = k ∧ 0 ≤ V ∧ V < 18446744073709551616 ∧ V * 128 ^ k < 18446744073709551616 ∧ uvar v = pre ++ uv (9 - k) V ∧ wr.ownsRow w.heap.size 5 1 l k (pre.map (Value.int .u8)) ∧ Below w.heap.size w wr) (fun x _ _ => (intOf x).toNat)
  case atStart => exact ⟨0, v, [], by omega, rfl, rfl, h0, h1, by simpa using h1, rfl, World.ownsRow_nil _ _ _ _, Below.refl _ _⟩
  case round =>
    obtain ⟨k, V, pre, hk, rfl, hpl, hV0, hV1, hroom, huv, hown, hb⟩ := hrel
    have HU := hid huv
    have HP := hid hpl
    have HR := hid hroom
    have HO := hid hown
    have HB := hid hb
    clear huv hpl hroom hown hb
    by_cases h128 : 128 ≤ V
    · have hk8 := room_end V k HR.out hk h128
      have HN := hid (show uvar v = (pre ++ [V % 128 + 128]) ++ uv (9 - (k + 1)) (V / 128) by
        rw [HU.out, show 9 - k = 9 - (k + 1) + 1 by omega]
        have hn : ¬ V < 128 := by omega
        simp [uv, hn])
      go_wp2_with (first
        | (at_builtin; refine app_byte _ rfl (.tmp 6) (.tmp 11) rfl w.heap.size _ k pre rfl (HO.out.alloc _) ⟨wr.heap.size, 0, none⟩ (V % 128 + 128) rfl (by simp [Addr.add]) (by omega) (by have := HB.out.size; simp; omega) ?_; intro v' w2 hown2 hb2; have O2 := hid hown2; have B2 := hid ((HB.out.alloc HB.out.size _).trans hb2); clear hown2 hb2))
      exact ⟨⟨k + 1, V / 128, pre ++ [V % 128 + 128], by omega, rfl, by simp [HP.out], by omega, by omega, room_up V k HR.out hV0, HN.out, O2.out, B2.out⟩, by simp [intOf]; omega⟩
    · have HF := hid (show uvar v = pre ++ [V] by
        rw [HU.out]
        cases h9 : 9 - k with
        | zero => rfl
        | succ f =>
          have hn : V < 128 := by omega
          simp [uv, hn])
      have HLn := hid (show (uvar v).length = k + 1 by rw [HF.out]; simp [HP.out])
      go_wp2_with (first
        | (at_builtin; refine app_byte _ rfl (.tmp 15) (.tmp 18) rfl w.heap.size _ k pre rfl (HO.out.alloc _) ⟨wr.heap.size, 0, none⟩ V rfl (by simp [Addr.add]) (by omega) (by have := HB.out.size; simp; omega) ?_; intro v' w2 hown2 hb2; have O2 := hid hown2; have B2 := hid ((HB.out.alloc HB.out.size _).trans hb2); clear hown2 hb2))
      go_ret
      refine ⟨v', rfl, ?_, B2.out⟩
      rw [HLn.out, HF.out]
      exact O2.out
/-- All nought? -/
def allZ (l : List Int) : Bool := l.all (fun z => z == 0)
set_option maxHeartbeats 1000000 in
theorem nou29 (a : Option Addr) (n c : Nat) (l : List Int) (w : World) (h : SI .u8 w a n l) (hn : n ≤ 1099511627776) :
    Calls Tryd.prog 29 #[.slice a n c] w fun e w' => e = .returned (.bool (allZ l)) ∧ w' = w := by
  have hl := h.1
  have HA := hid h.2
  clear h
  go_enter Tryd.func29, Tryd.ntmps29
  go_wp2_with fail
  go_loopw [3] (fun i wr => ∃ k : Nat, k ≤ n ∧ i = .int .i64 k ∧ wr = w ∧ Hid (∀ (j : Nat) x, j < k → l[j]? = some x → x = 0)) (fun i _ => n - (intOf i).toNat)
  case atStart => exact ⟨0, by omega, rfl, rfl, hid (fun j x hj => by omega)⟩
  case round =>
    obtain ⟨k, hk, rfl, rfl, HE⟩ := hrel
    by_cases hlt : k < n
    · have hlt' : (k : Int) < (n : Int) := by omega
      obtain ⟨x, hx⟩ : ∃ x, l[k]? = some x := ⟨_, List.getElem?_eq_getElem (by omega)⟩
      obtain ⟨b, off, rfl, hat⟩ := HA.out.resolve_left (by omega)
      have e0 := hat k x hx
      have HX := hid hx
      clear hat hx HA
      by_cases hx0 : x = 0
      · subst hx0
        go_wp2_with fail
        exact ⟨⟨k + 1, by omega, by go_num, by first | rfl | trivial, hid (fun j y hj hy => by
          by_cases hjk : j < k
          · exact HE.out j y hjk hy
          · obtain rfl : j = k := by omega
            rw [HX.out] at hy
            exact (Option.some.inj hy).symm)⟩, by simp [intOf]; omega⟩
      · have hb : (x != 0) = true := by simp [hx0]
        go_wp2_with fail
        go_ret
        refine ⟨?_, rfl⟩
        have : allZ l = false := by
          unfold allZ
          rw [List.all_eq_false]
          exact ⟨x, List.mem_of_getElem? HX.out, by simpa using hx0⟩
        rw [this]
        rfl
    · have hlt' : ¬ (k : Int) < (n : Int) := by omega
      clear HA
      go_wp2_with fail
      go_ret
      refine ⟨?_, rfl⟩
      have : allZ l = true := by
        unfold allZ
        rw [List.all_eq_true]
        intro x hx
        obtain ⟨j, hj⟩ := List.getElem?_of_mem hx
        have := HE.out j x (by have := lt_of_get hj; omega) hj
        simpa using this
      rw [this]
      rfl
/-- Bytes that are being written: a row of the call's own. -/
def BO (base : Nat) (W : World) (v : Value) (bs : List Int) : Prop := ∃ g cap, v = .slice (some ⟨g, 0, none⟩) bs.length cap ∧ Buf W g bs.length cap (bs.map (Value.int .u8)) ∧ base ≤ g
theorem BO.later {base : Nat} {W W' : World} {v : Value} {bs : List Int} (h : BO base W v bs) (hb : Below W.heap.size W W') : BO base W' v bs := by
  obtain ⟨g, cap, rfl, hr, hg⟩ := h
  exact ⟨g, cap, rfl, hr.kept (S := fun _ => False) (kept_of hb) id, hg⟩
/-- Blocks other than the row's own stay. -/
def Sv (v : Value) (W : World) (v' : Value) (W' : World) : Prop := ∀ b o, W.heap[b]? = some o → v.ownBlock ≠ some b → W'.heap[b]? = some o ∧ v'.ownBlock ≠ some b
theorem Sv.refl (v : Value) (W : World) : Sv v W v W := fun _ _ h1 h2 => ⟨h1, h2⟩
theorem Sv.trans {v v' v'' : Value} {W W' W'' : World} (h : Sv v W v' W') (h' : Sv v' W' v'' W'') : Sv v W v'' W'' := fun b o h1 h2 => h' b o (h b o h1 h2).1 (h b o h1 h2).2
theorem Sv.below {v : Value} {W W' : World} (h : Below W.heap.size W W') : Sv v W v W' := fun b o h1 h2 => ⟨nb_later h h1, h2⟩
set_option maxHeartbeats 1000000 in
theorem rnum27 (v : Value) (bs : List Int) (x : Int) (w0 W : World) (h : BO w0.heap.size W v bs) (hB : Below w0.heap.size w0 W) (h0 : 0 ≤ x) (h1 : x < 18446744073709551616) (hl : bs.length + 10 ≤ 1099511627776) :
    Calls Tryd.prog 27 #[v, .int .u64 x] W fun e W' => ∃ v', e = .returned v' ∧ BO w0.heap.size W' v' (bs ++ uvar x) ∧ Below w0.heap.size w0 W' ∧ Sv v W v' W' := by
  obtain ⟨g, cap, rfl, hr, hg⟩ := h
  have HU := hid (ruvar74 x W h0 h1)
  have HL := hid (uvar_len x)
  have HR := hid (uvar_rng ⟨h0, h1⟩)
  obtain ⟨i0, hi, hz0, hz1, hz2⟩ := info_parts Tryd.info5
  have HB := hid hB
  have HRW := hid hr
  clear hB hr h0 h1
  generalize uvar x = U at *
  go_enter Tryd.func27, Tryd.ntmps27
  go_wp2_with fail
  refine HU.out.mono ?_
  rintro e w1 ⟨y, rfl, hown, hb1⟩
  obtain ⟨ya, yc, rfl, hs, _⟩ := seg_of_own hown (by have := HL.out; omega) HR.out
  obtain ⟨ad, rfl⟩ : ∃ ad, ya = some ad := by
    rcases hs.2.2.2.2 with h0 | ⟨b, off, h, _⟩
    · have := HL.out; omega
    · exact ⟨_, h⟩
  have HS := hid hs
  have B1 := hid (HB.out.trans (hb1.mono HB.out.size))
  have R1 := hid (HRW.out.kept (S := fun _ => False) (kept_of hb1) id)
  have HB1 := hid hb1
  clear hs hown hb1 HU HRW
  go_wp2_with (at_builtin; (refine app_buf _ rfl (.tmp 5) (.tmp 7) 31 rfl i0 (.int .u8 0) Tryd.underlying31 hi hz0 hz1 hz2 rfl g bs.length cap _ rfl R1.out ad U.length yc (U.map (Value.int .u8)) rfl (by simp) (seg_cells HS.out ad rfl) (ints_one _) (by have := HL.out; omega) (by have := HL.out; unfold maxLen; omega) (by have := HL.out; omega) ?_; intro B cap' w2 hrow hk hor; have HO := hid hrow; have HK := hid hk; have HOR := hid hor; clear hrow hk hor))
  go_ret
  have hBg : w0.heap.size ≤ B := by
    rcases HOR.out with h | h
    · omega
    · have := B1.out.size; omega
  refine ⟨_, rfl, ⟨B, cap', ?_, .inl ?_, hBg⟩, B1.out.trans (HK.out.to_below B1.out.size (fun k hk h => by omega)), fun b o h1 h2 => ?_⟩
  · rw [List.length_append]
    rfl
  · have := HO.out
    rw [List.length_append, List.map_append]
    exact this
  · have hbg : b ≠ g := fun hc => h2 (by rw [hc]; rfl)
    have h3 := nb_later HB1.out h1
    refine ⟨(HK.out.block b (nb_lt h3) hbg).trans h3, fun hc => ?_⟩
    have hBb : B = b := Option.some.inj hc
    have := nb_lt h1
    have := HB1.out.size
    rcases HOR.out with h | h <;> omega
end Go.Proofs.YtbdjghokedfkfaaDoor
