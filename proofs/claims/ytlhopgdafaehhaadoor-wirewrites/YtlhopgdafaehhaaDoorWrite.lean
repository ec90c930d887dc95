/-
  The walks over fold, Svar and Text.
-/
import Derived.Test.YtlhopgdafaehhaaDoorWorks
import Derived.Laws.AppendOwnNone
namespace Go.Proofs.YtlhopgdafaehhaaDoor
open Go.RowKit
set_option linter.unusedVariables false

/-- What 'append' onto a row of the call's own leaves below. -/
theorem own_below {w w' : World} {base : Nat} {v : Value} {n : Nat} {xs : List Value} (hown : w.ownsRow base 5 1 v n xs) (hg : w.grownBy w' v.ownBlock) (hbase : base ≤ w.heap.size) : Below base w w' := by
  refine ⟨hg.os, hg.tape, hg.output, hg.size, fun k hk => hg.block k (by omega) ?_⟩
  rcases hown.2 with ⟨rfl, _⟩ | ⟨g, cap, cur, rfl, hbg, _⟩
  · simp [Value.ownBlock]
  · simp [Value.ownBlock]; omega

/-- 'append(l, x...)', l a row of the call's own, x whatever slice of bytes. -/
theorem app_any (w : World) {ops : Array Oper} {rest : List Oper} {o : Oper} {a : Act} {Q : Exit → Act → World → Prop} (hgd : o.guard = none)
    (s x : Operand) (ho : o.op = Op.call { callee := Callee.builtin Builtin.append, args := #[s, x], argTypes := #[24, 24] }) (base : Nat) (v : Value) (n : Nat) (xs : List Int)
    (hs : a.eval s = v) (hown : w.ownsRow base 5 1 v n (xs.map (Value.int .u8))) (ao : Option Addr) (m c : Nat) (zs : List Int) (hx : a.eval x = .slice ao m c)
    (hseg : Seg w ao m c zs) (hnone : ao = none → c = 0) (hb : n + m ≤ 1099511627776) (hbase : base ≤ w.heap.size)
    (h : ∀ (v' : Value) (w' : World), w'.ownsRow base 5 1 v' (n + m) ((xs ++ zs).map (Value.int .u8)) → Below base w w' → wpList Tryd.prog ops Q rest (a.put o.dst v') w') :
    wpList Tryd.prog ops Q (o :: rest) a w := by
  obtain ⟨i0, hi, hz0, hz1, hz2⟩ := info_parts Tryd.info5
  cases ao with
  | none =>
    have hc := hnone rfl
    subst hc
    have hm : m = 0 := by have := hseg.2.1; omega
    subst hm
    have hzs : zs = [] := List.eq_nil_of_length_eq_zero hseg.1
    subst hzs
    refine wpList_append_own_none hgd s x 24 ho base 5 i0 1 Tryd.underlying24 hi v n _ hs hown hx ?_
    refine h v w ?_ (Below.refl _ _)
    simpa using hown
  | some ad =>
    refine wpList_append_own w hgd s x 24 ho base 5 i0 (.int .u8 0) 1 1 Tryd.underlying24 hi hz0 hz1 hz2 rfl (by decide) v n _ hs hown ad m c (zs.map (Value.int .u8)) hx (by simp [hseg.1])
      (seg_cells hseg ad rfl) (ints_one _) (by unfold maxLen; omega) (by omega) hbase ?_
    intro v' w' ho' hg _
    refine h v' w' ?_ (own_below hown hg hbase)
    rw [List.map_append]; exact ho'

/-- A row of the call's own as a slice of bytes. -/
theorem seg_of_own {w : World} {base : Nat} {v : Value} {n : Nat} {zs : List Int} (h : w.ownsRow base 5 1 v n (zs.map (Value.int .u8))) (hn : n ≤ 1099511627776) (hr : ∀ z ∈ zs, 0 ≤ z ∧ z ≤ 255) :
    ∃ a c, v = .slice a n c ∧ Seg w a n c zs ∧ (a = none → c = 0) := by
  have hl : zs.length = n := by have := h.1; simpa using this
  rcases h.2 with ⟨rfl, rfl⟩ | ⟨g, cap, cur, rfl, hbg, hh, hnc, _⟩
  · exact ⟨none, 0, rfl, ⟨hl, Nat.le_refl _, hn, hr, .inl rfl⟩, fun _ => rfl⟩
  · exact ⟨_, cap, rfl, seg_own h hl hn hr hnc, fun h => by cases h⟩

/-- The number as which one with a sign is written. -/
def fo (n : Int) : Int := if n < 0 then -2 * n - 1 else 2 * n
theorem fo_range (n : Int) (h0 : -9223372036854775808 ≤ n) (h1 : n < 9223372036854775808) : 0 ≤ fo n ∧ fo n < 18446744073709551616 := by
  unfold fo; split <;> omega
theorem uvar_len (v : Int) : 1 ≤ (uvar v).length ∧ (uvar v).length ≤ 10 := uv_len 9 v

theorem xor_ones (x : Int) (h0 : 0 ≤ x) (h1 : x < 18446744073709551616) : bits .xor .u64 x 18446744073709551615 = 18446744073709551615 - x := by
  obtain ⟨a, rfl⟩ := Int.eq_ofNat_of_zero_le h0
  show IntKind.u64.wrap ((BitVec.ofInt 64 (a : Int) ^^^ BitVec.ofInt 64 18446744073709551615).toNat : Int) = _
  have e1 : BitVec.ofInt 64 18446744073709551615 = BitVec.allOnes 64 := by decide
  rw [e1, BitVec.xor_allOnes, BitVec.toNat_not, ofInt_u64 a (by omega), IntKind.wrap_u64]
  omega
theorem xor_none (x : Int) (h0 : 0 ≤ x) (h1 : x < 18446744073709551616) : bits .xor .u64 x 0 = x := by
  obtain ⟨a, rfl⟩ := Int.eq_ofNat_of_zero_le h0
  show IntKind.u64.wrap ((BitVec.ofInt 64 (a : Int) ^^^ BitVec.ofInt 64 0).toNat : Int) = _
  have e1 : BitVec.ofInt 64 0 = 0#64 := by decide
  rw [e1, BitVec.xor_zero, ofInt_u64 a (by omega), IntKind.wrap_u64]
  omega

theorem fo_pos (v : Int) (h : 0 ≤ v) (h1 : v < 9223372036854775808) : bits .xor .u64 (v * 2) (v / 9223372036854775808) = fo v := by
  have e : v / 9223372036854775808 = 0 := by omega
  rw [e, xor_none _ (by omega) (by omega)]
  unfold fo
  rw [if_neg (by omega)]; omega
theorem fo_neg (v : Int) (h : v < 0) (h0 : -9223372036854775808 ≤ v) : bits .xor .u64 (IntKind.u64.wrap (IntKind.u64.wrap v * 2)) (IntKind.u64.wrap (v / 9223372036854775808)) = fo v := by
  have e : v / 9223372036854775808 = -1 := by omega
  rw [e]
  have e1 : IntKind.u64.wrap (-1) = 18446744073709551615 := by decide
  have e2 : IntKind.u64.wrap (IntKind.u64.wrap v * 2) = 18446744073709551616 + 2 * v := by
    rw [IntKind.wrap_u64, IntKind.wrap_u64]; omega
  rw [e1, e2, xor_ones _ (by omega) (by omega)]
  unfold fo
  rw [if_pos h]; omega

set_option maxHeartbeats 400000 in
theorem fold25 (v : Int) (w : World) (h0 : -9223372036854775808 ≤ v) (h1 : v < 9223372036854775808) :
    Calls Tryd.prog 17 #[.int .i64 v] w fun e w' => e = .returned (.int .u64 (fo v)) ∧ w' = w := by
  by_cases h : 0 ≤ v
  · have HF := hid (fo_pos v h h1)
    go_enter Tryd.func17, Tryd.ntmps17
    go_wp2
    go_ret
    exact ⟨by rw [← HF.out]; rfl, rfl⟩
  · have HF := hid (fo_neg v (by omega) h0)
    go_enter Tryd.func17, Tryd.ntmps17
    go_wp2
    go_ret
    exact ⟨by rw [← HF.out]; rfl, rfl⟩

set_option maxHeartbeats 400000 in
/-- wire.Svar. -/
theorem svar19 (v : Int) (w : World) (h0 : -9223372036854775808 ≤ v) (h1 : v < 9223372036854775808) :
    Calls Tryd.prog 6 #[.int .i64 v] w fun e w' => e = .returned (.slice (some ⟨w.heap.size + 2, 0, none⟩) (uvar (fo v)).length (uvar (fo v)).length) ∧
      Seg w' (some ⟨w.heap.size + 2, 0, none⟩) (uvar (fo v)).length (uvar (fo v)).length (uvar (fo v)) ∧ Below w.heap.size w w' ∧ (w.heap.size + 2 < w'.heap.size ∧ Rowz w' (w.heap.size + 2) (uvar (fo v)).length (uvar (fo v))) := by
  have hr := fo_range v h0 h1
  have HA := hid (fold25 v w h0 h1)
  have HB := hid (uvar17 (fo v) w hr.1 hr.2)
  clear hr
  generalize fo v = u at *
  generalize uvar u = l at *
  go_enter Tryd.func6, Tryd.ntmps6
  go_wp2_with fail
  refine HA.out.mono ?_
  rintro e w1 ⟨rfl, rfl⟩
  go_wp2_with fail
  refine HB.out.mono ?_
  rintro e w2 ⟨rfl, hs, hb, hz⟩
  go_wp2
  go_ret
  exact ⟨rfl, hs, hb, hz⟩

/-- A text's bytes. -/
def strBytes (s : ByteArray) : List Int := s.data.toList.map fun c => (c.toNat : Int)

theorem strBytes_len (s : ByteArray) : (strBytes s).length = s.size := by
  rw [strBytes, List.length_map]; exact Array.length_toList
theorem strBytes_range (s : ByteArray) : ∀ z ∈ strBytes s, 0 ≤ z ∧ z ≤ 255 := by
  intro z hz
  obtain ⟨c, _, rfl⟩ := List.mem_map.1 hz
  have := c.toNat_lt
  omega

/-- '[]byte(s)'. -/
theorem conv_str (w : World) (s : ByteArray) (hs : s.size ≤ 2000000) : ∃ c W, (convert 9 24 (.string s)).run Tryd.prog w = .ok (.slice (some ⟨w.heap.size, 0, none⟩) s.size c) W ∧
    Seg W (some ⟨w.heap.size, 0, none⟩) s.size c (strBytes s) ∧ Below w.heap.size w W ∧ W.heap.size = w.heap.size + 1 := by
  refine ⟨_, _, run_bytes_of_string w 9 24 5 s Tryd.underlying9 Tryd.underlying24 Tryd.underlying5, ?_, ?_, ?_⟩
  · refine ⟨strBytes_len s, grownCap_ge _ _ _ _, by omega, strBytes_range s, .inr ⟨_, 0, rfl, fun j hj => ?_⟩⟩
    have hj' : j < s.data.size := hj
    have hb := bytesRow_at s (grownCap w s.size 0 5) j hj'
    have hlt : j < (bytesRow s (grownCap w s.size 0 5)).size := by
      rcases Nat.lt_or_ge j (bytesRow s (grownCap w s.size 0 5)).size with h | h
      · exact h
      · rw [Array.getElem?_eq_none h] at hb; cases hb
    rw [Nat.zero_add]
    have : (w.drew.alloc (.cells (bytesRow s (grownCap w s.size 0 5)) 5 ((bytesRow s (grownCap w s.size 0 5)).size, (bytesRow s (grownCap w s.size 0 5)).size + 1))).cell? ⟨w.heap.size, j, none⟩ = (bytesRow s (grownCap w s.size 0 5))[j]? :=
      World.cell?_alloc_mark w.drew _ _ _ j
    rw [this, hb]
    have hjl : j < s.data.toList.length := by rw [Array.length_toList]; exact hj'
    have e : (strBytes s).getD j 0 = ((s.data.toList[j]'hjl).toNat : Int) := by
      simp only [strBytes, List.getD_eq_getElem?_getD, List.getElem?_map, List.getElem?_eq_getElem hjl, Option.map_some, Option.getD_some]
    rw [e, Array.getElem_toList]
  · exact ((Below.refl _ _).drew).alloc (by simp) _
  · simp

theorem text_close {w w1 W : World} {l : List Int} {s : ByteArray} {c : Nat} (h1 : Seg w1 (some ⟨w.heap.size + 2, 0, none⟩) l.length l.length l) (b1 : Below w.heap.size w w1) (z1 : w.heap.size + 2 < w1.heap.size)
    (h2 : Seg W (some ⟨w1.heap.size, 0, none⟩) s.size c (strBytes s)) (b2 : Below w1.heap.size w1 W) (z2 : W.heap.size = w1.heap.size + 1) (hl : 1 ≤ l.length) (hl10 : l.length ≤ 10) (hs : s.size ≤ 2000000) :
    Calls Tryd.prog 16 #[.slice (some ⟨W.heap.size, 0, none⟩) 2 2]
      (W.alloc (.cells #[.slice (some ⟨w.heap.size + 2, 0, none⟩) l.length l.length, .slice (some ⟨w1.heap.size, 0, none⟩) s.size c] 24)) fun e w' =>
      e = .returned (.slice (some ⟨W.heap.size + 1, 0, none⟩) (l.length + s.size) (l.length + s.size)) ∧
      Seg w' (some ⟨W.heap.size + 1, 0, none⟩) (l.length + s.size) (l.length + s.size) (l ++ strBytes s) ∧ Below w.heap.size w w' ∧ w.heap.size ≤ W.heap.size + 1 ∧ (W.heap.size + 1 < w'.heap.size ∧ Rowz w' (W.heap.size + 1) (l.length + s.size) (l ++ strBytes s)) := by
  have hba : Below W.heap.size W (W.alloc (.cells #[.slice (some ⟨w.heap.size + 2, 0, none⟩) l.length l.length, .slice (some ⟨w1.heap.size, 0, none⟩) s.size c] 24)) := (Below.refl _ _).alloc (Nat.le_refl _) _
  have hsz : (W.alloc (.cells #[.slice (some ⟨w.heap.size + 2, 0, none⟩) l.length l.length, .slice (some ⟨w1.heap.size, 0, none⟩) s.size c] 24)).heap.size = W.heap.size + 1 := by simp
  have hc : cat (fun j => if j = 0 then l else strBytes s) 2 = l ++ strBytes s := by simp [cat]
  have hlen : (l ++ strBytes s).length = l.length + s.size := by rw [List.length_append, strBytes_len]
  have b1s := b1.size
  have J := join24 W.heap.size 2 2 (fun j => if j = 0 then some ⟨w.heap.size + 2, 0, none⟩ else some ⟨w1.heap.size, 0, none⟩) (fun j => if j = 0 then l.length else s.size) (fun j => if j = 0 then l.length else c) (fun j => if j = 0 then l else strBytes s)
    (W.alloc (.cells #[.slice (some ⟨w.heap.size + 2, 0, none⟩) l.length l.length, .slice (some ⟨w1.heap.size, 0, none⟩) s.size c] 24)) (by omega)
    (fun j hj => by
      rcases (show j = 0 ∨ j = 1 by omega) with rfl | rfl <;> simp)
    (fun j hj => by
      rcases (show j = 0 ∨ j = 1 by omega) with rfl | rfl
      · exact ⟨(h1.later b2 (Nat.le_refl _)).later hba (Nat.le_refl _), fun h => by cases h⟩
      · exact ⟨h2.later hba (Nat.le_refl _), fun h => by cases h⟩)
    (by rw [hc, hlen]; omega) (by rw [hsz]; omega) (by rw [hc, hlen]; omega)
  rw [hc, hlen, hsz] at J
  refine J.mono fun e w' ⟨he, hsg, hbl, hz⟩ => ⟨he, hsg, ?_, by omega, hz⟩
  exact ((b1.trans (b2.mono (by omega))).trans (hba.mono (by omega))).trans (hbl.mono (by omega))

set_option maxHeartbeats 1000000 in
/-- wire.Text. -/
theorem text20 (s : ByteArray) (w : World) (hs : s.size ≤ 2000000) :
    Calls Tryd.prog 7 #[.string s] w fun e w' => ∃ B, e = .returned (.slice (some ⟨B, 0, none⟩) ((uvar s.size).length + s.size) ((uvar s.size).length + s.size)) ∧
      Seg w' (some ⟨B, 0, none⟩) ((uvar s.size).length + s.size) ((uvar s.size).length + s.size) (uvar s.size ++ strBytes s) ∧ Below w.heap.size w w' ∧ w.heap.size ≤ B ∧ (B < w'.heap.size ∧ Rowz w' B ((uvar s.size).length + s.size) (uvar s.size ++ strBytes s)) := by
  have HB := hid (uvar17 s.size w (by omega) (by omega))
  have hl := uvar_len s.size
  generalize uvar s.size = l at *
  go_enter Tryd.func7, Tryd.ntmps7
  go_wp2_with fail
  refine HB.out.mono ?_
  rintro e w1 ⟨rfl, hs1, hb1, hz1⟩
  obtain ⟨c, W, hrun, hsg, hbw, hsz⟩ := conv_str w1 s hs
  have HS1 := hid hs1
  have HB1 := hid hb1
  have HS2 := hid hsg
  have HB2 := hid hbw
  have HZ := hid hsz
  clear hs1 hb1 hsg hbw hsz
  have HJ := hid (text_close (w := w) HS1.out HB1.out hz1.1 HS2.out HB2.out HZ.out hl.1 (by omega) hs)
  go_wp2_with fail
  refine HJ.out.mono ?_
  rintro e w2 ⟨rfl, hs2, hb2, hw, hz2⟩
  go_wp2
  go_ret
  exact ⟨_, rfl, hs2, hb2, hw, hz2⟩
end Go.Proofs.YtlhopgdafaehhaaDoor
