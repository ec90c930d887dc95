/-
  The walk over TypesJoin.
-/
import Derived.Test.YtdlpbldpddobcaaWorks
namespace Go.Proofs.Ytdlpbldpddobcaa
open Go.RowKit
set_option linter.unusedVariables false

theorem below_then' {w w1 w2 : World} (h1 : Below w.heap.size w w1) (h2 : Below w1.heap.size w1 w2) : Below w.heap.size w w2 := h1.trans (h2.mono h1.size)

theorem words_one (l : List Int) : ∀ u ∈ l.map (Value.int .u64), u.oneCell' = true := by
  intro u hu
  obtain ⟨z, _, rfl⟩ := List.mem_map.1 hu
  rfl

theorem segW_cells {w : World} {a : Option Addr} {n cap : Nat} {zs : List Int} (h : SegW w a n cap zs) :
    ∀ ad, a = some ad → ∀ (j : Nat) (u : Value), (zs.map (Value.int .u64))[j]? = some u → w.cell? (ad.add j) = some u := by
  intro ad had j u hu
  obtain ⟨hz, _, _, _, ha⟩ := h
  have hj : j < zs.length := by
    rcases Nat.lt_or_ge j zs.length with h | h
    · exact h
    · rw [List.getElem?_eq_none (by simpa using h)] at hu; cases hu
  rcases ha with ha | ⟨b, off, e, hc⟩
  · omega
  · rw [had] at e
    cases e
    have hplain : (⟨b, off, none⟩ : Addr).add j = ⟨b, off + j, none⟩ := by unfold Addr.add; split <;> simp_all
    rw [hplain, hc j (by omega)]
    rw [List.getElem?_map, List.getElem?_eq_getElem hj] at hu
    simp at hu
    rw [← hu]
    simp [hj]

theorem ownW_below {w w' : World} {base : Nat} {v : Value} {n : Nat} {xs : List Value} (hown : w.ownsRow base 37 1 v n xs) (hg : w.grownBy w' v.ownBlock) (hbase : base ≤ w.heap.size) : Below base w w' := by
  refine ⟨hg.os, hg.tape, hg.output, hg.size, fun k hk => hg.block k (by omega) ?_⟩
  rcases hown.2 with ⟨rfl, _⟩ | ⟨g, cap, cur, rfl, hbg, _⟩
  · simp [Value.ownBlock]
  · simp [Value.ownBlock]; omega

/-- 'append(l, x...)', l a row of the call's own, x whatever slice of words. -/
theorem appW_any (w : World) {ops : Array Oper} {rest : List Oper} {o : Oper} {a : Act} {Q : Exit → Act → World → Prop} (hgd : o.guard = none)
    (s x : Operand) (ho : o.op = Op.call { callee := Callee.builtin Builtin.append, args := #[s, x], argTypes := #[31, 31] }) (base : Nat) (v : Value) (n : Nat) (xs : List Int)
    (hs : a.eval s = v) (hown : w.ownsRow base 37 1 v n (xs.map (Value.int .u64))) (ao : Option Addr) (m c : Nat) (zs : List Int) (hx : a.eval x = .slice ao m c)
    (hseg : SegW w ao m c zs) (hnone : ao = none → c = 0) (hb : n + m ≤ 1073741824) (hbase : base ≤ w.heap.size)
    (h : ∀ (v' : Value) (w' : World), w'.ownsRow base 37 1 v' (n + m) ((xs ++ zs).map (Value.int .u64)) → Below base w w' → wpList Try.prog ops Q rest (a.put o.dst v') w') :
    wpList Try.prog ops Q (o :: rest) a w := by
  obtain ⟨i0, hi, hz0, hz1, hz2⟩ := info_parts Try.info37
  cases ao with
  | none =>
    have hc := hnone rfl
    subst hc
    have hm : m = 0 := by have := hseg.2.1; omega
    subst hm
    have hzs : zs = [] := List.eq_nil_of_length_eq_zero hseg.1
    subst hzs
    refine wpList_append_own_none hgd s x 31 ho base 37 i0 1 Try.underlying31 hi v n _ hs hown hx ?_
    refine h v w ?_ (Below.refl _ _)
    simpa using hown
  | some ad =>
    refine wpList_append_own w hgd s x 31 ho base 37 i0 (.int .u64 0) 1 8 Try.underlying31 hi hz0 hz1 hz2 rfl (by decide) v n _ hs hown ad m c (zs.map (Value.int .u64)) hx (by simp [hseg.1])
      (segW_cells hseg ad rfl) (words_one _) (by unfold maxLen; omega) (by omega) hbase ?_
    intro v' w' ho' hg _
    refine h v' w' ?_ (ownW_below hown hg hbase)
    rw [List.map_append]; exact ho'

/-- A row of the call's own as a slice of words. -/
theorem segW_of_own {w : World} {base : Nat} {v : Value} {n : Nat} {zs : List Int} (h : w.ownsRow base 37 1 v n (zs.map (Value.int .u64))) (hn : n ≤ 1073741824) (hr : ∀ z ∈ zs, 0 ≤ z ∧ z < 18446744073709551616) :
    ∃ a c, v = .slice a n c ∧ SegW w a n c zs ∧ (a = none → c = 0) := by
  have hl : zs.length = n := by have := h.1; simpa using this
  rcases h.2 with ⟨rfl, rfl⟩ | ⟨g, cap, cur, rfl, hbg, hh, hnc, _⟩
  · exact ⟨none, 0, rfl, ⟨hl, Nat.le_refl _, by omega, hr, .inl rfl⟩, fun _ => rfl⟩
  · refine ⟨_, cap, rfl, ⟨hl, hnc, by omega, hr, .inr ⟨g, 0, rfl, fun j hj => ?_⟩⟩, fun h => by cases h⟩
    rw [Nat.zero_add, h.cellAt j (by omega)]
    have hj' : j < zs.length := by omega
    simp [hj']

theorem byteI_left (s t : ByteArray) (i : Nat) (h : i < s.size) : byteI (s ++ t) i = byteI s i := by
  unfold byteI
  rw [ba_app, List.getElem?_append_left (by rw [← ba_size]; exact h)]
theorem byteI_right (s t : ByteArray) (i : Nat) (h : s.size ≤ i) : byteI (s ++ t) i = byteI t (i - s.size) := by
  unfold byteI
  rw [ba_app, List.getElem?_append_right (by rw [← ba_size]; exact h), ← ba_size]

/-- Parts hold as the whole does. -/
theorem all_join (s t : ByteArray) (za zb : List Int) (h : za.length = s.size) : allB (za ++ zb) (s ++ t) = (allB za s && allB zb t) := by
  rw [Bool.eq_iff_iff, Bool.and_eq_true, allB_iff, allB_iff, allB_iff, List.length_append, ByteArray.size_append]
  constructor
  · intro ⟨h1, h2⟩
    refine ⟨⟨h, fun i hi => ?_⟩, by omega, fun i hi => ?_⟩
    · have := h2 i (by omega)
      rw [byteI_left _ _ _ hi, List.getD_eq_getElem?_getD, List.getElem?_append_left (by omega), ← List.getD_eq_getElem?_getD] at this
      exact this
    · have := h2 (s.size + i) (by omega)
      rw [byteI_right _ _ _ (by omega), List.getD_eq_getElem?_getD, List.getElem?_append_right (by omega), ← List.getD_eq_getElem?_getD, h, Nat.add_sub_cancel_left] at this
      exact this
  · intro ⟨⟨h1, h2⟩, h3, h4⟩
    refine ⟨by omega, fun i hi => ?_⟩
    rcases Nat.lt_or_ge i s.size with hl | hl
    · rw [byteI_left _ _ _ hl, List.getD_eq_getElem?_getD, List.getElem?_append_left (by omega), ← List.getD_eq_getElem?_getD]
      exact h2 i hl
    · rw [byteI_right _ _ _ hl, List.getD_eq_getElem?_getD, List.getElem?_append_right (by omega), ← List.getD_eq_getElem?_getD, h]
      exact h4 (i - s.size) (by omega)

/-- Noughts fit. -/
theorem all_zero {s : ByteArray} (h : ∀ i, i < s.size → isL (byteI s i) = true) : allB (List.replicate s.size 0) s = true := by
  rw [allB_iff]
  refine ⟨by simp, fun i hi => ?_⟩
  have := h i hi
  have e : (List.replicate s.size (0 : Int)).getD i 0 = 0 := by simp [List.getD_eq_getElem?_getD, hi]
  rw [e]
  simp only [isL, fitsB, Bool.or_eq_true, Bool.and_eq_true, decide_eq_true_eq] at *
  rcases this with h | h
  · exact .inr ⟨h, by decide⟩
  · exact .inl h

set_option maxRecDepth 100000 in
set_option maxHeartbeats 4000000 in
theorem join4 (s t : ByteArray) (a b : Option Addr) (cn m cm : Nat) (za zb : List Int) (w : World) (hm : MaxOk w) (hsum : s.size + t.size + s.size + m ≤ 1048576)
    (ha : SegW w a s.size cn za) (na : a = none → cn = 0) (hb : SegW w b m cm zb) (nb : b = none → cm = 0) :
    Calls Try.prog 4 #[.string s, .string t, .slice a s.size cn, .slice b m cm] w fun e w' => e = .returned (.bool true) ∧ Below w.heap.size w w' := by
  have q1 : (s.size : Int) + t.size + s.size + m ≤ 1048576 := by omega
  have a1 : ∀ w, (Op.stringOp .add s t).run Try.prog w = .ok (.string (s ++ t)) w := fun w => run_string_add_sum w _ _ (by omega)
  have hr : ∀ z ∈ za ++ zb, 0 ≤ z ∧ z < 18446744073709551616 := by
    intro z hz
    rcases List.mem_append.1 hz with h | h
    · exact ha.2.2.2.1 z h
    · exact hb.2.2.2.1 z h
  have HR := hid hr
  have HA := hid ha
  have HB := hid hb
  have JA := hid (all_join s t za zb (ha.1))
  clear hr ha hb
  go_enter Try.func4, Try.ntmps4
  go_wp2_with fail
  refine (works5 w hm).mono ?_
  rintro e w1 ⟨rfl, hb1⟩
  have A1 := hid (HA.out.later hb1 (Nat.le_refl _))
  have B1 := hid (HB.out.later hb1 (Nat.le_refl _))
  have L1 := hid hb1
  have hz1 := hb1.size
  clear HA HB hb1
  go_wp2_with (first
    | (at_builtin; refine appW_any _ rfl (.tmp 32) (.tmp 33) rfl w1.heap.size (.slice none 0 0) 0 [] rfl (World.ownsRow_nil _ _ _ _) a s.size cn za rfl A1.out na (by omega) (Nat.le_refl _) ?_; intro v1 w2 hown1 hb2; have O1 := hid hown1; have B2 := hid hb2; clear hown1 hb2)
    | (at_builtin; refine appW_any _ rfl (.tmp 35) (.tmp 36) rfl w1.heap.size v1 (0 + s.size) ([] ++ za) rfl O1.out b m cm zb rfl (B1.out.later B2.out (Nat.le_refl _)) nb (by omega) B2.out.size ?_; intro v2 w3 hown2 hb3; have O2 := hid hown2; have B3 := hid (B2.out.trans hb3); clear hown2 hb3)
    | fail)
  obtain ⟨va, vc, rfl, hsv, _⟩ := segW_of_own O2.out (by omega) (by simpa using HR.out)
  have hsz2 := B3.out.size
  have hb3 : Below w.heap.size w w3 := L1.out.trans (B3.out.mono hz1)
  refine (all10 va _ vc _ (s ++ t) w3 hsv (by rw [ByteArray.size_append]; omega)).mono ?_
  rintro e w4 ⟨rfl, hb4⟩
  rw [List.nil_append, JA.out]
  have A4 := hid ((A1.out.later B3.out (Nat.le_refl _)).later hb4 (Nat.le_refl _))
  have B4 := hid ((B1.out.later B3.out (Nat.le_refl _)).later hb4 (Nat.le_refl _))
  have L4 := hid (below_then' hb3 hb4)
  clear hsv hb3 hb4 A1 B1 L1 O1 O2 B2 B3 JA HR
  go_wp2_with fail
  refine (all10 a _ cn za s w4 A4.out (by omega)).mono ?_
  rintro e w5 ⟨rfl, hb5⟩
  have B5 := hid (B4.out.later hb5 (Nat.le_refl _))
  have L5 := hid (below_then' L4.out hb5)
  clear hb5 A4 B4 L4
  cases hza : allB za s
  · rw [Bool.false_and]
    by_cases h256 : 256 < s.size
    · have h256' : (256 : Int) < s.size := by omega
      go_wp2
      go_ret
      exact ⟨by rfl, L5.out⟩
    · have h256' : ¬ (256 : Int) < s.size := by omega
      go_wp2_with fail
      refine (shape11 s w5 (by omega)).mono ?_
      rintro e y1 ⟨rfl, hy1⟩
      have Y1 := hid (below_then' L5.out hy1)
      clear hy1
      cases hsh : lett s 256
      · go_wp2
        go_ret
        exact ⟨by rfl, Y1.out⟩
      · have hls := ((lett_iff s 256).1 hsh).1
        have hl2 : lett s s.size = true := (lett_iff s s.size).2 ⟨hls, Nat.le_refl _⟩
        have HZ := hid (all_zero hls)
        clear hls
        go_wp2_with fail
        refine (zero12 s y1 (by omega) hl2).mono ?_
        rintro e y2 ⟨B, rfl, hB, hown, hy2⟩
        obtain ⟨ya, yc, hyv, hsy, _⟩ := segW_of_own hown (by omega) (by intro z hz; rw [(List.mem_replicate.1 hz).2]; decide)
        simp only [Value.slice.injEq, true_and] at hyv
        obtain ⟨rfl, rfl⟩ := hyv
        have Y2 := hid (below_then' Y1.out hy2)
        have HA2 := hid (all10 _ _ _ _ s y2 hsy (by omega))
        clear hown hsy hy2
        go_wp2_with fail
        refine HA2.out.mono ?_
        rintro e y3 ⟨rfl, hy3⟩
        rw [HZ.out]
        go_wp2
        go_ret
        exact ⟨by rfl, below_then' Y2.out hy3⟩
  · rw [Bool.true_and]
    go_wp2_with fail
    refine (all10 b _ cm zb t w5 B5.out (by omega)).mono ?_
    rintro e w6 ⟨rfl, hb6⟩
    have L6 := hid (below_then' L5.out hb6)
    clear hb6 L5 B5
    cases hzb : allB zb t
    · by_cases h256 : 256 < s.size
      · have h256' : (256 : Int) < s.size := by omega
        go_wp2
        go_ret
        exact ⟨by rfl, L6.out⟩
      · have h256' : ¬ (256 : Int) < s.size := by omega
        go_wp2_with fail
        refine (shape11 s w6 (by omega)).mono ?_
        rintro e y1 ⟨rfl, hy1⟩
        have Y1 := hid (below_then' L6.out hy1)
        clear hy1
        cases hsh : lett s 256
        · go_wp2
          go_ret
          exact ⟨by rfl, Y1.out⟩
        · have hls := ((lett_iff s 256).1 hsh).1
          have hl2 : lett s s.size = true := (lett_iff s s.size).2 ⟨hls, Nat.le_refl _⟩
          have HZ := hid (all_zero hls)
          clear hls
          go_wp2_with fail
          refine (zero12 s y1 (by omega) hl2).mono ?_
          rintro e y2 ⟨B, rfl, hB, hown, hy2⟩
          obtain ⟨ya, yc, hyv, hsy, _⟩ := segW_of_own hown (by omega) (by intro z hz; rw [(List.mem_replicate.1 hz).2]; decide)
          simp only [Value.slice.injEq, true_and] at hyv
          obtain ⟨rfl, rfl⟩ := hyv
          have Y2 := hid (below_then' Y1.out hy2)
          have HA2 := hid (all10 _ _ _ _ s y2 hsy (by omega))
          clear hown hsy hy2
          go_wp2_with fail
          refine HA2.out.mono ?_
          rintro e y3 ⟨rfl, hy3⟩
          rw [HZ.out]
          go_wp2
          go_ret
          exact ⟨by rfl, below_then' Y2.out hy3⟩
    · by_cases h256 : 256 < s.size
      · have h256' : (256 : Int) < s.size := by omega
        go_wp2
        go_ret
        exact ⟨by rfl, L6.out⟩
      · have h256' : ¬ (256 : Int) < s.size := by omega
        go_wp2_with fail
        refine (shape11 s w6 (by omega)).mono ?_
        rintro e y1 ⟨rfl, hy1⟩
        have Y1 := hid (below_then' L6.out hy1)
        clear hy1
        cases hsh : lett s 256
        · go_wp2
          go_ret
          exact ⟨by rfl, Y1.out⟩
        · have hls := ((lett_iff s 256).1 hsh).1
          have hl2 : lett s s.size = true := (lett_iff s s.size).2 ⟨hls, Nat.le_refl _⟩
          have HZ := hid (all_zero hls)
          clear hls
          go_wp2_with fail
          refine (zero12 s y1 (by omega) hl2).mono ?_
          rintro e y2 ⟨B, rfl, hB, hown, hy2⟩
          obtain ⟨ya, yc, hyv, hsy, _⟩ := segW_of_own hown (by omega) (by intro z hz; rw [(List.mem_replicate.1 hz).2]; decide)
          simp only [Value.slice.injEq, true_and] at hyv
          obtain ⟨rfl, rfl⟩ := hyv
          have Y2 := hid (below_then' Y1.out hy2)
          have HA2 := hid (all10 _ _ _ _ s y2 hsy (by omega))
          clear hown hsy hy2
          go_wp2_with fail
          refine HA2.out.mono ?_
          rintro e y3 ⟨rfl, hy3⟩
          rw [HZ.out]
          go_wp2
          go_ret
          exact ⟨by rfl, below_then' Y2.out hy3⟩

set_option maxRecDepth 100000 in
set_option maxHeartbeats 1000000 in
/-- What is too long is let go. -/
theorem join4_big (s t : ByteArray) (a b : Option Addr) (n cn m cm : Nat) (w : World) (hm : MaxOk w) (hsum : 1048576 < s.size + t.size + n + m) (z1 : s.size ≤ 140737488355328) (z2 : t.size ≤ 140737488355328) (z3 : n ≤ 140737488355328) (z4 : m ≤ 140737488355328) :
    Calls Try.prog 4 #[.string s, .string t, .slice a n cn, .slice b m cm] w fun e w' => e = .returned (.bool true) ∧ Below w.heap.size w w' := by
  have q1 : (1048576 : Int) < (s.size : Int) + t.size + n + m := by omega
  go_enter Try.func4, Try.ntmps4
  go_wp2_with fail
  refine (works5 w hm).mono ?_
  rintro e w1 ⟨rfl, hb1⟩
  go_wp2
  go_ret
  exact ⟨rfl, hb1⟩

set_option maxRecDepth 100000 in
set_option maxHeartbeats 1000000 in
/-- Not as many values as letters: let go. -/
theorem join4_odd (s t : ByteArray) (a b : Option Addr) (n cn m cm : Nat) (w : World) (hm : MaxOk w) (hsum : s.size + t.size + n + m ≤ 1048576) (hn : n ≠ s.size) :
    Calls Try.prog 4 #[.string s, .string t, .slice a n cn, .slice b m cm] w fun e w' => e = .returned (.bool true) ∧ Below w.heap.size w w' := by
  have q1 : (s.size : Int) + t.size + n + m ≤ 1048576 := by omega
  have q2 : ((n : Int) != (s.size : Int)) = true := by simpa using fun h : (n : Int) = s.size => hn (by omega)
  go_enter Try.func4, Try.ntmps4
  go_wp2_with fail
  refine (works5 w hm).mono ?_
  rintro e w1 ⟨rfl, hb1⟩
  go_wp2
  go_ret
  exact ⟨rfl, hb1⟩
end Go.Proofs.Ytdlpbldpddobcaa
