/-
  The walks over EqInts and works.
-/
import Derived.Test.YtkcidabokgadcaaNx
namespace Go.Proofs.Ytkcidabokgadcaa
open Go.RowKit
set_option linter.unusedVariables false

set_option maxHeartbeats 1000000 in
theorem eqi_in (b1 o1 b2 o2 n c1 c2 : Nat) (xs ys : List Int) (w : World) (hz : xs.length = n) (hy : ys.length = n) (hn : n ≤ 1099511627776)
    (hc1 : ∀ j, j < n → w.cell? ⟨b1, o1 + j, none⟩ = some (.int .i64 (xs.getD j 0)))
    (hc2 : ∀ j, j < n → w.cell? ⟨b2, o2 + j, none⟩ = some (.int .i64 (ys.getD j 0))) :
    Calls Try.prog 15 #[.slice (some ⟨b1, o1, none⟩) n c1, .slice (some ⟨b2, o2, none⟩) n c2] w fun e w' => e = .returned (.bool (decide (xs = ys))) ∧ Kept (fun _ => False) w w' := by
  have hne : ((n : Int) != n) = false := by simp
  go_enter Try.func15, Try.ntmps15
  go_wp2
  go_loopw [5] (fun i wr => ∃ k m : Nat, k ≤ n ∧ i = .int .i64 k ∧ wr = w.drewN m ∧ xs.take k = ys.take k) (fun i _ => n - (intOf i).toNat)
  case atStart => exact ⟨0, 0, by omega, rfl, rfl, by simp⟩
  case round =>
    obtain ⟨k, m, hk, rfl, rfl, heq⟩ := hrel
    by_cases hlt : k < n
    · have g1 : w.cell? ⟨b1, o1 + k, none⟩ = some (.int .i64 (xs.getD k 0)) := hc1 k hlt
      have g2 : w.cell? ⟨b2, o2 + k, none⟩ = some (.int .i64 (ys.getD k 0)) := hc2 k hlt
      have hstep : xs.getD k 0 = ys.getD k 0 → xs.take (k + 1) = ys.take (k + 1) := fun e => by
        rw [List.getD_eq_getElem?_getD, List.getD_eq_getElem?_getD, List.getElem?_eq_getElem (show k < xs.length by omega), List.getElem?_eq_getElem (show k < ys.length by omega)] at e
        simp only [Option.getD_some] at e
        rw [List.take_succ_eq_append_getElem (show k < xs.length by omega), List.take_succ_eq_append_getElem (show k < ys.length by omega), heq, e]
      have hdiff : xs.getD k 0 ≠ ys.getD k 0 → xs ≠ ys := fun h e => h (by rw [e])
      have HST := hid hstep
      have HDI := hid hdiff
      clear hc1 hc2 heq hstep hdiff
      have hlt' : (k : Int) < (n : Int) := by omega
      generalize xs.getD k 0 = u at *
      generalize ys.getD k 0 = v at *
      by_cases huv : u = v
      · have HS2 := hid (HST.out huv)
        clear HST HDI
        subst huv
        have hb : (u != u) = false := by simp
        have hb' : (u == u) = true := by simp
        go_wp2
        go_quiet (fail)
        go_wp2
        exact ⟨⟨k + 1, m + nq, by omega, by go_num, rfl, HS2.out⟩, by simp [intOf]; omega⟩
      · have hb : (u != v) = true := by simpa using huv
        have hb' : (u == v) = false := by simpa using huv
        have HUV := hid huv
        clear huv
        go_wp2
        go_quiet (fail)
        go_wp2
        go_ret
        exact ⟨by rw [decide_eq_false (HDI.out HUV.out)]; rfl, (Kept.drewN _ w m).trans (Kept.drewN _ _ nq)⟩
    · have hkn : k = n := by omega
      have HE := hid heq
      clear hc1 hc2 heq
      go_wp2
      go_ret
      refine ⟨?_, Kept.drewN _ w m⟩
      have := HE.out
      rw [List.take_of_length_le (by omega), List.take_of_length_le (by omega)] at this
      rw [decide_eq_true this]; rfl

set_option maxHeartbeats 400000 in
theorem eqi_none (a1 a2 : Option Addr) (c1 c2 : Nat) (w : World) :
    Calls Try.prog 15 #[.slice a1 0 c1, .slice a2 0 c2] w fun e w' => e = .returned (.bool true) ∧ Kept (fun _ => False) w w' := by
  go_enter Try.func15, Try.ntmps15
  go_wp2
  refine wp_loop_rounds 1 ?_
  rw [rounds_succ]
  go_wp2
  go_ret
  exact ⟨rfl, Kept.refl _ _⟩

set_option maxHeartbeats 400000 in
theorem eqi_len (a1 a2 : Option Addr) (n1 n2 c1 c2 : Nat) (w : World) (h : n1 ≠ n2) (h1 : n1 ≤ 1099511627776) (h2 : n2 ≤ 1099511627776) :
    Calls Try.prog 15 #[.slice a1 n1 c1, .slice a2 n2 c2] w fun e w' => e = .returned (.bool false) ∧ Kept (fun _ => False) w w' := by
  have hb : ((n1 : Int) != n2) = true := by simp; omega
  have hb' : ((n1 : Int) == n2) = false := by simp; omega
  go_enter Try.func15, Try.ntmps15
  go_wp2
  go_ret
  exact ⟨rfl, Kept.refl _ _⟩

/-- EqInts. -/
theorem eqi (a1 a2 : Option Addr) (n1 n2 c1 c2 : Nat) (xs ys : List Int) (w : World) (h1 : SegI w a1 n1 c1 xs) (h2 : SegI w a2 n2 c2 ys) :
    Calls Try.prog 15 #[.slice a1 n1 c1, .slice a2 n2 c2] w fun e w' => e = .returned (.bool (decide (xs = ys))) ∧ Kept (fun _ => False) w w' := by
  obtain ⟨hz1, _, hn1, _, g1⟩ := h1
  obtain ⟨hz2, _, hn2, _, g2⟩ := h2
  by_cases hne : n1 = n2
  · subst hne
    by_cases h0 : n1 = 0
    · subst h0
      refine (eqi_none a1 a2 c1 c2 w).mono fun e w' ⟨he, hw⟩ => ⟨?_, hw⟩
      rw [List.eq_nil_of_length_eq_zero hz1, List.eq_nil_of_length_eq_zero hz2, decide_eq_true rfl]; exact he
    rcases g1 with g1 | ⟨b1, o1, rfl, g1⟩
    · exact absurd g1 h0
    rcases g2 with g2 | ⟨b2, o2, rfl, g2⟩
    · exact absurd g2 h0
    exact eqi_in b1 o1 b2 o2 n1 c1 c2 xs ys w hz1 hz2 hn1 g1 g2
  · refine (eqi_len a1 a2 n1 n2 c1 c2 w hne hn1 hn2).mono fun e w' ⟨he, hw⟩ => ⟨?_, hw⟩
    rw [decide_eq_false (fun e => hne (by rw [← hz1, ← hz2, e]))]; exact he

/-- EqInts of a list and one of two numbers that is laid for it. -/
theorem eq_two (w : World) (base : Nat) (a : Option Addr) (n c : Nat) (l : List Int) (z1 z2 : Int) (h : LI w base (.slice a n c) l) (hl : l.length ≤ 1099511627776) (hr : ∀ z ∈ l, -9223372036854775808 ≤ z ∧ z ≤ 9223372036854775807) (hz : ∀ z ∈ [z1, z2], -9223372036854775808 ≤ z ∧ z ≤ 9223372036854775807) :
    Calls Try.prog 15 #[.slice a n c, .slice (some ⟨w.heap.size, 0, none⟩) 2 2] (w.alloc (Obj.cells #[.int .i64 z1, .int .i64 z2] 3)) fun e w' => e = .returned (.bool (decide (l = [z1, z2]))) ∧ Below w.heap.size w w' := by
  have hb := (Below.refl w.heap.size w).alloc (Nat.le_refl _) (Obj.cells #[.int .i64 z1, .int .i64 z2] 3)
  have h1 := (h.seg hr hl).later hb (Nat.le_refl _)
  have h2 : SegI (w.alloc (Obj.cells #[.int .i64 z1, .int .i64 z2] 3)) (some ⟨w.heap.size, 0, none⟩) 2 2 [z1, z2] := by
    refine ⟨rfl, Nat.le_refl _, by omega, hz, .inr ⟨_, _, rfl, fun j hj => ?_⟩⟩
    rw [Nat.zero_add, World.cell?_alloc_new]
    rcases j with _ | _ | j
    · rfl
    · rfl
    · omega
  exact (eqi a _ n 2 c 2 l [z1, z2] _ h1 h2).mono fun e w' ⟨he, hk⟩ => ⟨he, below_kept hb hk (by simp) (fun _ x => x.elim)⟩

theorem eq_two_yes (w : World) (base : Nat) (a : Option Addr) (n c : Nat) (z1 z2 : Int) (h : LI w base (.slice a n c) [z1, z2]) (hz : ∀ z ∈ [z1, z2], -9223372036854775808 ≤ z ∧ z ≤ 9223372036854775807) :
    Calls Try.prog 15 #[.slice a n c, .slice (some ⟨w.heap.size, 0, none⟩) 2 2] (w.alloc (Obj.cells #[.int .i64 z1, .int .i64 z2] 3)) fun e w' => e = .returned (.bool true) ∧ Below w.heap.size w w' :=
  (eq_two w base a n c [z1, z2] z1 z2 h (by simp) hz hz).mono fun e w' ⟨he, hb⟩ => ⟨by rw [he, decide_eq_true rfl], hb⟩

/-- An instruction of an opcode alone. -/
abbrev bare (c : Int) : Inx := ⟨c, 0, none, 0, 0, []⟩
theorem bare_at {w : World} {b o : Nat} {c : Int} (h0 : w.cell? ⟨b, o, none⟩ = some (.int .u8 c)) (h1 : w.cell? ⟨b, o + 1, none⟩ = some (.int .i64 0)) (h2 : w.cell? ⟨b, o + 2, none⟩ = some (.slice none 0 0)) (hc : 0 ≤ c ∧ c ≤ 255) : InAt w b o (bare c) :=
  ⟨h0, h1, h2, hc.1, hc.2, by simp, by simp, by simp, fun _ => ⟨rfl, Nat.le_refl _, by simp, by simp, .inl rfl⟩⟩

/-- The code of works. -/
def four : List Inx := [bare 4, bare 5, bare 6, bare 6]
def three : List Inx := [bare 4, bare 5, bare 6]

theorem four_at (w : World) (b : Nat) (h : ∀ j, j < 12 → w.cell? ⟨b, j, none⟩ = (#[Value.int .u8 4, .int .i64 0, .slice none 0 0, .int .u8 5, .int .i64 0, .slice none 0 0, .int .u8 6, .int .i64 0, .slice none 0 0, .int .u8 6, .int .i64 0, .slice none 0 0] : Array Value)[j]?) : Cod w b 0 4 four ∧ Cod w b 0 3 three := by
  have h0 : InAt w b 0 (bare 4) := bare_at (h 0 (by omega)) (h 1 (by omega)) (h 2 (by omega)) (by decide)
  have h1 : InAt w b 3 (bare 5) := bare_at (h 3 (by omega)) (h 4 (by omega)) (h 5 (by omega)) (by decide)
  have h2 : InAt w b 6 (bare 6) := bare_at (h 6 (by omega)) (h 7 (by omega)) (h 8 (by omega)) (by decide)
  have h3 : InAt w b 9 (bare 6) := bare_at (h 9 (by omega)) (h 10 (by omega)) (h 11 (by omega)) (by decide)
  constructor
  · refine ⟨rfl, fun j hj => ?_⟩
    rcases j with _ | _ | _ | _ | j
    · exact h0
    · exact h1
    · exact h2
    · exact h3
    · omega
  · refine ⟨rfl, fun j hj => ?_⟩
    rcases j with _ | _ | _ | j
    · exact h0
    · exact h1
    · exact h2
    · omega

theorem four_res : res (opF four) 4 0 = (0, 0) := by decide
theorem three_res : res (opF three) 3 0 = (38, 3) := by decide
theorem four_vals : enF (opF four) 4 1 = 2 ∧ elF (opF four) 4 0 = 1 ∧ owF (opF four) 4 2 = 0 ∧ labs (opF four) 1 = [0, -1] ∧ pls (opF four) 4 0 4 0 [] = [1, 2] := by decide
theorem four_next : nxtV (opF four) 4 0 (bare 4) = [1, 2] := by
  unfold nxtV
  rw [four_res, if_pos (by decide)]
  have h := nub_facts (pls (opF four) 4 0 4 0 [])
  rw [four_vals.2.2.2.2] at h
  show nub (pls (opF four) 4 0 4 0 []) = [1, 2]
  rw [four_vals.2.2.2.2]
  exact lt_ext h.1 (by decide) h.2
theorem four_labs : labV (opF four) 4 1 = [0, -1] := by
  unfold labV
  rw [four_res, if_pos (by decide)]
  exact four_vals.2.2.2.1

set_option maxRecDepth 100000 in
set_option maxHeartbeats 4000000 in
theorem works (w : World) : Calls Try.prog 5 #[] w fun e w' => e = .returned (.bool true) ∧ Below w.heap.size w w' := by
  obtain ⟨o, ho⟩ : ∃ o, o = Obj.cells #[Value.int .u8 4, .int .i64 0, .slice none 0 0, .int .u8 5, .int .i64 0, .slice none 0 0, .int .u8 6, .int .i64 0, .slice none 0 0, .int .u8 6, .int .i64 0, .slice none 0 0] 31 := ⟨_, rfl⟩
  have hb0 := (Below.refl w.heap.size w).alloc (Nat.le_refl _) o
  have hcod := four_at (w.alloc o) w.heap.size (fun j _ => by rw [ho, World.cell?_alloc_new])
  have H1 := hid (map_in (some ⟨w.heap.size, 0, none⟩) 4 4 four (w.alloc o) (by omega) (by omega) ⟨rfl, .inr ⟨_, _, rfl, hcod.1⟩⟩)
  have HC := hid hcod
  have HB0 := hid hb0
  clear hb0 hcod
  subst ho
  go_enter Try.func5, Try.ntmps5
  go_wp2_with fail
  refine H1.out.mono ?_
  generalize w.alloc (Obj.cells #[Value.int .u8 4, .int .i64 0, .slice none 0 0, .int .u8 5, .int .i64 0, .slice none 0 0, .int .u8 6, .int .i64 0, .slice none 0 0, .int .u8 6, .int .i64 0, .slice none 0 0] 31) = w0 at *
  rintro e w1 ⟨a1, a2, a3, m, rfl, hM, hb1⟩
  rcases hM with ⟨h0, _⟩ | ⟨hr, hg, rfl, A, B, C, x1, x2, x3, x4, x5, x6, rfl, rfl, rfl, y1, y2, y3⟩
  · exact absurd (by rw [four_res]) h0
  have H2 := hid (map_in (some ⟨w.heap.size, 0, none⟩) 3 3 three w1 (by omega) (by omega) ⟨rfl, .inr ⟨_, _, rfl, HC.out.2.later hb1 (Nat.le_refl _)⟩⟩)
  rw [three_res] at H2
  have hA := y1.lt
  have hB := y2.lt
  have hC := y3.lt
  have k1 := y1.cell 1 (by omega)
  have k2 := y2.cell 0 (by omega)
  have k3 := y3.cell 2 (by omega)
  rw [four_vals.1] at k1
  rw [four_vals.2.1] at k2
  rw [four_vals.2.2.1] at k3
  have K1 := hid k1
  have K2 := hid k2
  have K3 := hid k3
  have hs1 := hb1.size
  have HB1 := hid hb1
  clear y1 y2 y3 hg hr hb1 k1 k2 k3
  rw [four_res]
  go_wp2_with fail
  refine H2.out.mono ?_
  rintro e w2 ⟨b1, b2, b3, m2, rfl, hM2, hb2⟩
  have k1 := (hb2.cell (p := ⟨A, 1, none⟩) (by exact hA)).trans K1.out
  have k2 := (hb2.cell (p := ⟨B, 0, none⟩) (by exact hB)).trans K2.out
  have k3 := (hb2.cell (p := ⟨C, 2, none⟩) (by exact hC)).trans K3.out
  have hs2 := hb2.size
  have HB2 := hid hb2
  have hcod2 := (HC.out.1.later HB1.out (Nat.le_refl _)).later hb2 (Nat.le_refl _)
  have H3 := hid (nextC (some ⟨w.heap.size, 0, none⟩) 4 4 four 0 w2 (by omega) (by omega) ⟨rfl, .inr ⟨_, _, rfl, hcod2⟩⟩ (fun j hj => by rcases j with _ | _ | _ | _ | j <;> first | omega | (simp [four, bare])))
  have hnx : nxtV (opF four) 4 0 (four.getD (0 : Int).toNat dx) = [1, 2] := four_next
  rw [hnx] at H3
  have HC2 := hid hcod2
  clear hM2 hb2 hcod2 hnx
  go_wp2_with fail
  refine H3.out.mono ?_
  rintro e w3 ⟨v3, rfl, hL3, hb3⟩
  obtain ⟨na, nc, rfl⟩ := hL3.slice
  have H4 := hid (eq_two_yes w3 _ na _ nc 1 2 hL3 (by decide))
  have hs3 := hb3.size
  have hcod3 := HC2.out.later hb3 (Nat.le_refl _)
  have HC3 := hid hcod3
  have HB3 := hid hb3
  clear hL3 hb3 hcod3
  go_wp2_with fail
  refine H4.out.mono ?_
  rintro e w4 ⟨rfl, hb4⟩
  have hcod4 := HC3.out.later hb4 (Nat.le_refl _)
  have H5 := hid (labelsC (some ⟨w.heap.size, 0, none⟩) 4 4 four 1 w4 (by omega) (by omega) ⟨rfl, .inr ⟨_, _, rfl, hcod4⟩⟩)
  rw [four_labs] at H5
  have hs4 := hb4.size
  have HB4 := hid hb4
  clear hb4 hcod4
  go_wp2_with fail
  refine H5.out.mono ?_
  rintro e w5 ⟨v5, rfl, hL5, hb5⟩
  obtain ⟨ea, ec, rfl⟩ := hL5.slice
  have H6 := hid (eq_two_yes w5 _ ea _ ec 0 (-1) hL5 (by decide))
  have hs5 := hb5.size
  have HB5 := hid hb5
  clear hL5 hb5
  go_wp2_with fail
  refine H6.out.mono ?_
  rintro e w6 ⟨rfl, hb6⟩
  have HB6 := hid hb6
  clear hb6
  go_wp2_with fail
  go_ret
  refine ⟨rfl, ?_⟩
  have e1 := HB0.out.trans (HB1.out.mono HB0.out.size)
  have e2 := e1.trans (HB2.out.mono e1.size)
  have e3 := e2.trans (HB3.out.mono e2.size)
  have e4 := e3.trans (HB4.out.mono e3.size)
  have e5 := e4.trans (HB5.out.mono e4.size)
  exact e5.trans (HB6.out.mono e5.size)
end Go.Proofs.Ytkcidabokgadcaa
