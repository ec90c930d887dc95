/-
  The walks over Leaders, tableOf and EqBools.
-/
import Derived.Test.YtfcklkmfdjjfoaaDoorOf
import Derived.Test.YtfcklkmfdjjfoaaDoorRefF
namespace Go.Proofs.YtfcklkmfdjjfoaaDoor
open Go.RowKit
set_option linter.unusedVariables false

/-- What Leaders answers: none, or a list in memory of its own. -/
def LdO (O : Nat → Int) (n base : Nat) (w : World) (a1 : Option Addr) (m : Nat) : Prop :=
  ((res O n 0).1 ≠ 0 ∧ a1 = none ∧ m = 0) ∨ (Good O n ∧ m = n ∧ ∃ B, base ≤ B ∧ a1 = some ⟨B, 0, none⟩ ∧ RB w B n (leB O n))

set_option maxRecDepth 100000 in
set_option maxHeartbeats 4000000 in
theorem leadsC (a : Option Addr) (n cap : Nat) (xs : List Inx) (w : World) (hn : n ≤ 1048576) (hcap : n ≤ cap) (hc : CodS w a n xs) :
    Calls Tryd.prog 10 #[.slice a n cap] w fun e w' => ∃ a1 m, e = .returned (.slice a1 m m) ∧ LdO (opF xs) n w.heap.size w' a1 m ∧ Below w.heap.size w w' := by
  have H1 := hid (map_in a n cap xs w hn hcap hc)
  have HC := hid hc
  clear hc
  go_enter Tryd.func10, Tryd.ntmps10
  go_wp2_with fail
  refine H1.out.mono ?_
  rintro e w1 ⟨a1, a2, a3, m, rfl, hM, hb1⟩
  have hs1 := hb1.size
  have HB := hid hb1
  rcases hM with ⟨h0, rfl, rfl, rfl, rfl⟩ | ⟨hr, hg, hm, A, B, C, x1, x2, x3, x4, x5, x6, rfl, rfl, rfl, y1, y2, y3⟩
  · have H0 := hid h0
    have h0' : ((res (opF xs) n 0).1 != 0) = true := by simpa using h0
    clear h0 hb1
    generalize hg0 : (res (opF xs) n 0).1 = er0 at *
    generalize (res (opF xs) n 0).2 = er1 at *
    have HG0 := hid hg0
    clear hg0
    go_wp2_with fail
    go_ret
    exact ⟨_, _, rfl, .inl ⟨by rw [HG0.out]; exact H0.out, rfl, rfl⟩, HB.out⟩
  · have hm' := hm.symm
    subst hm'
    have hn0 := hg.1
    obtain ⟨b, off, rfl, hcd⟩ := HC.out.2.resolve_left (by omega)
    have HL := hid (leadersC A b off n cap xs w1 hn hcap (hcd.later hb1 (Nat.le_refl _)) hg y1)
    have HG := hid hg
    rw [hr]
    clear hcd hb1 hg y1 y2 y3 hr
    go_wp2_with fail
    refine HL.out.mono ?_
    rintro e w2 ⟨G, rfl, hG0, hG, hb2⟩
    have HGG := hid hG
    have HB2 := hid (HB.out.trans (hb2.mono hs1))
    clear hG hb2
    go_wp2_with fail
    go_ret
    exact ⟨_, _, rfl, .inr ⟨HG.out, rfl, G, by omega, rfl, HGG.out⟩, HB2.out⟩

theorem set5 {w : World} {Z : Nat} {u0 u1 u2 u3 u4 : Value} (h0 : (w.cell? ⟨Z, 0, none⟩).isSome = true) (h1 : (w.cell? ⟨Z, 1, none⟩).isSome = true) (h2 : (w.cell? ⟨Z, 2, none⟩).isSome = true) (h3 : (w.cell? ⟨Z, 3, none⟩).isSome = true) (h4 : (w.cell? ⟨Z, 4, none⟩).isSome = true) :
    let W := (((((w.setCell ⟨Z, 0, none⟩ u0).setCell ⟨Z, 1, none⟩ u1).setCell ⟨Z, 2, none⟩ u2).setCell ⟨Z, 3, none⟩ u3).setCell ⟨Z, 4, none⟩ u4)
    W.cell? ⟨Z, 0, none⟩ = some u0 ∧ W.cell? ⟨Z, 1, none⟩ = some u1 ∧ W.cell? ⟨Z, 2, none⟩ = some u2 ∧ W.cell? ⟨Z, 3, none⟩ = some u3 ∧ W.cell? ⟨Z, 4, none⟩ = some u4 ∧ Kept (fun k => k = Z) w W := by
  intro W
  have ot : ∀ (v : World) (i j : Nat) (u : Value), i ≠ j → (v.setCell ⟨Z, i, none⟩ u).cell? ⟨Z, j, none⟩ = v.cell? ⟨Z, j, none⟩ := fun v i j u h => World.cell?_setCell_other _ _ _ _ (by simp; try exact h)
  refine ⟨?_, ?_, ?_, ?_, ?_, ?_⟩
  · show World.cell? _ _ = _
    rw [ot _ 4 0 _ (by decide), ot _ 3 0 _ (by decide), ot _ 2 0 _ (by decide), ot _ 1 0 _ (by decide)]
    exact World.cell?_setCell_same' _ _ _ h0
  · show World.cell? _ _ = _
    rw [ot _ 4 1 _ (by decide), ot _ 3 1 _ (by decide), ot _ 2 1 _ (by decide)]
    exact World.cell?_setCell_same' _ _ _ (by rw [ot _ 0 1 _ (by decide)]; exact h1)
  · show World.cell? _ _ = _
    rw [ot _ 4 2 _ (by decide), ot _ 3 2 _ (by decide)]
    exact World.cell?_setCell_same' _ _ _ (by rw [ot _ 1 2 _ (by decide), ot _ 0 2 _ (by decide)]; exact h2)
  · show World.cell? _ _ = _
    rw [ot _ 4 3 _ (by decide)]
    exact World.cell?_setCell_same' _ _ _ (by rw [ot _ 2 3 _ (by decide), ot _ 1 3 _ (by decide), ot _ 0 3 _ (by decide)]; exact h3)
  · exact World.cell?_setCell_same' _ _ _ (by rw [ot _ 3 4 _ (by decide), ot _ 2 4 _ (by decide), ot _ 1 4 _ (by decide), ot _ 0 4 _ (by decide)]; exact h4)
  · exact ((((Kept.set w ⟨Z, 0, none⟩ u0).trans (Kept.set _ ⟨Z, 1, none⟩ u1)).trans (Kept.set _ ⟨Z, 2, none⟩ u2)).trans (Kept.set _ ⟨Z, 3, none⟩ u3)).trans (Kept.set _ ⟨Z, 4, none⟩ u4)

/-- What tableOf answers. -/
def TbO (O : Nat → Int) (n base : Nat) (w : World) (v1 v2 : Value) : Prop :=
  ((res O n 0).1 ≠ 0 ∧ v1 = nilV ∧ v2 = nilV) ∨
  (res O n 0 = (0, 0) ∧ LI w base v1 ((List.range n).map (enF O n)) ∧ LI w base v2 ((List.range n).map (elF O n)))

set_option maxRecDepth 100000 in
set_option maxHeartbeats 4000000 in
theorem tableC (a : Option Addr) (n cap : Nat) (xs : List Inx) (w : World) (hn : n ≤ 1048576) (hcap : n ≤ cap) (hc : CodS w a n xs) :
    Calls Tryd.prog 7 #[.slice a n cap] w fun e w' => ∃ a1 n1 c1 a2 n2 c2, e = .returned (tabV none 0 0 a1 n1 c1 a2 n2 c2 none 0 0 0) ∧ TbO (opF xs) n w.heap.size w' (.slice a1 n1 c1) (.slice a2 n2 c2) ∧ Below w.heap.size w w' := by
  obtain ⟨ot, hot⟩ : ∃ ot, ot = Obj.cells #[Value.slice none 0 0, .slice none 0 0, .slice none 0 0, .slice none 0 0, .int .i64 0] 26 := ⟨_, rfl⟩
  have hb0 := (Below.refl w.heap.size w).alloc (Nat.le_refl _) ot
  have HM := hid (refMap a n cap xs (w.alloc ot) hn hcap (hc.later hb0 (Nat.le_refl _)))
  have r0 : ∀ i, (w.alloc ot).cell? ⟨w.heap.size, i, none⟩ = (#[Value.slice none 0 0, .slice none 0 0, .slice none 0 0, .slice none 0 0, .int .i64 0] : Array Value)[i]? := fun i => by rw [hot, World.cell?_alloc_new]
  have f0 : ∀ i, (w.alloc ot).frozen? ⟨w.heap.size, i, none⟩ = false := fun i => by rw [hot]; simp [go_sem]
  have z0 : (w.alloc ot).heap.size = w.heap.size + 1 := by simp
  have HB0 := hid hb0
  clear hc hb0
  go_enter Tryd.func7, Tryd.ntmps7
  go_wp2_with fail
  rw [← hot]
  clear hot
  generalize w.alloc ot = W0 at *
  refine HM.out.mono ?_
  rintro e w1 ⟨a1, a2, a3, n1, n2, n3, c1, c2, c3, rfl, hM, hb1⟩
  have hs1 := hb1.size
  have q : ∀ i, w1.cell? ⟨w.heap.size, i, none⟩ = (#[Value.slice none 0 0, .slice none 0 0, .slice none 0 0, .slice none 0 0, .int .i64 0] : Array Value)[i]? := fun i => (hb1.cell (p := ⟨w.heap.size, i, none⟩) (by show w.heap.size < _; omega)).trans (r0 i)
  have fz : ∀ i, w1.frozen? ⟨w.heap.size, i, none⟩ = false := fun i => (frozen_of_block (hb1.block w.heap.size (by omega)) i).trans (f0 i)
  have q0 := q 0
  have q1 := q 1
  have q2 := q 2
  have q3 := q 3
  have q4 := q 4
  have e0 := fz 0
  have e1 := fz 1
  have e2 := fz 2
  have e3 := fz 3
  have e4 := fz 4
  simp only [List.getElem?_toArray, List.getElem?_cons_zero, List.getElem?_cons_succ] at q0 q1 q2 q3 q4
  have HMM := hid hM
  have HB := hid (HB0.out.trans (hb1.mono (by omega)))
  clear HM hM hb1 r0 f0 q fz
  go_wp2_with fail
  have S5 := set5 (w := w1) (Z := w.heap.size) (u0 := .slice none 0 0) (u1 := .slice a1 n1 c1) (u2 := .slice a2 n2 c2) (u3 := .slice none 0 0) (u4 := .int .i64 0) (by rw [q0]; rfl) (by rw [q1]; rfl) (by rw [q2]; rfl) (by rw [q3]; rfl) (by rw [q4]; rfl)
  generalize (((((w1.setCell ⟨w.heap.size, 0, none⟩ (.slice none 0 0)).setCell ⟨w.heap.size, 1, none⟩ (.slice a1 n1 c1)).setCell ⟨w.heap.size, 2, none⟩ (.slice a2 n2 c2)).setCell ⟨w.heap.size, 3, none⟩ (.slice none 0 0)).setCell ⟨w.heap.size, 4, none⟩ (.int .i64 0)) = W5 at *
  obtain ⟨s0, s1, s2, s3, s4, kk⟩ := S5
  have HK := hid kk
  clear kk
  refine bodyPost_ret (v := tabV none 0 0 a1 n1 c1 a2 n2 c2 none 0 0 0) ?_ rfl ?_
  · rw [results_one rfl]
    go_simp
  refine ⟨a1, n1, c1, a2, n2, c2, rfl, ?_, below_kept HB.out HK.out HB.out.size (fun k e => by omega)⟩
  rcases HMM.out with ⟨h0, h1, h2, h3⟩ | ⟨hr, h1, h2, h3⟩
  · exact .inl ⟨h0, h1, h2⟩
  · exact .inr ⟨hr, (h1.kept HK.out (fun b hb e => by have := (h1.block hb).1; omega)).mono (by omega), (h2.kept HK.out (fun b hb e => by have := (h2.block hb).1; omega)).mono (by omega)⟩
set_option maxHeartbeats 1000000 in
theorem eqb_in (b1 o1 b2 o2 n c1 c2 : Nat) (xs ys : List Bool) (w : World) (hz : xs.length = n) (hy : ys.length = n) (hn : n ≤ 1099511627776)
    (hc1 : ∀ j, j < n → w.cell? ⟨b1, o1 + j, none⟩ = some (.bool (xs.getD j false)))
    (hc2 : ∀ j, j < n → w.cell? ⟨b2, o2 + j, none⟩ = some (.bool (ys.getD j false))) :
    Calls Tryd.prog 15 #[.slice (some ⟨b1, o1, none⟩) n c1, .slice (some ⟨b2, o2, none⟩) n c2] w fun e w' => e = .returned (.bool (decide (xs = ys))) ∧ Kept (fun _ => False) w w' := by
  have hne : ((n : Int) != n) = false := by simp
  go_enter Tryd.func15, Tryd.ntmps15
  go_wp2
  go_loopw [5] (fun i wr => ∃ k m : Nat, k ≤ n ∧ i = .int .i64 k ∧ wr = w.drewN m ∧ xs.take k = ys.take k) (fun i _ => n - (intOf i).toNat)
  case atStart => exact ⟨0, 0, by omega, rfl, rfl, by simp⟩
  case round =>
    obtain ⟨k, m, hk, rfl, rfl, heq⟩ := hrel
    by_cases hlt : k < n
    · have g1 : w.cell? ⟨b1, o1 + k, none⟩ = some (.bool (xs.getD k false)) := hc1 k hlt
      have g2 : w.cell? ⟨b2, o2 + k, none⟩ = some (.bool (ys.getD k false)) := hc2 k hlt
      have hstep : xs.getD k false = ys.getD k false → xs.take (k + 1) = ys.take (k + 1) := fun e => by
        rw [List.getD_eq_getElem?_getD, List.getD_eq_getElem?_getD, List.getElem?_eq_getElem (show k < xs.length by omega), List.getElem?_eq_getElem (show k < ys.length by omega)] at e
        simp only [Option.getD_some] at e
        rw [List.take_succ_eq_append_getElem (show k < xs.length by omega), List.take_succ_eq_append_getElem (show k < ys.length by omega), heq, e]
      have hdiff : xs.getD k false ≠ ys.getD k false → xs ≠ ys := fun h e => h (by rw [e])
      have HST := hid hstep
      have HDI := hid hdiff
      clear hc1 hc2 heq hstep hdiff
      have hlt' : (k : Int) < (n : Int) := by omega
      generalize xs.getD k false = u at *
      generalize ys.getD k false = v at *
      by_cases huv : u = v
      · have HS2 := hid (HST.out huv)
        clear HST HDI
        subst huv
        have hb : (u != u) = false := by simp
        have hb' : (u == u) = true := by simp
        go_wp2
        go_quiet (fail)
        go_wp2
        exact ⟨⟨k + 1, m + nq, by omega, by go_num, rfl, HS2.out⟩, by simp [intOf]; omega⟩
      · have hb : (u != v) = true := by simpa using huv
        have hb' : (u == v) = false := by simpa using huv
        have HUV := hid huv
        clear huv
        go_wp2
        go_quiet (fail)
        go_wp2
        go_ret
        exact ⟨by rw [decide_eq_false (HDI.out HUV.out)]; rfl, (Kept.drewN _ w m).trans (Kept.drewN _ _ nq)⟩
    · have hkn : k = n := by omega
      have HE := hid heq
      clear hc1 hc2 heq
      go_wp2
      go_ret
      refine ⟨?_, Kept.drewN _ w m⟩
      have := HE.out
      rw [List.take_of_length_le (by omega), List.take_of_length_le (by omega)] at this
      rw [decide_eq_true this]; rfl

set_option maxHeartbeats 400000 in
theorem eqb_none (a1 a2 : Option Addr) (c1 c2 : Nat) (w : World) :
    Calls Tryd.prog 15 #[.slice a1 0 c1, .slice a2 0 c2] w fun e w' => e = .returned (.bool true) ∧ Kept (fun _ => False) w w' := by
  go_enter Tryd.func15, Tryd.ntmps15
  go_wp2
  refine wp_loop_rounds 1 ?_
  rw [rounds_succ]
  go_wp2
  go_ret
  exact ⟨rfl, Kept.refl _ _⟩

set_option maxHeartbeats 400000 in
theorem eqb_len (a1 a2 : Option Addr) (n1 n2 c1 c2 : Nat) (w : World) (h : n1 ≠ n2) (h1 : n1 ≤ 1099511627776) (h2 : n2 ≤ 1099511627776) :
    Calls Tryd.prog 15 #[.slice a1 n1 c1, .slice a2 n2 c2] w fun e w' => e = .returned (.bool false) ∧ Kept (fun _ => False) w w' := by
  have hb : ((n1 : Int) != n2) = true := by simp; omega
  have hb' : ((n1 : Int) == n2) = false := by simp; omega
  go_enter Tryd.func15, Tryd.ntmps15
  go_wp2
  go_ret
  exact ⟨rfl, Kept.refl _ _⟩


/-- A slice of truths: its elements are 'l'. -/
def SegB (w : World) (a : Option Addr) (n : Nat) (l : List Bool) : Prop :=
  l.length = n ∧ n ≤ 1048576 ∧ (n = 0 ∨ ∃ b, a = some ⟨b, 0, none⟩ ∧ ∀ j, j < n → w.cell? ⟨b, j, none⟩ = some (.bool (l.getD j false)))
theorem RB.seg {w : World} {B n : Nat} {f : Nat → Bool} (h : RB w B n f) (hn : n ≤ 1048576) : SegB w (some ⟨B, 0, none⟩) n ((List.range n).map f) := by
  refine ⟨by simp, hn, .inr ⟨_, rfl, fun j hj => ?_⟩⟩
  rw [h.cell j hj]; simp [hj]
theorem SegB.later {w w' : World} {a : Option Addr} {n : Nat} {l : List Bool} {B : Nat} (h : SegB w a n l) (hb : Below B w w') (hB : w.heap.size ≤ B) : SegB w' a n l := by
  obtain ⟨hz, h2, ha⟩ := h
  refine ⟨hz, h2, ?_⟩
  rcases ha with ha | ⟨b, e, hc⟩
  · exact .inl ha
  · refine .inr ⟨b, e, fun j hj => ?_⟩
    have := hc j hj
    have hlt : b < w.heap.size := block_lt_of_cell this
    exact (hb.cell (p := ⟨b, j, none⟩) (by exact Nat.lt_of_lt_of_le hlt hB)).trans this

/-- EqBools. -/
theorem eqb (a1 a2 : Option Addr) (n1 n2 c1 c2 : Nat) (xs ys : List Bool) (w : World) (h1 : SegB w a1 n1 xs) (h2 : SegB w a2 n2 ys) :
    Calls Tryd.prog 15 #[.slice a1 n1 c1, .slice a2 n2 c2] w fun e w' => e = .returned (.bool (decide (xs = ys))) ∧ Kept (fun _ => False) w w' := by
  obtain ⟨hz1, hn1, g1⟩ := h1
  obtain ⟨hz2, hn2, g2⟩ := h2
  by_cases hne : n1 = n2
  · subst hne
    by_cases h0 : n1 = 0
    · subst h0
      refine (eqb_none a1 a2 c1 c2 w).mono fun e w' ⟨he, hw⟩ => ⟨?_, hw⟩
      rw [List.eq_nil_of_length_eq_zero hz1, List.eq_nil_of_length_eq_zero hz2, decide_eq_true rfl]; exact he
    rcases g1 with g1 | ⟨b1, rfl, g1⟩
    · exact absurd g1 h0
    rcases g2 with g2 | ⟨b2, rfl, g2⟩
    · exact absurd g2 h0
    exact eqb_in b1 0 b2 0 n1 c1 c2 xs ys w hz1 hz2 (by omega) (fun j hj => by rw [Nat.zero_add]; exact g1 j hj) (fun j hj => by rw [Nat.zero_add]; exact g2 j hj)
  · refine (eqb_len a1 a2 n1 n2 c1 c2 w hne (by omega) (by omega)).mono fun e w' ⟨he, hw⟩ => ⟨?_, hw⟩
    rw [decide_eq_false (fun e => hne (by rw [← hz1, ← hz2, e]))]; exact he
end Go.Proofs.YtfcklkmfdjjfoaaDoor
