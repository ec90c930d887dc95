/-
  The walk over slices.Equal at lists of numbers.
-/
import Derived.Test.YtfcklkmfdjjfoaaDoorEqi
namespace Go.Proofs.YtfcklkmfdjjfoaaDoor
open Go.RowKit
set_option linter.unusedVariables false

set_option maxHeartbeats 1000000 in
theorem eql_in (b1 o1 b2 o2 n c1 c2 : Nat) (xs ys : List Int) (w : World) (hz : xs.length = n) (hy : ys.length = n) (hn : n ≤ 140737488355328)
    (hc1 : ∀ j, j < n → w.cell? ⟨b1, o1 + j, none⟩ = some (.int .i64 (xs.getD j 0)))
    (hc2 : ∀ j, j < n → w.cell? ⟨b2, o2 + j, none⟩ = some (.int .i64 (ys.getD j 0))) :
    Calls Tryd.prog 29 #[.slice (some ⟨b1, o1, none⟩) n c1, .slice (some ⟨b2, o2, none⟩) n c2] w fun e w' => e = .returned (.bool (decide (xs = ys))) ∧ Kept (fun _ => False) w w' := by
  have hne : ((n : Int) != n) = false := by simp
  go_enter Tryd.func29, Tryd.ntmps29
  go_wp2
  go_loopw [13] (fun i wr => ∃ k m : Nat, k ≤ n ∧ i = .int .i64 k ∧ wr = w.drewN m ∧ xs.take k = ys.take k) (fun i _ => n - (intOf i).toNat)
  case atStart => exact ⟨0, 0, by omega, rfl, rfl, by simp⟩
  case round =>
    obtain ⟨k, m, hk, rfl, rfl, heq⟩ := hrel
    by_cases hlt : k < n
    · have g1 : w.cell? ⟨b1, o1 + k, none⟩ = some (.int .i64 (xs.getD k 0)) := hc1 k hlt
      have g2 : w.cell? ⟨b2, o2 + k, none⟩ = some (.int .i64 (ys.getD k 0)) := hc2 k hlt
      have hstep : xs.getD k 0 = ys.getD k 0 → xs.take (k + 1) = ys.take (k + 1) := fun e => by
        rw [List.getD_eq_getElem?_getD, List.getD_eq_getElem?_getD, List.getElem?_eq_getElem (show k < xs.length by omega), List.getElem?_eq_getElem (show k < ys.length by omega)] at e
        simp only [Option.getD_some] at e
        rw [List.take_succ_eq_append_getElem (show k < xs.length by omega), List.take_succ_eq_append_getElem (show k < ys.length by omega), heq, e]
      have hdiff : xs.getD k 0 ≠ ys.getD k 0 → xs ≠ ys := fun h e => h (by rw [e])
      have HST := hid hstep
      have HDI := hid hdiff
      clear hc1 hc2 heq hstep hdiff
      have hlt' : (k : Int) < (n : Int) := by omega
      generalize xs.getD k 0 = u at *
      generalize ys.getD k 0 = v at *
      by_cases huv : u = v
      · have HS2 := hid (HST.out huv)
        clear HST HDI
        subst huv
        have hb : (u != u) = false := by simp
        have hb' : (u == u) = true := by simp
        go_wp2
        go_quiet (fail)
        go_wp2
        exact ⟨⟨k + 1, m + nq, by omega, by go_num, rfl, HS2.out⟩, by simp [intOf]; omega⟩
      · have hb : (u != v) = true := by simpa using huv
        have hb' : (u == v) = false := by simpa using huv
        have HUV := hid huv
        clear huv
        go_wp2
        go_quiet (fail)
        go_wp2
        go_ret
        exact ⟨by rw [decide_eq_false (HDI.out HUV.out)]; rfl, (Kept.drewN _ w m).trans (Kept.drewN _ _ nq)⟩
    · have hkn : k = n := by omega
      have HE := hid heq
      clear hc1 hc2 heq
      go_wp2
      go_ret
      refine ⟨?_, Kept.drewN _ w m⟩
      have := HE.out
      rw [List.take_of_length_le (by omega), List.take_of_length_le (by omega)] at this
      rw [decide_eq_true this]; rfl

set_option maxHeartbeats 400000 in
theorem eql_none (a1 a2 : Option Addr) (c1 c2 : Nat) (w : World) :
    Calls Tryd.prog 29 #[.slice a1 0 c1, .slice a2 0 c2] w fun e w' => e = .returned (.bool true) ∧ Kept (fun _ => False) w w' := by
  go_enter Tryd.func29, Tryd.ntmps29
  go_wp2
  refine wp_loop_rounds 1 ?_
  rw [rounds_succ]
  go_wp2
  go_ret
  exact ⟨rfl, Kept.refl _ _⟩

set_option maxHeartbeats 400000 in
theorem eql_len (a1 a2 : Option Addr) (n1 n2 c1 c2 : Nat) (w : World) (h : n1 ≠ n2) (h1 : n1 ≤ 140737488355328) (h2 : n2 ≤ 140737488355328) :
    Calls Tryd.prog 29 #[.slice a1 n1 c1, .slice a2 n2 c2] w fun e w' => e = .returned (.bool false) ∧ Kept (fun _ => False) w w' := by
  have hb : ((n1 : Int) != n2) = true := by simp; omega
  have hb' : ((n1 : Int) == n2) = false := by simp; omega
  go_enter Tryd.func29, Tryd.ntmps29
  go_wp2
  go_ret
  exact ⟨rfl, Kept.refl _ _⟩

/-- A slice of ints of any length: its elements are 'l'. -/
def SegL (w : World) (a : Option Addr) (n cap : Nat) (l : List Int) : Prop :=
  l.length = n ∧ n ≤ cap ∧ n ≤ 140737488355328 ∧ (n = 0 ∨ ∃ b off, a = some ⟨b, off, none⟩ ∧ ∀ j, j < n → w.cell? ⟨b, off + j, none⟩ = some (.int .i64 (l.getD j 0)))
theorem SegI.toL {w : World} {a : Option Addr} {n cap : Nat} {l : List Int} (h : SegI w a n cap l) : SegL w a n cap l := ⟨h.1, h.2.1, by have := h.2.2.1; omega, h.2.2.2.2⟩
theorem SegL.later {w w' : World} {a : Option Addr} {n cap : Nat} {l : List Int} {B : Nat} (h : SegL w a n cap l) (hb : Below B w w') (hB : w.heap.size ≤ B) : SegL w' a n cap l := by
  obtain ⟨hz, h1, h2, ha⟩ := h
  refine ⟨hz, h1, h2, ?_⟩
  rcases ha with ha | ⟨b, off, e, hc⟩
  · exact .inl ha
  · refine .inr ⟨b, off, e, fun j hj => ?_⟩
    have := hc j hj
    have hlt : b < w.heap.size := block_lt_of_cell this
    exact (hb.cell (p := ⟨b, off + j, none⟩) (by exact Nat.lt_of_lt_of_le hlt hB)).trans this
theorem SegL.keep {S : Nat → Prop} {w w' : World} {a : Option Addr} {n cap : Nat} {l : List Int} (h : SegL w a n cap l) (hk : Kept S w w') (hs : ∀ b off, a = some ⟨b, off, none⟩ → n ≠ 0 → ¬ S b) : SegL w' a n cap l := by
  obtain ⟨hz, h1, h2, ha⟩ := h
  refine ⟨hz, h1, h2, ?_⟩
  by_cases h0 : n = 0
  · exact .inl h0
  rcases ha with ha | ⟨b, off, e, hc⟩
  · exact .inl ha
  · exact .inr ⟨b, off, e, fun j hj => hk.cell (hc j hj) (hs b off e h0)⟩
theorem RI.segL {w : World} {B n : Nat} {f : Nat → Int} (h : RI w B n f) (hn : n ≤ 1048576) : SegL w (some ⟨B, 0, none⟩) n n ((List.range n).map f) := by
  refine ⟨by simp, Nat.le_refl _, by omega, .inr ⟨_, _, rfl, fun j hj => ?_⟩⟩
  rw [Nat.zero_add, h.cell j hj]; simp [hj]
theorem LI.segL {w : World} {base : Nat} {a : Option Addr} {k c : Nat} {l : List Int} (h : LI w base (.slice a k c) l) (hk : l.length ≤ 1048576) (hc : k ≤ c) : SegL w a k c l := by
  obtain ⟨h1, h2⟩ := h.cell
  refine ⟨h1.symm, hc, by omega, ?_⟩
  rcases h2 with h2 | ⟨B, h2, h3⟩
  · exact .inl h2
  · exact .inr ⟨B, 0, h2, fun j hj => by rw [Nat.zero_add]; exact h3 j hj⟩
theorem LI.cap {w : World} {base : Nat} {a : Option Addr} {k c : Nat} {l : List Int} (h : LI w base (.slice a k c) l) : k ≤ c := by
  rcases h.2 with ⟨h1, h2⟩ | ⟨g, cp, cur, h1, h2, h3, h4, h5, h6, h7⟩
  · simp at h1; omega
  · simp at h1; omega

/-- slices.Equal. -/
theorem eql (a1 a2 : Option Addr) (n1 n2 c1 c2 : Nat) (xs ys : List Int) (w : World) (h1 : SegL w a1 n1 c1 xs) (h2 : SegL w a2 n2 c2 ys) :
    Calls Tryd.prog 29 #[.slice a1 n1 c1, .slice a2 n2 c2] w fun e w' => e = .returned (.bool (decide (xs = ys))) ∧ Kept (fun _ => False) w w' := by
  obtain ⟨hz1, _, hn1, g1⟩ := h1
  obtain ⟨hz2, _, hn2, g2⟩ := h2
  by_cases hne : n1 = n2
  · subst hne
    by_cases h0 : n1 = 0
    · subst h0
      refine (eql_none a1 a2 c1 c2 w).mono fun e w' ⟨he, hw⟩ => ⟨?_, hw⟩
      rw [List.eq_nil_of_length_eq_zero hz1, List.eq_nil_of_length_eq_zero hz2, decide_eq_true rfl]; exact he
    rcases g1 with g1 | ⟨b1, o1, rfl, g1⟩
    · exact absurd g1 h0
    rcases g2 with g2 | ⟨b2, o2, rfl, g2⟩
    · exact absurd g2 h0
    exact eql_in b1 o1 b2 o2 n1 c1 c2 xs ys w hz1 hz2 hn1 g1 g2
  · refine (eql_len a1 a2 n1 n2 c1 c2 w hne hn1 hn2).mono fun e w' ⟨he, hw⟩ => ⟨?_, hw⟩
    rw [decide_eq_false (fun e => hne (by rw [← hz1, ← hz2, e]))]; exact he
end Go.Proofs.YtfcklkmfdjjfoaaDoor
