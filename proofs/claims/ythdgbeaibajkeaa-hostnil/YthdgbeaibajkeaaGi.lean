/-
  The walks over EqReplies, SizeReplies, Long, left, Taken and Left.
-/
import Derived.Test.YthdgbeaibajkeaaFi
namespace Go.Proofs.Ythdgbeaibajkeaa
open Go.RowKit
set_option linter.unusedVariables false

/-- The same replies, wherever they lie. -/
def SameR (xs ys : List Rp) : Prop := xs.length = ys.length ∧ ∀ j, j < xs.length → (xs.getD j rp0).l = (ys.getD j rp0).l ∧ (xs.getD j rp0).tr = (ys.getD j rp0).tr

set_option maxHeartbeats 1000000 in
theorem eqrs (Q1 Q2 : Nat → Prop) (a1 a2 : Option Addr) (n c1 c2 : Nat) (xs ys : List Rp) (w : World) (h1 : RpS Q1 w a1 n c1 xs) (h2 : RpS Q2 w a2 n c2 ys) (hs : SameR xs ys) :
    Calls Try.prog 10 #[.slice a1 n c1, .slice a2 n c2] w fun e w' => e = .returned (.bool true) ∧ Below w.heap.size w w' := by
  have hne : ((n : Int) != n) = false := by simp
  have hn : n ≤ 2000 := h1.2.2.1
  by_cases h0 : n = 0
  · subst h0
    clear h1 h2
    go_enter Try.func10, Try.ntmps10
    go_wp2
    refine wp_loop_rounds 1 ?_
    rw [rounds_succ]
    go_wp2
    go_ret
    exact ⟨rfl, Below.refl _ _⟩
  obtain ⟨b1, o1, rfl, _, g1⟩ := h1.2.2.2.resolve_left h0
  obtain ⟨b2, o2, rfl, _, g2⟩ := h2.2.2.2.resolve_left h0
  have G1 := hid g1
  have G2 := hid g2
  have HS := hid hs
  have hl : xs.length = n := h1.1
  clear h1 h2 g1 g2 hs
  go_enter Try.func10, Try.ntmps10
  go_wp2
  go_loopw [5] (fun i wr => ∃ k : Nat, k ≤ n ∧ i = .int .i64 k ∧ Below w.heap.size w wr) (fun i _ => n - (intOf i).toNat)
  case atStart => exact ⟨0, by omega, rfl, Below.refl _ _⟩
  case round =>
    obtain ⟨k, hk, rfl, hb⟩ := hrel
    have HB := hid hb
    by_cases hlt : k < n
    · obtain ⟨x, hx⟩ : ∃ x, x = xs.getD k rp0 := ⟨_, rfl⟩
      obtain ⟨y, hy⟩ : ∃ y, y = ys.getD k rp0 := ⟨_, rfl⟩
      have r1 := (G1.out k hlt).later hb
      have r2 := (G2.out k hlt).later hb
      have hsm := HS.out.2 k (by omega)
      rw [← hx] at r1 hsm
      rw [← hy] at r2 hsm
      clear hx hy hb
      obtain ⟨xa, xn, xc, xl, xt⟩ := x
      obtain ⟨ya, yn, yc, yl, yt⟩ := y
      obtain ⟨x0, x1, x2⟩ := r1
      obtain ⟨y0, y1, y2⟩ := r2
      simp only at x0 x1 x2 y0 y1 y2 hsm
      obtain ⟨rfl, rfl⟩ := hsm
      obtain rfl : yn = xn := by rw [← y2.1, ← x2.1]
      have hlt' : (k : Int) < (n : Int) := by omega
      have hkd := below_drewN (Below.refl wr.heap.size wr) 1
      have HE := hid (eqr Q1 Q2 xa ya yn xc yc xl xt (wr.drewN 1) (x2.later hkd) (y2.later hkd))
      have HKD := hid hkd
      have F1 := hid x0
      have F2 := hid x1
      have F3 := hid y0
      have F4 := hid y1
      clear x2 y2 hkd
      go_wp2_with fail
      go_region_held3 (fun W => W.cell? ⟨b1, o1 + k * 2, none⟩ = some (.slice xa yn xc) ∧ W.cell? ⟨b1, o1 + k * 2 + 1, none⟩ = some (.bool xt) ∧ W.cell? ⟨b2, o2 + k * 2, none⟩ = some (.slice ya yn yc) ∧ W.cell? ⟨b2, o2 + k * 2 + 1, none⟩ = some (.bool xt)) (go_keep)
        (first | (go_at_call 19; refine HE.out.mono ?_; rintro e w5 ⟨rfl, hb5⟩; have hk5 := HKD.out.trans (hb5.mono HKD.out.size); have t1 := later_cell hk5 F1.out; have t2 := later_cell hk5 F2.out; have t3 := later_cell hk5 F3.out; have t4 := later_cell hk5 F4.out; have HB5 := hid (HB.out.trans (hk5.mono HB.out.size)); clear hk5 hb5))
      go_wp2_with fail
      exact ⟨⟨k + 1, by omega, by go_num, HB5.out⟩, by simp [intOf]; omega⟩
    · have hkn : k = n := by omega
      clear hb
      go_wp2_with fail
      go_ret
      exact ⟨rfl, HB.out⟩

/-- How many replies and results there are. -/
def szR (xs : List Rp) : Nat → Nat
  | 0 => xs.length
  | k + 1 => szR xs k + (xs.getD k rp0).n

/-- Replies as they came in: their results' lengths alone. -/
def RawR (w : World) (a : Option Addr) (n : Nat) (xs : List Rp) : Prop :=
  xs.length = n ∧ n ≤ 140737488355328 ∧ (∀ j, j < n → (xs.getD j rp0).n ≤ 140737488355328) ∧ (n = 0 ∨ ∃ b off, a = some ⟨b, off, none⟩ ∧ ∀ j, j < n → w.cell? ⟨b, off + j * 2, none⟩ = some (.slice (xs.getD j rp0).a (xs.getD j rp0).n (xs.getD j rp0).c))

set_option maxHeartbeats 1000000 in
theorem size6 (a : Option Addr) (n c : Nat) (xs : List Rp) (w : World) (h : RawR w a n xs) (hn : n ≤ 2000) :
    Calls Try.prog 6 #[.slice a n c] w fun e w' => (∃ k, k ≤ n ∧ e = .returned (.int .i64 (szR xs k)) ∧ (k = n ∨ 2147483647 < szR xs k)) ∧ w' = w := by
  have hxl : xs.length = n := h.1
  by_cases h0 : n = 0
  · subst h0
    clear h
    go_enter Try.func6, Try.ntmps6
    go_wp2
    refine wp_loop_rounds 1 ?_
    rw [rounds_succ]
    go_wp2
    go_ret
    exact ⟨⟨0, Nat.le_refl _, by simp [szR, hxl], .inl rfl⟩, rfl⟩
  obtain ⟨b, off, rfl, g⟩ := h.2.2.2.resolve_left h0
  have HL := hid h.2.2.1
  have HG := hid g
  have HX := hid hxl
  clear h g hxl
  go_enter Try.func6, Try.ntmps6
  go_wp2
  go_loopw [3, 4] (fun v i wr => ∃ k : Nat, k ≤ n ∧ v = .int .i64 (szR xs k) ∧ i = .int .i64 k ∧ wr = w ∧ szR xs k ≤ 140739635838975) (fun _ i _ => n - (intOf i).toNat)
  case atStart => exact ⟨0, by omega, by simp [szR, HX.out], rfl, rfl, by simp [szR, HX.out]; omega⟩
  case round =>
    obtain ⟨k, hk, rfl, rfl, rfl, hz⟩ := hrel
    by_cases hlt : k < n
    · have hlt' : (k : Int) < (n : Int) := by omega
      have hL := HL.out k hlt
      have hc := HG.out k hlt
      have HST := hid (show szR xs (k + 1) = szR xs k + (xs.getD k rp0).n from rfl)
      have HKK := hid (show ∀ m, m = k → szR xs m = szR xs k from fun m e => by rw [e])
      generalize (xs.getD k rp0) = x at *
      generalize hzk : szR xs k = Z at *
      have HZ := hid hzk
      clear hzk
      obtain ⟨xa, xn, xc, xl, xt⟩ := x
      simp only at hL hc HST
      by_cases hzz : Z ≤ 2147483647
      · have d1 : decide ((Z : Int) ≤ 2147483647) = true := by simp; omega
        go_wp2_with fail
        exact ⟨⟨k + 1, by omega, by rw [HST.out]; go_num, by go_num, trivial, by rw [HST.out]; omega⟩, by simp [intOf]; omega⟩
      · have d1 : decide ((Z : Int) ≤ 2147483647) = false := by simp; omega
        go_wp2_with fail
        go_ret
        exact ⟨⟨k, by omega, by rw [HZ.out]; rfl, .inr (by rw [HZ.out]; omega)⟩, rfl⟩
    · have hkn : k = n := by omega
      have d0 : ¬ (k : Int) < (n : Int) := by omega
      go_wp2_with fail
      go_ret
      exact ⟨⟨n, Nat.le_refl _, rfl, .inl rfl⟩, rfl⟩

theorem long5 (z : Int) (w : World) : Calls Try.prog 5 #[.int .i64 z] w fun e w' => e = .returned (.bool (decide (2147483647 < z))) ∧ w' = w := by
  go_enter Try.func5, Try.ntmps5
  go_wp2
  go_ret
  exact ⟨rfl, rfl⟩

/-- How many are left. -/
def lft (n t : Nat) : Nat := n - t
theorem left13 (a : Option Addr) (n c t : Nat) (w : World) (hn : n ≤ 140737488355328) (ht : t ≤ 9223372036854775807) :
    Calls Try.prog 13 #[.slice a n c, .int .i64 t] w fun e w' => e = .returned (.int .i64 (lft n t)) ∧ w' = w := by
  have h0 : ¬ (t : Int) < 0 := by omega
  by_cases h : n ≤ t
  · have h1 : (n : Int) ≤ (t : Int) := by omega
    have e : lft n t = 0 := by unfold lft; omega
    rw [e]
    go_enter Try.func13, Try.ntmps13
    go_wp2
    go_ret
    exact ⟨rfl, rfl⟩
  · have h1 : ¬ (n : Int) ≤ (t : Int) := by omega
    have e : ((lft n t : Nat) : Int) = (n : Int) - t := by unfold lft; omega
    rw [e]
    go_enter Try.func13, Try.ntmps13
    go_wp2
    go_ret
    exact ⟨rfl, rfl⟩

theorem taken11 (H : Nat) (t : Int) (w : World) (h : w.cell? ⟨H, 0, none⟩ = some (.int .i64 t)) :
    Calls Try.prog 11 #[.pointer (some ⟨H, 0, none⟩)] w fun e w' => e = .returned (.int .i64 t) ∧ w' = w := by
  go_enter Try.func11, Try.ntmps11
  go_wp2
  go_ret
  exact ⟨rfl, rfl⟩
theorem taken11_nil (w : World) : Calls Try.prog 11 #[.pointer none] w fun e w' => e = .returned (.int .i64 0) ∧ w' = w := by
  go_enter Try.func11, Try.ntmps11
  go_wp2
  go_ret
  exact ⟨rfl, rfl⟩
theorem left12 (H : Nat) (a : Option Addr) (n c : Nat) (w : World) (h : w.cell? ⟨H, 1, none⟩ = some (.slice a n c)) :
    Calls Try.prog 12 #[.pointer (some ⟨H, 0, none⟩)] w fun e w' => e = .returned (.int .i64 n) ∧ w' = w := by
  go_enter Try.func12, Try.ntmps12
  go_wp2
  go_ret
  exact ⟨rfl, rfl⟩
theorem left12_nil (w : World) : Calls Try.prog 12 #[.pointer none] w fun e w' => e = .returned (.int .i64 0) ∧ w' = w := by
  go_enter Try.func12, Try.ntmps12
  go_wp2
  go_ret
  exact ⟨rfl, rfl⟩
end Go.Proofs.Ythdgbeaibajkeaa
