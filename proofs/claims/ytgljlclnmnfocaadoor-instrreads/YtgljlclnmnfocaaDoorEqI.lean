/-
  The walks over EqInts and EqIns (of two that are alike), and works.
-/
import Derived.Test.YtgljlclnmnfocaaDoorDecP
namespace Go.Proofs.YtgljlclnmnfocaaDoor
open Go.RowKit
set_option linter.unusedVariables false

set_option maxHeartbeats 1000000 in
theorem eqi52_in (b1 o1 b2 o2 n c1 c2 : Nat) (zs : List Int) (w : World) (hz : zs.length = n) (hn : n ≤ 1099511627776)
    (hc1 : ∀ j, j < n → w.cell? ⟨b1, o1 + j, none⟩ = some (.int .i64 (zs.getD j 0)))
    (hc2 : ∀ j, j < n → w.cell? ⟨b2, o2 + j, none⟩ = some (.int .i64 (zs.getD j 0))) :
    Calls Tryd.prog 52 #[.slice (some ⟨b1, o1, none⟩) n c1, .slice (some ⟨b2, o2, none⟩) n c2] w fun e w' => e = .returned (.bool true) ∧ ∃ m, w' = w.drewN m := by
  have hne : ((n : Int) != n) = false := by simp
  go_enter Tryd.func52, Tryd.ntmps52
  go_wp2
  go_loopw [5] (fun i wr => ∃ k m : Nat, k ≤ n ∧ i = .int .i64 k ∧ wr = w.drewN m) (fun i _ => n - (intOf i).toNat)
  case atStart => exact ⟨0, 0, by omega, rfl, rfl⟩
  case round =>
    obtain ⟨k, m, hk, rfl, rfl⟩ := hrel
    by_cases hlt : k < n
    · have g1 : w.cell? ⟨b1, o1 + k, none⟩ = some (.int .i64 (zs.getD k 0)) := hc1 k hlt
      have g2 : w.cell? ⟨b2, o2 + k, none⟩ = some (.int .i64 (zs.getD k 0)) := hc2 k hlt
      clear hc1 hc2
      have hlt' : (k : Int) < (n : Int) := by omega
      go_wp2
      go_quiet (fail)
      go_wp2
      exact ⟨⟨k + 1, m + nq, by omega, by go_num, rfl⟩, by simp [intOf]; omega⟩
    · clear hc1 hc2
      go_wp2
      go_ret
      exact ⟨rfl, m, rfl⟩

set_option maxHeartbeats 400000 in
theorem eqi52_none (a1 a2 : Option Addr) (c1 c2 : Nat) (w : World) :
    Calls Tryd.prog 52 #[.slice a1 0 c1, .slice a2 0 c2] w fun e w' => e = .returned (.bool true) ∧ ∃ m, w' = w.drewN m := by
  go_enter Tryd.func52, Tryd.ntmps52
  go_wp2
  refine wp_loop_rounds 1 ?_
  rw [rounds_succ]
  go_wp2
  go_ret
  exact ⟨rfl, 0, rfl⟩

/-- EqInts of two lists that are alike. -/
theorem eqi52 (a1 a2 : Option Addr) (n c1 c2 : Nat) (zs : List Int) (w : World) (h1 : SegI w a1 n c1 zs) (h2 : SegI w a2 n c2 zs) :
    Calls Tryd.prog 52 #[.slice a1 n c1, .slice a2 n c2] w fun e w' => e = .returned (.bool true) ∧ ∃ m, w' = w.drewN m := by
  obtain ⟨hz, _, hn, _, g1⟩ := h1
  obtain ⟨_, _, _, _, g2⟩ := h2
  by_cases h0 : n = 0
  · subst h0; exact eqi52_none a1 a2 c1 c2 w
  rcases g1 with g1 | ⟨b1, o1, rfl, g1⟩
  · exact absurd g1 h0
  rcases g2 with g2 | ⟨b2, o2, rfl, g2⟩
  · exact absurd g2 h0
  exact eqi52_in b1 o1 b2 o2 n c1 c2 zs w hz hn g1 g2

set_option maxHeartbeats 1000000 in
/-- EqIns of two instructions that are alike. -/
theorem eqIns16 (c a : Int) (a1 a2 : Option Addr) (n c1 c2 : Nat) (l : List Int) (w : World) (h1 : SegI w a1 n c1 l) (h2 : SegI w a2 n c2 l) :
    Calls Tryd.prog 16 #[insV c a (.slice a1 n c1), insV c a (.slice a2 n c2)] w fun e w' => e = .returned (.bool true) ∧ Below w.heap.size w w' := by
  unfold insV
  have hb : Below w.heap.size w ((w.alloc (.cells #[.int .u8 c, .int .i64 a, .slice a1 n c1] 24)).alloc (.cells #[.int .u8 c, .int .i64 a, .slice a2 n c2] 24)) := ((Below.refl _ _).alloc (Nat.le_refl _) _).alloc (by simp) _
  have HE := hid (eqi52 a1 a2 n c1 c2 l _ (h1.later hb (Nat.le_refl _)) (h2.later hb (Nat.le_refl _)))
  have HB := hid hb
  have hcc : (c == c) = true := by simp
  have haa : (a == a) = true := by simp
  clear h1 h2 hb
  go_enter Tryd.func16, Tryd.ntmps16
  go_wp2_with fail
  refine HE.out.mono ?_
  rintro e w' ⟨rfl, m, rfl⟩
  go_wp2_with fail
  go_ret
  exact ⟨rfl, below_drewN HB.out m⟩

/-- A row of ints of the call's own as a slice. -/
theorem segI_own {w : World} {base : Nat} {v : Value} {n : Nat} {zs : List Int} (h : w.ownsRow base 3 1 v n (zs.map (Value.int .i64))) (hn : n ≤ 1099511627776) (hr : ∀ z ∈ zs, -9223372036854775808 ≤ z ∧ z ≤ 9223372036854775807) :
    ∃ a c, v = .slice a n c ∧ SegI w a n c zs := by
  have hl : zs.length = n := by have := h.1; simpa using this
  rcases h.2 with ⟨rfl, rfl⟩ | ⟨g, cap, cur, rfl, hbg, hh, hnc, _⟩
  · exact ⟨none, 0, rfl, hl, Nat.le_refl _, hn, hr, .inl rfl⟩
  · refine ⟨_, cap, rfl, hl, hnc, hn, hr, .inr ⟨g, 0, rfl, fun j hj => ?_⟩⟩
    rw [Nat.zero_add, World.ownsRow.cellAt h j (by omega)]
    have hj' : j < zs.length := by omega
    simp [hj']

theorem segI_nil (w : World) : SegI w none 0 0 [] := ⟨rfl, Nat.le_refl _, by omega, by simp, .inl rfl⟩

/-- A list of bytes that was just written out. -/
theorem seg_lit (w : World) (zs : List Int) (e : TypeId) (hr : ∀ z ∈ zs, 0 ≤ z ∧ z ≤ 255) (hn : zs.length ≤ 1000) :
    Seg (w.alloc (.cells (zs.map (Value.int .u8)).toArray e)) (some ⟨w.heap.size, 0, none⟩) zs.length zs.length zs := by
  refine ⟨rfl, Nat.le_refl _, by omega, hr, .inr ⟨_, 0, rfl, fun j hj => ?_⟩⟩
  simp [hj]

set_option maxRecDepth 100000 in
set_option maxHeartbeats 4000000 in
theorem works7 (w : World) (hk : KindsOk w) : Calls Tryd.prog 7 #[] w fun e w' => e = .returned (.bool true) ∧ Below w.heap.size w w' := by
  have h0 := hk.pos
  have HE := hid (encode9 24 (-3) none 0 0 [] w hk (by decide) (by decide) (segI_nil w) wk_enc.1)
  rw [wk_enc.2] at HE
  have HK := hid hk
  clear hk
  unfold insV at HE
  go_enter Tryd.func7, Tryd.ntmps7
  go_wp2_with fail
  refine HE.out.mono ?_
  rintro e w1 ⟨v, rfl, hown, hb1⟩
  obtain ⟨va, vc, rfl, hs1, _⟩ := seg_of_own hown (by decide) (by decide)
  have hb2 : Below w.heap.size w (w1.alloc (.cells #[.int .u8 255, .int .u8 18, .int .u8 5] 5)) := hb1.alloc hb1.size _
  have HD := hid (decode19 _ 3 3 [255, 18, 5] 1 _ (HK.out.later hb2 h0) (seg_lit w1 [255, 18, 5] 5 (by decide) (by decide)))
  rw [wk_dec] at HD
  have S1 := hid hs1
  have B1 := hid hb1
  clear hown hs1 hb1 hb2 HE
  unfold DecPost at HD
  go_wp2_with fail
  refine HD.out.mono ?_
  rintro e w2 ⟨u, rfl, hown2, hb2⟩
  obtain ⟨ua, uc, rfl, hs2⟩ := segI_own hown2 (by decide) (by decide)
  have B2 := hid (below_late (B1.out.alloc B1.out.size _) hb2)
  have S2 := hid (S1.out.later (below_late ((Below.refl _ w1).alloc (Nat.le_refl _) _) hb2) (Nat.le_refl _))
  clear hown2 hs2 hb2 HD S1
  have hbx : Below w2.heap.size w2 (w2.alloc (.cells #[.int .u8 18, .int .i64 5, .slice ua 0 uc] 24)) := (Below.refl _ _).alloc (Nat.le_refl _) _
  have hby : Below w2.heap.size w2 ((w2.alloc (.cells #[.int .u8 18, .int .i64 5, .slice ua 0 uc] 24)).alloc (.cells #[.int .u8 24, .int .u8 5] 5)) := hbx.alloc (by simp) _
  have hL := seg_lit (w2.alloc (.cells #[.int .u8 18, .int .i64 5, .slice ua 0 uc] 24)) [24, 5] 5 (by decide) (by decide)
  rw [show (w2.alloc (.cells #[.int .u8 18, .int .i64 5, .slice ua 0 uc] 24)).heap.size = w2.heap.size + 1 by simp] at hL
  have hL2 : Seg ((w2.alloc (.cells #[.int .u8 18, .int .i64 5, .slice ua 0 uc] 24)).alloc (.cells #[.int .u8 24, .int .u8 5] 5)) (some ⟨w2.heap.size + 1, 0, none⟩) 2 2 [24, 5] := hL
  have HQ := hid (eq15 va _ 2 vc 2 [24, 5] _ (S2.out.later hby (Nat.le_refl _)) hL2)
  have B3 := hid (below_late B2.out hby)
  have x0 : ((w2.alloc (.cells #[.int .u8 18, .int .i64 5, .slice ua 0 uc] 24)).alloc (.cells #[.int .u8 24, .int .u8 5] 5)).cell? ⟨w2.heap.size, 0, none⟩ = some (.int .u8 18) ∧ ((w2.alloc (.cells #[.int .u8 18, .int .i64 5, .slice ua 0 uc] 24)).alloc (.cells #[.int .u8 24, .int .u8 5] 5)).cell? ⟨w2.heap.size, 1, none⟩ = some (.int .i64 5) := by
    refine ⟨?_, ?_⟩ <;> simp [go_sem]
  have HX := hid x0
  clear hbx hby hL hL2 x0
  go_wp2_with fail
  refine HQ.out.mono ?_
  rintro e w3 ⟨rfl, m, rfl⟩
  obtain ⟨W, hW⟩ : ∃ W, ((w2.alloc (.cells #[.int .u8 18, .int .i64 5, .slice ua 0 uc] 24)).alloc (.cells #[.int .u8 24, .int .u8 5] 5)).drewN m = W := ⟨_, rfl⟩
  have B4 := hid (show Below w.heap.size w W by rw [← hW]; exact below_drewN B3.out m)
  have x0 : W.cell? ⟨w2.heap.size, 0, none⟩ = some (.int .u8 18) := by rw [← hW, World.cell?_drewN]; exact HX.out.1
  have x1 : W.cell? ⟨w2.heap.size, 1, none⟩ = some (.int .i64 5) := by rw [← hW, World.cell?_drewN]; exact HX.out.2
  rw [hW]
  clear hW HX HQ B3 S2 B2 B1
  have HC := hid (check12 48 1 none 0 0 [] W (HK.out.later B4.out h0) (by decide) (by decide) (segI_nil W))
  rw [wk_chk] at HC
  unfold insV at HC
  go_wp2_with fail
  refine HC.out.mono ?_
  rintro e w4 ⟨rfl, hb4⟩
  go_wp2_with fail
  go_ret
  exact ⟨rfl, below_late B4.out hb4⟩
end Go.Proofs.YtgljlclnmnfocaaDoor
