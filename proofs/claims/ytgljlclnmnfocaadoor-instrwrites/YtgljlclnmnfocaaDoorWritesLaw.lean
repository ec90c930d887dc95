/-
  The walk over InstrWrites: instructions are written as bytes, or refused, as the document says; the answers are new memory.
-/
import Derived.Test.YtgljlclnmnfocaaDoorRefE
import Derived.Test.YtgljlclnmnfocaaDoorWideI
import Derived.Test.YtgljlclnmnfocaaDoorBagBytes
import Derived.Deep.RegionWith
namespace Go.Proofs.YtgljlclnmnfocaaDoor
open Go.RowKit
set_option linter.unusedVariables false

/-- The bytes that are answered: none with an error. -/
def encO (c a : Int) (l : List Int) : List Int := if chk (tkV c) (lgV c) a l = 0 then encV c a l else []

theorem encO_len (c a : Int) (l : List Int) : (encO c a l).length ≤ 171 := by
  unfold encO
  split
  · rename_i h; exact (encV_len h).2
  · simp
theorem encO_mem {c a : Int} {l : List Int} (h0 : 0 ≤ c) (h1 : c ≤ 255) : ∀ z ∈ encO c a l, 0 ≤ z ∧ z ≤ 255 := by
  unfold encO
  split
  · rename_i h; exact encV_mem h0 h1 h
  · simp

theorem encode_any (c a : Int) (la : Option Addr) (ln lc : Nat) (l : List Int) (w : World) (hk : KindsOk w) (h0 : 0 ≤ c) (h1 : c ≤ 255) (hl : SegI w la ln lc l) :
    Calls Tryd.prog 9 #[insV c a (.slice la ln lc)] w fun e w' => ∃ v, e = .returned (.tuple #[v, .int .i64 (chk (tkV c) (lgV c) a l)]) ∧ w'.ownsRow w.heap.size 5 1 v (encO c a l).length ((encO c a l).map (Value.int .u8)) ∧ Below w.heap.size w w' := by
  unfold encO
  by_cases h : chk (tkV c) (lgV c) a l = 0
  · rw [if_pos h, h]; exact encode9 c a la ln lc l w hk h0 h1 hl h
  · rw [if_neg h]
    exact (encode9_no c a la ln lc l w hk h0 h1 hl h).mono fun e w' ⟨he, hb⟩ => ⟨_, he, World.ownsRow_nil _ _ _ _, hb⟩
theorem rencode_any (c a : Int) (la : Option Addr) (ln lc : Nat) (l : List Int) (w : World) (h0 : 0 ≤ c) (h1 : c ≤ 255) (hl : SegI w la ln lc l) :
    Calls Tryd.prog 10 #[insV c a (.slice la ln lc)] w fun e w' => ∃ v, e = .returned (.tuple #[v, .int .i64 (chk (tkV c) (lgV c) a l)]) ∧ w'.ownsRow w.heap.size 5 1 v (encO c a l).length ((encO c a l).map (Value.int .u8)) ∧ Below w.heap.size w w' := by
  unfold encO
  by_cases h : chk (tkV c) (lgV c) a l = 0
  · rw [if_pos h, h]; exact rencode10 c a la ln lc l w h0 h1 hl h
  · rw [if_neg h]
    exact (rencode10_no c a la ln lc l w h0 h1 hl h).mono fun e w' ⟨he, hb⟩ => ⟨_, he, World.ownsRow_nil _ _ _ _, hb⟩

theorem newBg {e es : TypeId} {c : Nat} {w0 w : World} {rs : List Lt} (hb : Below w0.heap.size w0 w) (hc : c ≤ 16) (hr : ∀ p ∈ rs, ∀ B, p.b = some B → Row w e B p.xs.length p.cap p.xs ∧ w0.heap.size ≤ B)
    (hinj : ∀ i j (hi : i < rs.length) (hj : j < rs.length) B, (rs[i]).b = some B → (rs[j]).b = some B → i = j) (B : Nat) (hB : w.heap.size = B) (t : TypeId) :
    Bg e es c w0 (w.alloc (.cells (Array.replicate 17 (.slice none 0 0)) t)) B (.slice none 0 0) rs 0 := by
  subst hB
  have ha : Below w.heap.size w (w.alloc (.cells (Array.replicate 17 (.slice none 0 0)) t)) := (Below.refl _ _).alloc (Nat.le_refl _) _
  have hcell : ∀ j, j ≤ 16 → (w.alloc (.cells (Array.replicate 17 (.slice none 0 0)) t)).cell? ⟨w.heap.size, j, none⟩ = some (.slice none 0 0) := by
    intro j hj
    rw [World.cell?_alloc_new, Array.getElem?_eq_getElem (by simp; omega)]
    simp
  refine ⟨hb.trans (ha.mono hb.size), hb.size, hcell c hc, ?_, fun j h1 _ => hcell j h1, World.ownsRow_nil _ _ _ _, by simp [Value.ownBlock], fun b hb => by simp [Value.ownBlock] at hb, fun p hp B hB => ?_, hinj⟩
  · simp
  · have h := hr p hp B hB
    have := h.1.lt
    exact ⟨h.1.below ha (Nat.le_refl _), by omega, h.2⟩
theorem e17 : Array.replicate 17 (Value.slice none 0 0) = #[.slice none 0 0, .slice none 0 0, .slice none 0 0, .slice none 0 0, .slice none 0 0, .slice none 0 0, .slice none 0 0, .slice none 0 0, .slice none 0 0, .slice none 0 0, .slice none 0 0, .slice none 0 0, .slice none 0 0, .slice none 0 0, .slice none 0 0, .slice none 0 0, .slice none 0 0] := rfl

/-- A row of the call's own as one of a bag's lists. -/
theorem lt_of_own {w : World} {base : Nat} {e : TypeId} {v : Value} {n : Nat} {xs : List Value} (h : w.ownsRow base e 1 v n xs) : ∃ p : Lt, v = p.sl ∧ p.xs = xs ∧ (∀ B, p.b = some B → Row w e B p.xs.length p.cap p.xs ∧ base ≤ B) := by
  have hl := h.1
  have h2 := h
  rcases h.2 with ⟨rfl, rfl⟩ | ⟨g, cap, cur, rfl, hg, _⟩
  · have hx : xs = [] := List.eq_nil_of_length_eq_zero (by simpa using hl)
    subst hx
    exact ⟨⟨none, [], 0⟩, rfl, rfl, fun B hB => by cases hB⟩
  · have hn : xs.length = n := by simpa using hl
    subst hn
    exact ⟨⟨some g, xs, cap⟩, rfl, rfl, fun B hB => by cases hB; exact ⟨Row.of h2, hg⟩⟩

theorem eqB (a1 a2 : Option Addr) (n c1 c2 : Nat) (zs : List Int) (w : World) (h1 : Seg w a1 n c1 zs) (h2 : Seg w a2 n c2 zs) :
    Calls Tryd.prog 14 #[.slice a1 n c1, .slice a2 n c2] w fun e w' => e = .returned (.bool true) ∧ Below w.heap.size w w' :=
  (eq15 a1 a2 n c1 c2 zs w h1 h2).mono fun e w' ⟨he, m, hm⟩ => ⟨he, by rw [hm]; exact below_drewN (Below.refl _ _) m⟩

theorem held_wr {K X B : Nat} {c a : Int} {la : Option Addr} {ln lc : Nat} {w9 W W' : World} (hb : Below W.heap.size W W')
    (h : W.cell? ⟨K, 0, none⟩ = some (.int .u8 c) ∧ W.cell? ⟨K, 1, none⟩ = some (.int .i64 a) ∧ W.cell? ⟨K, 2, none⟩ = some (.slice (some ⟨B, 0, none⟩) ln (ln + 64)) ∧ W.cell? ⟨X, 0, none⟩ = some (.int .u8 c) ∧ W.cell? ⟨X, 1, none⟩ = some (.int .i64 a) ∧ W.cell? ⟨X, 2, none⟩ = some (.slice la ln lc) ∧ Below w9.heap.size w9 W) :
    W'.cell? ⟨K, 0, none⟩ = some (.int .u8 c) ∧ W'.cell? ⟨K, 1, none⟩ = some (.int .i64 a) ∧ W'.cell? ⟨K, 2, none⟩ = some (.slice (some ⟨B, 0, none⟩) ln (ln + 64)) ∧ W'.cell? ⟨X, 0, none⟩ = some (.int .u8 c) ∧ W'.cell? ⟨X, 1, none⟩ = some (.int .i64 a) ∧ W'.cell? ⟨X, 2, none⟩ = some (.slice la ln lc) ∧ Below w9.heap.size w9 W' := by
  obtain ⟨h0, h1, h2, h3, h4, h5, h9⟩ := h
  have hX := block_lt_of_cell h0
  have hY := block_lt_of_cell h3
  exact ⟨(hb.cell (by simpa using hX)).trans h0, (hb.cell (by simpa using hX)).trans h1, (hb.cell (by simpa using hX)).trans h2, (hb.cell (by simpa using hY)).trans h3, (hb.cell (by simpa using hY)).trans h4,
    (hb.cell (by simpa using hY)).trans h5, h9.trans (hb.mono h9.size)⟩

theorem three_inj {w4 w5 : World} {p1 p2 p3 : Lt} (h45 : w4.heap.size ≤ w5.heap.size) (h1 : ∀ B, p1.b = some B → B < w4.heap.size) (h2 : ∀ B, p2.b = some B → w4.heap.size ≤ B ∧ B < w5.heap.size) (h3 : ∀ B, p3.b = some B → w5.heap.size ≤ B) :
    ∀ i j (hi : i < [p1, p2, p3].length) (hj : j < [p1, p2, p3].length) B, ([p1, p2, p3][i]).b = some B → ([p1, p2, p3][j]).b = some B → i = j := by
  intro i j hi hj B e1 e2
  simp at hi hj
  rcases (show i = 0 ∨ i = 1 ∨ i = 2 by omega) with rfl | rfl | rfl <;> rcases (show j = 0 ∨ j = 1 ∨ j = 2 by omega) with rfl | rfl | rfl <;> simp at e1 e2 <;> first | rfl | (exfalso; first
    | (have := h1 B e1; have := h2 B e2; omega) | (have := h1 B e1; have := h3 B e2; omega) | (have := h2 B e1; have := h1 B e2; omega) | (have := h2 B e1; have := h3 B e2; omega) | (have := h3 B e1; have := h1 B e2; omega) | (have := h3 B e1; have := h2 B e2; omega))

/-- A bag without the last of three lists, which was never put in. -/
theorem Bg.two {e es : TypeId} {c : Nat} {w0 wr : World} {GB : Nat} {v : Value} {p1 p2 p3 : Lt} (h : Bg e es c w0 wr GB v [p1, p2, p3] 2) : Bg e es c w0 wr GB v [p1, p2] 2 := by
  refine ⟨h.below, h.gb, h.cell, h.free, h.flds, h.own, h.other, h.new, fun p hp => h.rows p (by simp only [List.mem_cons, List.not_mem_nil, or_false] at hp ⊢; rcases hp with h | h <;> simp [h]), fun i j hi hj B e1 e2 => ?_⟩
  simp at hi hj
  refine h.inj i j (by simp; omega) (by simp; omega) B ?_ ?_
  · rcases (show i = 0 ∨ i = 1 by omega) with rfl | rfl <;> simpa using e1
  · rcases (show j = 0 ∨ j = 1 by omega) with rfl | rfl <;> simpa using e2

/-- One of a bag's lists as a slice of bytes. -/
theorem seg_of_lt {w : World} {a : Option Addr} {n c : Nat} {p : Lt} {zs : List Int} (hs : Value.slice a n c = p.sl) (hx : p.xs = zs.map (Value.int .u8)) (hz : zs.length = n) (hn : n ≤ 1099511627776) (hr : ∀ z ∈ zs, 0 ≤ z ∧ z ≤ 255)
    (hrow : ∀ B, p.b = some B → Row w 5 B p.xs.length p.cap p.xs) : Seg w a n c zs := by
  unfold Lt.sl at hs
  cases hb : p.b with
  | none =>
    rw [hb] at hs
    simp at hs
    obtain ⟨rfl, rfl, rfl⟩ := hs
    exact ⟨hz, Nat.le_refl _, by omega, hr, .inl rfl⟩
  | some B =>
    rw [hb] at hs
    simp at hs
    obtain ⟨rfl, rfl, rfl⟩ := hs
    have h := hrow B hb
    rw [hx] at h
    have hl : (zs.map (Value.int .u8)).length = zs.length := by simp
    rw [hl] at h
    have h2 : zs.length = p.xs.length := by rw [hx]; simp
    rw [← h2]
    exact seg_own (base := 0) h rfl (by omega) hr (by obtain ⟨cur, _, h3, _⟩ := h.block; exact h3)

set_option maxRecDepth 100000 in
set_option maxHeartbeats 1000000 in
/-- Too much of it is let go. -/
theorem writes3_big (c a : Int) (la : Option Addr) (ln lc : Nat) (w : World) (hk : KindsOk w) (hbig : 1048576 < ln) (h1 : ln ≤ 140737488355328) :
    Calls Tryd.prog 3 #[insV c a (.slice la ln lc)] w fun e w' => e = .returned (.bool true) ∧ Below w.heap.size w w' := by
  unfold insV
  have hb0 : Below w.heap.size w (w.alloc (.cells #[.int .u8 c, .int .i64 a, .slice la ln lc] 24)) := (Below.refl _ _).alloc (Nat.le_refl _) _
  have HW := hid (works7 _ (hk.later hb0 hk.pos))
  have hs' : (1048576 : Int) < (ln : Int) := by omega
  clear hk
  go_enter Tryd.func3, Tryd.ntmps3
  go_wp2_with fail
  refine HW.out.mono ?_
  rintro e w1 ⟨rfl, hb1⟩
  have x2 : w1.cell? ⟨w.heap.size, 2, none⟩ = some (.slice la ln lc) := by rw [hb1.cell (by simp)]; simp [go_sem]
  have B1 := hid (hb0.trans (hb1.mono (by simp)))
  clear hb1
  go_wp2_with fail
  go_ret
  exact ⟨rfl, B1.out⟩

set_option maxRecDepth 100000 in
set_option maxHeartbeats 4000000 in
theorem writes3 (c a : Int) (la : Option Addr) (ln lc : Nat) (l : List Int) (w : World) (hk : KindsOk w) (hc0 : 0 ≤ c) (hc1 : c ≤ 255) (hl : SegI w la ln lc l) (hsm : ln ≤ 1048576) :
    Calls Tryd.prog 3 #[insV c a (.slice la ln lc)] w fun e w' => e = .returned (.bool true) ∧ Below w.heap.size w w' := by
  unfold insV
  have h0 := hk.pos
  have hb0 : Below w.heap.size w (w.alloc (.cells #[.int .u8 c, .int .i64 a, .slice la ln lc] 24)) := (Below.refl _ _).alloc (Nat.le_refl _) _
  have HW := hid (works7 _ (hk.later hb0 h0))
  have hs' : ¬ (1048576 : Int) < (ln : Int) := by omega
  have HK := hid hk
  have HL := hid hl
  clear hk hl
  go_enter Tryd.func3, Tryd.ntmps3
  go_wp2_with fail
  refine HW.out.mono ?_
  rintro e w1 ⟨rfl, hb1⟩
  have x0 : w1.cell? ⟨w.heap.size, 0, none⟩ = some (.int .u8 c) := by rw [hb1.cell (by simp)]; simp [go_sem]
  have x1 : w1.cell? ⟨w.heap.size, 1, none⟩ = some (.int .i64 a) := by rw [hb1.cell (by simp)]; simp [go_sem]
  have x2 : w1.cell? ⟨w.heap.size, 2, none⟩ = some (.slice la ln lc) := by rw [hb1.cell (by simp)]; simp [go_sem]
  have hx := block_lt_of_cell x0
  simp only at hx
  have B1 := hid (hb0.trans (hb1.mono (by simp)))
  have HWI := hid (wideIns8 c a la ln lc l w1 (HL.out.later B1.out (Nat.le_refl _)) hsm)
  unfold insV at HWI
  clear hb1 hb0 HW
  go_wp2_with fail
  refine HWI.out.mono ?_
  rintro e w2 ⟨B, rfl, hcl2, hb2, hBge⟩
  have hB2 : B < w2.heap.size := block_lt_of_cell (hcl2 0 (by omega))
  have B2 := hid (below_late B1.out hb2)
  obtain ⟨w3, hw3⟩ : ∃ w3, w2.alloc (.cells #[.int .u8 c, .int .i64 a, .slice (some ⟨B, 0, none⟩) ln (ln + 64)] 24) = w3 := ⟨_, rfl⟩
  have b3 : Below w2.heap.size w2 w3 := by rw [← hw3]; exact (Below.refl _ _).alloc (Nat.le_refl _) _
  have hz3 : w3.heap.size = w2.heap.size + 1 := by rw [← hw3]; simp
  have X3 := hid (show w3.cell? ⟨w2.heap.size, 0, none⟩ = some (.int .u8 c) ∧ w3.cell? ⟨w2.heap.size, 1, none⟩ = some (.int .i64 a) ∧ w3.cell? ⟨w2.heap.size, 2, none⟩ = some (.slice (some ⟨B, 0, none⟩) ln (ln + 64)) ∧ w3.cell? ⟨w.heap.size, 0, none⟩ = some (.int .u8 c) ∧ w3.cell? ⟨w.heap.size, 1, none⟩ = some (.int .i64 a) ∧ w3.cell? ⟨w.heap.size, 2, none⟩ = some (.slice la ln lc) by
    have hbb := below_late hb2 b3
    refine ⟨?_, ?_, ?_, (hbb.cell (by exact hx)).trans x0, (hbb.cell (by exact hx)).trans x1, (hbb.cell (by exact hx)).trans x2⟩ <;> (rw [← hw3]; simp [go_sem]))
  have C3 := hid (fun (j : Nat) (hj : j < ln + 64) => (b3.cell (p := ⟨B, j, none⟩) hB2).trans (hcl2 j hj))
  have B3 := hid (below_late B2.out b3)
  have SK3 := hid (segI_wide HL.out.1 hsm HL.out.2.2.2.1 C3.out)
  have SX3 := hid (HL.out.later B3.out (Nat.le_refl _))
  have HW3 := hid hw3
  have HZ3 := hid hz3
  clear hw3 hz3 b3 hcl2 hb2 B2 B1 HWI x0 x1 x2
  have HE1 := hid (encode_any c a _ ln (ln + 64) l w3 (HK.out.later B3.out h0) hc0 hc1 SK3.out)
  have HE2 := hid (fun W (h : Below w3.heap.size w3 W) => encode_any c a _ ln (ln + 64) l W (HK.out.later (below_late B3.out h) h0) hc0 hc1 (SK3.out.later h (Nat.le_refl _)))
  have HE3 := hid (fun W (h : Below w3.heap.size w3 W) => rencode_any c a la ln lc l W hc0 hc1 (SX3.out.later h (Nat.le_refl _)))
  have HC1 := hid (fun W (h : Below w3.heap.size w3 W) => check12 c a _ ln (ln + 64) l W (HK.out.later (below_late B3.out h) h0) hc0 hc1 (SK3.out.later h (Nat.le_refl _)))
  have HC2 := hid (fun W (h : Below w3.heap.size w3 W) => rcheck13 c a la ln lc l W hc0 hc1 (SX3.out.later h (Nat.le_refl _)))
  have hEl := encO_len c a l
  have HEm := hid (encO_mem (a := a) (l := l) hc0 hc1)
  obtain ⟨E, hE⟩ : ∃ E, encO c a l = E := ⟨_, rfl⟩
  obtain ⟨xe, hxe⟩ : ∃ xe, chk (tkV c) (lgV c) a l = xe := ⟨_, rfl⟩
  rw [hE] at HE1 HE2 HE3 hEl HEm
  rw [hxe] at HE1 HE2 HE3 HC1 HC2
  unfold insV at HE1 HE2 HE3 HC1 HC2
  clear hE hxe
  go_wp2_with fail
  rw [HW3.out]
  refine HE1.out.mono ?_
  rintro e w4 ⟨v1, rfl, ho1, hb4⟩
  obtain ⟨a1, cc1, rfl, hs1, _⟩ := seg_of_own ho1 (by omega) HEm.out
  obtain ⟨p1, hp1, hp1x, hp1r⟩ := lt_of_own ho1
  have P1 := hid hp1r
  have P1s := hid hp1
  have P1x := hid hp1x
  have B4 := hid hb4
  have S1 := hid hs1
  have X4 := hid (show w4.cell? ⟨w2.heap.size, 0, none⟩ = some (.int .u8 c) ∧ w4.cell? ⟨w2.heap.size, 1, none⟩ = some (.int .i64 a) ∧ w4.cell? ⟨w2.heap.size, 2, none⟩ = some (.slice (some ⟨B, 0, none⟩) ln (ln + 64)) ∧ w4.cell? ⟨w.heap.size, 0, none⟩ = some (.int .u8 c) ∧ w4.cell? ⟨w.heap.size, 1, none⟩ = some (.int .i64 a) ∧ w4.cell? ⟨w.heap.size, 2, none⟩ = some (.slice la ln lc) from
    (held_wr (w9 := w3) hb4 ⟨X3.out.1, X3.out.2.1, X3.out.2.2.1, X3.out.2.2.2.1, X3.out.2.2.2.2.1, X3.out.2.2.2.2.2, Below.refl _ _⟩).imp id (fun h => h.imp id (fun h => h.imp id (fun h => h.imp id (fun h => h.imp id (fun h => h.1))))))
  clear ho1 hs1 hb4 HE1 HW3 hp1r hp1 hp1x
  obtain ⟨k0, k1, k2, _⟩ := X4.out
  go_wp2_with fail
  refine (HE2.out _ B4.out).mono ?_
  rintro e w5 ⟨v2, rfl, ho2, hb5⟩
  obtain ⟨a2, cc2, rfl, hs2, _⟩ := seg_of_own ho2 (by omega) HEm.out
  obtain ⟨p2, hp2, hp2x, hp2r⟩ := lt_of_own ho2
  have P2 := hid hp2r
  have P2s := hid hp2
  have P2x := hid hp2x
  have S2 := hid hs2
  have B5 := hid (below_late B4.out hb5)
  have S15 := hid (S1.out.later hb5 (Nat.le_refl _))
  have X5 := hid (show w5.cell? ⟨w.heap.size, 0, none⟩ = some (.int .u8 c) ∧ w5.cell? ⟨w.heap.size, 1, none⟩ = some (.int .i64 a) ∧ w5.cell? ⟨w.heap.size, 2, none⟩ = some (.slice la ln lc) from
    have hlt : w.heap.size < w4.heap.size := block_lt_of_cell X4.out.2.2.2.1
    ⟨(hb5.cell (by exact hlt)).trans X4.out.2.2.2.1, (hb5.cell (by exact hlt)).trans X4.out.2.2.2.2.1, (hb5.cell (by exact hlt)).trans X4.out.2.2.2.2.2⟩)
  have B45 := hid hb5
  have hw45 := hb5.size
  clear ho2 hs2 hb5 HE2 k0 k1 k2 S1 hp2r hp2 hp2x
  obtain ⟨k0, k1, k2⟩ := X5.out
  go_wp2_with fail
  refine (HE3.out _ B5.out).mono ?_
  rintro e w6 ⟨v3, rfl, ho3, hb6⟩
  obtain ⟨a3, cc3, rfl, hs3, _⟩ := seg_of_own ho3 (by omega) HEm.out
  obtain ⟨p3, hp3, hp3x, hp3r⟩ := lt_of_own ho3
  have P3s := hid hp3
  have P3x := hid hp3x
  have B6 := hid (below_late B5.out hb6)
  have hw34 := B4.out.size
  have B46 := below_late B45.out hb6
  have hbg := newBg (e := 5) (es := 27) (c := 0) (w0 := w3) (w := w6) (rs := [p1, p2, p3]) B6.out (by decide) (fun p hp B' hB' => by
    simp only [List.mem_cons, List.not_mem_nil, or_false] at hp
    rcases hp with rfl | rfl | rfl
    · exact ⟨(P1.out B' hB').1.below B46 (Nat.le_refl _), (P1.out B' hB').2⟩
    · exact ⟨(P2.out B' hB').1.below hb6 (Nat.le_refl _), Nat.le_trans hw34 (P2.out B' hB').2⟩
    · exact ⟨(hp3r B' hB').1, by have := (hp3r B' hB').2; omega⟩)
    (three_inj hw45 (fun B' hB' => (P1.out B' hB').1.lt) (fun B' hB' => ⟨(P2.out B' hB').2, (P2.out B' hB').1.lt⟩) (fun B' hB' => (hp3r B' hB').2)) w6.heap.size rfl 50
  rw [e17] at hbg
  have BG := hid hbg
  have X6 := hid (show w6.cell? ⟨w.heap.size, 0, none⟩ = some (.int .u8 c) ∧ w6.cell? ⟨w.heap.size, 1, none⟩ = some (.int .i64 a) ∧ w6.cell? ⟨w.heap.size, 2, none⟩ = some (.slice la ln lc) from
    have hlt : w.heap.size < w5.heap.size := block_lt_of_cell X5.out.1
    ⟨(hb6.cell (by exact hlt)).trans X5.out.1, (hb6.cell (by exact hlt)).trans X5.out.2.1, (hb6.cell (by exact hlt)).trans X5.out.2.2⟩)
  have K6 := hid (show w6.cell? ⟨w2.heap.size, 0, none⟩ = some (.int .u8 c) ∧ w6.cell? ⟨w2.heap.size, 1, none⟩ = some (.int .i64 a) ∧ w6.cell? ⟨w2.heap.size, 2, none⟩ = some (.slice (some ⟨B, 0, none⟩) ln (ln + 64)) from
    have hlt : w2.heap.size < w3.heap.size := by have := HZ3.out; omega
    ⟨(B6.out.cell (by exact hlt)).trans X3.out.1, (B6.out.cell (by exact hlt)).trans X3.out.2.1, (B6.out.cell (by exact hlt)).trans X3.out.2.2.1⟩)
  clear hbg hs3 ho3 hb6 hp3 hp3x hp3r B46 B45 k0 k1 k2 X5 X4 S15 S2 HE3
  go_wp2_with fail
  obtain ⟨w7, hw7⟩ : ∃ w7, w6.alloc (.cells #[.slice none 0 0, .slice none 0 0, .slice none 0 0, .slice none 0 0, .slice none 0 0, .slice none 0 0, .slice none 0 0, .slice none 0 0, .slice none 0 0, .slice none 0 0, .slice none 0 0, .slice none 0 0, .slice none 0 0, .slice none 0 0, .slice none 0 0, .slice none 0 0, .slice none 0 0] 50) = w7 := ⟨_, rfl⟩
  have b67 : Below w6.heap.size w6 w7 := by rw [← hw7]; exact (Below.refl _ _).alloc (Nat.le_refl _) _
  rw [hw7] at BG ⊢
  clear hw7
  refine (addBg BG.out (by simp) (by omega) _ (by simpa using P1s.out)).mono ?_
  rintro e w8 ⟨rfl, v8, hbg8⟩
  have BG8 := hid hbg8
  clear hbg8 BG
  go_wp2_with fail
  refine (addBg BG8.out (by simp) (by omega) _ (by simpa using P2s.out)).mono ?_
  rintro e w9 ⟨rfl, v9, hbg9⟩
  have BG9 := hid hbg9.two
  have B9 := hid hbg9.below
  have S1 := hid (seg_of_lt (w := w9) P1s.out P1x.out rfl (by omega) HEm.out (fun B' hB' => (hbg9.rows p1 (by simp) B' hB').1))
  have S2 := hid (seg_of_lt (w := w9) P2s.out P2x.out rfl (by omega) HEm.out (fun B' hB' => (hbg9.rows p2 (by simp) B' hB').1))
  have S3 := hid (seg_of_lt (w := w9) P3s.out P3x.out rfl (by omega) HEm.out (fun B' hB' => (hbg9.rows p3 (by simp) B' hB').1))
  have hKw : w2.heap.size < w3.heap.size := by have := HZ3.out; omega
  have hXw : w.heap.size < w3.heap.size := block_lt_of_cell X3.out.2.2.2.1
  have z0 := (hbg9.below.cell (p := ⟨w2.heap.size, 0, none⟩) hKw).trans X3.out.1
  have z1 := (hbg9.below.cell (p := ⟨w2.heap.size, 1, none⟩) hKw).trans X3.out.2.1
  have z2 := (hbg9.below.cell (p := ⟨w2.heap.size, 2, none⟩) hKw).trans X3.out.2.2.1
  have t0 := (hbg9.below.cell (p := ⟨w.heap.size, 0, none⟩) hXw).trans X3.out.2.2.2.1
  have t1 := (hbg9.below.cell (p := ⟨w.heap.size, 1, none⟩) hXw).trans X3.out.2.2.2.2.1
  have t2 := (hbg9.below.cell (p := ⟨w.heap.size, 2, none⟩) hXw).trans X3.out.2.2.2.2.2
  have HQ1 := hid (fun W (h : Below w9.heap.size w9 W) => eqB a1 a3 E.length cc1 cc3 E W (S1.out.later h (Nat.le_refl _)) (S3.out.later h (Nat.le_refl _)))
  have HQ2 := hid (fun W (h : Below w9.heap.size w9 W) => eqB a2 a3 E.length cc2 cc3 E W (S2.out.later h (Nat.le_refl _)) (S3.out.later h (Nat.le_refl _)))
  have HD1 := hid (fun W (h : Below w9.heap.size w9 W) => HC1.out W (below_late B9.out h))
  have HD2 := hid (fun W (h : Below w9.heap.size w9 W) => HC2.out W (below_late B9.out h))
  have hxx : (xe == xe) = true := by simp
  have P1L := hid (show p1.xs.length = E.length by rw [P1x.out]; simp)
  have P2L := hid (show p2.xs.length = E.length by rw [P2x.out]; simp)
  clear hbg9 BG8 S1 S2 S3 HC1 HC2 P1s P1x P2s P2x P3s P3x P1 P2 b67
  go_wp2_with fail
  go_region_held3 (fun W => W.cell? ⟨w2.heap.size, 0, none⟩ = some (.int .u8 c) ∧ W.cell? ⟨w2.heap.size, 1, none⟩ = some (.int .i64 a) ∧ W.cell? ⟨w2.heap.size, 2, none⟩ = some (.slice (some ⟨B, 0, none⟩) ln (ln + 64)) ∧ W.cell? ⟨w.heap.size, 0, none⟩ = some (.int .u8 c) ∧ W.cell? ⟨w.heap.size, 1, none⟩ = some (.int .i64 a) ∧ W.cell? ⟨w.heap.size, 2, none⟩ = some (.slice la ln lc) ∧ Below w9.heap.size w9 W)
    (first | assumption | (refine held_wr ?_ ?_ <;> assumption) | (exact ⟨z0, z1, z2, t0, t1, t2, (Below.refl _ _).drew⟩))
    (first
      | (go_at_call 12; refine (HD1.out _ (And.right (And.right (And.right (And.right (And.right (And.right (by assumption)))))))).mono ?_; rintro e w' ⟨rfl, hbx⟩; have hS' := held_wr (K := w2.heap.size) (X := w.heap.size) (w9 := w9) hbx (by assumption); clear hbx)
      | (go_at_call 13; refine (HD2.out _ (And.right (And.right (And.right (And.right (And.right (And.right (by assumption)))))))).mono ?_; rintro e w' ⟨rfl, hbx⟩; have hS' := held_wr (K := w2.heap.size) (X := w.heap.size) (w9 := w9) hbx (by assumption); clear hbx)
      | (go_at_call_of 14 (Value.slice a1 E.length cc1); refine (HQ1.out _ (And.right (And.right (And.right (And.right (And.right (And.right (by assumption)))))))).mono ?_; rintro e w' ⟨rfl, hbx⟩; have hS' := held_wr (K := w2.heap.size) (X := w.heap.size) (w9 := w9) hbx (by assumption); clear hbx)
      | (go_at_call_of 14 (Value.slice a2 E.length cc2); refine (HQ2.out _ (And.right (And.right (And.right (And.right (And.right (And.right (by assumption)))))))).mono ?_; rintro e w' ⟨rfl, hbx⟩; have hS' := held_wr (K := w2.heap.size) (X := w.heap.size) (w9 := w9) hbx (by assumption); clear hbx))
  have BG10 := BG9.out.later hS'.2.2.2.2.2.2
  have AP := hid (apartBg BG10 (by simp) (by simp) (by
    intro p hp
    simp only [List.mem_cons, List.not_mem_nil, or_false] at hp
    rcases hp with rfl | rfl
    · rw [P1L.out]; omega
    · rw [P2L.out]; omega))
  clear BG10 BG9 hS' z0 z1 z2 t0 t1 t2 HD1 HD2 HQ1 HQ2
  go_wp2_with fail
  refine AP.out.mono ?_
  rintro e w12 ⟨rfl, hb12⟩
  have z0 := (hb12.cell (p := ⟨w2.heap.size, 0, none⟩) hKw).trans X3.out.1
  have z1 := (hb12.cell (p := ⟨w2.heap.size, 1, none⟩) hKw).trans X3.out.2.1
  have z2 := (hb12.cell (p := ⟨w2.heap.size, 2, none⟩) hKw).trans X3.out.2.2.1
  have t0 := (hb12.cell (p := ⟨w.heap.size, 0, none⟩) hXw).trans X3.out.2.2.2.1
  have t1 := (hb12.cell (p := ⟨w.heap.size, 1, none⟩) hXw).trans X3.out.2.2.2.2.1
  have t2 := (hb12.cell (p := ⟨w.heap.size, 2, none⟩) hXw).trans X3.out.2.2.2.2.2
  have hB3 : B < w3.heap.size := by have := HZ3.out; omega
  have C12 := hid (fun (j : Nat) (hj : j < ln + 64) => (hb12.cell (p := ⟨B, j, none⟩) hB3).trans (C3.out j hj))
  have B12 := hid (below_late B3.out hb12)
  have HQ := hid (eqIns16 c a _ la ln (ln + 64) lc l w12 (SK3.out.later hb12 (Nat.le_refl _)) (SX3.out.later hb12 (Nat.le_refl _)))
  unfold insV at HQ
  clear hb12 AP
  go_wp2_with fail
  refine HQ.out.mono ?_
  rintro e w13 ⟨rfl, hb13⟩
  have hK12 : w2.heap.size < w12.heap.size := block_lt_of_cell z0
  have hB12 : B < w12.heap.size := block_lt_of_cell (C12.out 0 (by omega))
  have y0 := (hb13.cell (p := ⟨w2.heap.size, 0, none⟩) hK12).trans z0
  have y1 := (hb13.cell (p := ⟨w2.heap.size, 1, none⟩) hK12).trans z1
  have y2 := (hb13.cell (p := ⟨w2.heap.size, 2, none⟩) hK12).trans z2
  have B13 := hid (below_late B12.out hb13)
  have HSP := hid (spareIns17 c a B ln l w13 HL.out.1 hsm (fun j hj => (hb13.cell (p := ⟨B, j, none⟩) hB12).trans (C12.out j hj)))
  unfold insV at HSP
  clear hb13 HQ z0 z1 z2 t0 t1 t2
  go_wp2_with fail
  refine HSP.out.mono ?_
  rintro e w14 ⟨rfl, hb14⟩
  go_wp2_with fail
  go_ret
  exact ⟨rfl, below_late B13.out hb14⟩
end Go.Proofs.YtgljlclnmnfocaaDoor
