/-
  The walk over works.
-/
import Derived.Test.YtfcklkmfdjjfoaaDoorWs
namespace Go.Proofs.YtfcklkmfdjjfoaaDoor
open Go.RowKit
set_option linter.unusedVariables false

theorem seg_lit4 (w : World) (z0 z1 z2 z3 : Int) : SegL (w.alloc (Obj.cells #[.int .i64 z0, .int .i64 z1, .int .i64 z2, .int .i64 z3] 3)) (some ⟨w.heap.size, 0, none⟩) 4 4 [z0, z1, z2, z3] := by
  refine ⟨rfl, Nat.le_refl _, by omega, .inr ⟨_, _, rfl, fun j hj => ?_⟩⟩
  rw [Nat.zero_add, World.cell?_alloc_new]
  rcases j with _ | _ | _ | _ | j
  · rfl
  · rfl
  · rfl
  · rfl
  · omega

theorem SegL.toI {w : World} {a : Option Addr} {n cap : Nat} {l : List Int} (h : SegL w a n cap l) (hn : n ≤ 1099511627776) (hr : ∀ z ∈ l, -9223372036854775808 ≤ z ∧ z ≤ 9223372036854775807) : SegI w a n cap l := ⟨h.1, h.2.1, hn, hr, h.2.2.2⟩

/-- EqInts of a row of four and a list that is laid for it. -/
theorem eq4 (w : World) (A : Nat) (f : Nat → Int) (z0 z1 z2 z3 : Int) (h : RI w A 4 f) (e : (List.range 4).map f = [z0, z1, z2, z3]) (hr : ∀ z ∈ [z0, z1, z2, z3], -9223372036854775808 ≤ z ∧ z ≤ 9223372036854775807) :
    Calls Tryd.prog 22 #[.slice (some ⟨A, 0, none⟩) 4 4, .slice (some ⟨w.heap.size, 0, none⟩) 4 4] (w.alloc (Obj.cells #[.int .i64 z0, .int .i64 z1, .int .i64 z2, .int .i64 z3] 3)) fun e w' => e = .returned (.bool true) ∧ Below w.heap.size w w' := by
  have hb := (Below.refl w.heap.size w).alloc (Nat.le_refl _) (Obj.cells #[.int .i64 z0, .int .i64 z1, .int .i64 z2, .int .i64 z3] 3)
  have h1 := ((h.segL (by omega)).later hb (Nat.le_refl _))
  rw [e] at h1
  refine (eqi _ _ 4 4 4 4 _ _ _ (h1.toI (by omega) hr) ((seg_lit4 w z0 z1 z2 z3).toI (by omega) hr)).mono fun e w' ⟨he, hk⟩ => ⟨?_, below_kept hb hk (by simp) (fun _ x => x.elim)⟩
  rw [he, decide_eq_true rfl]

theorem segb_lit4 (w : World) (z0 z1 z2 z3 : Bool) : SegB (w.alloc (Obj.cells #[.bool z0, .bool z1, .bool z2, .bool z3] 4)) (some ⟨w.heap.size, 0, none⟩) 4 [z0, z1, z2, z3] := by
  refine ⟨rfl, by omega, .inr ⟨_, rfl, fun j hj => ?_⟩⟩
  rw [World.cell?_alloc_new]
  rcases j with _ | _ | _ | _ | j
  · rfl
  · rfl
  · rfl
  · rfl
  · omega
theorem eqb4 (w : World) (A : Nat) (f : Nat → Bool) (z0 z1 z2 z3 : Bool) (h : RB w A 4 f) (e : (List.range 4).map f = [z0, z1, z2, z3]) :
    Calls Tryd.prog 15 #[.slice (some ⟨A, 0, none⟩) 4 4, .slice (some ⟨w.heap.size, 0, none⟩) 4 4] (w.alloc (Obj.cells #[.bool z0, .bool z1, .bool z2, .bool z3] 4)) fun e w' => e = .returned (.bool true) ∧ Below w.heap.size w w' := by
  have hb := (Below.refl w.heap.size w).alloc (Nat.le_refl _) (Obj.cells #[.bool z0, .bool z1, .bool z2, .bool z3] 4)
  have h1 := ((h.seg (by omega)).later hb (Nat.le_refl _))
  rw [e] at h1
  refine (eqb _ _ 4 4 4 4 _ _ _ h1 (segb_lit4 w z0 z1 z2 z3)).mono fun e w' ⟨he, hk⟩ => ⟨?_, below_kept hb hk (by simp) (fun _ x => x.elim)⟩
  rw [he, decide_eq_true rfl]

/-- The code of works. -/
def four : List Inx := [bare 3, bare 1, bare 6, bare 6]
theorem four_at (w : World) (b : Nat) (h : ∀ j, j < 12 → w.cell? ⟨b, j, none⟩ = (#[Value.int .u8 3, .int .i64 0, .slice none 0 0, .int .u8 1, .int .i64 0, .slice none 0 0, .int .u8 6, .int .i64 0, .slice none 0 0, .int .u8 6, .int .i64 0, .slice none 0 0] : Array Value)[j]?) : Cod w b 0 4 four := by
  have h0 : InAt w b 0 (bare 3) := bare_at (h 0 (by omega)) (h 1 (by omega)) (h 2 (by omega)) (by decide)
  have h1 : InAt w b 3 (bare 1) := bare_at (h 3 (by omega)) (h 4 (by omega)) (h 5 (by omega)) (by decide)
  have h2 : InAt w b 6 (bare 6) := bare_at (h 6 (by omega)) (h 7 (by omega)) (h 8 (by omega)) (by decide)
  have h3 : InAt w b 9 (bare 6) := bare_at (h 9 (by omega)) (h 10 (by omega)) (h 11 (by omega)) (by decide)
  refine ⟨rfl, fun j hj => ?_⟩
  rcases j with _ | _ | _ | _ | j
  · exact h0
  · exact h1
  · exact h2
  · exact h3
  · omega
theorem four_res : res (opF four) 4 0 = (0, 0) := by decide
theorem four_st : (List.range 4).map (fun i => (stF (leB (opF four) 4) i : Int)) = [0, 1, 1, 3] := by decide
theorem four_lf : (List.range 4).map (fun i => (lfF (stF (leB (opF four) 4)) 4 i : Int)) = [1, 2, 1, 1] := by decide
theorem four_le : (List.range 4).map (leB (opF four) 4) = [true, true, false, true] := by decide

set_option maxRecDepth 100000 in
set_option maxHeartbeats 4000000 in
theorem works (w : World) : Calls Tryd.prog 4 #[] w fun e w' => e = .returned (.bool true) ∧ Below w.heap.size w w' := by
  obtain ⟨o, ho⟩ : ∃ o, o = Obj.cells #[Value.int .u8 3, .int .i64 0, .slice none 0 0, .int .u8 1, .int .i64 0, .slice none 0 0, .int .u8 6, .int .i64 0, .slice none 0 0, .int .u8 6, .int .i64 0, .slice none 0 0] 67 := ⟨_, rfl⟩
  have hb0 := (Below.refl w.heap.size w).alloc (Nat.le_refl _) o
  have hcod := four_at (w.alloc o) w.heap.size (fun j _ => by rw [ho, World.cell?_alloc_new])
  have hcs : CodS (w.alloc o) (some ⟨w.heap.size, 0, none⟩) 4 four := ⟨rfl, .inr ⟨_, _, rfl, hcod⟩⟩
  have z0 : (w.alloc o).heap.size = w.heap.size + 1 := by simp
  have H1 := hid (tableC (some ⟨w.heap.size, 0, none⟩) 4 4 four (w.alloc o) (by omega) (by omega) hcs)
  have HC := hid hcs
  have HB0 := hid hb0
  clear hb0 hcod hcs
  go_enter Tryd.func4, Tryd.ntmps4
  go_wp2_with fail
  rw [← ho]
  clear ho
  generalize w.alloc o = W0 at *
  refine H1.out.mono ?_
  rintro e w1 ⟨a1, n1, c1, a2, n2, c2, rfl, hT, hb1⟩
  rcases hT with ⟨h0, _⟩ | ⟨_, l1, l2⟩
  · exact absurd (by rw [four_res]) h0
  have q1 := l1.segL (by simp) l1.cap
  have q2 := l2.segL (by simp) l2.cap
  have hs1 := hb1.size
  have H2 := hid (ofC (some ⟨w.heap.size, 0, none⟩) 4 4 four none 0 0 a1 n1 c1 a2 n2 c2 none 0 0 0 _ _ w1 (by omega) (by omega) (HC.out.later hb1 (Nat.le_refl _)) q1 q2)
  have HB1 := hid (HB0.out.trans (hb1.mono (by omega)))
  have HC1 := hid (HC.out.later hb1 (Nat.le_refl _))
  clear l1 l2 q1 q2 hb1 H1 HC HB0
  go_wp2_with fail
  refine H2.out.mono ?_
  rintro e w2 ⟨b1, b2, m, rfl, hO, hb2⟩
  rcases hO with ⟨hx, _⟩ | ⟨hg, _, _, rfl, A, B, x1, x2, x3, rfl, rfl, y1, y2⟩
  · exact absurd ⟨by rw [four_res], rfl, rfl⟩ hx
  have hs2 := hb2.size
  obtain ⟨ob, hob⟩ : ∃ ob, ob = Obj.cells #[Value.slice (some ⟨A, 0, none⟩) 4 4, .slice (some ⟨B, 0, none⟩) 4 4] 33 := ⟨_, rfl⟩
  have hb3 := hb2.alloc hb2.size ob
  have H3 := hid (leadsC (some ⟨w.heap.size, 0, none⟩) 4 4 four (w2.alloc ob) (by omega) (by omega) (HC1.out.later hb3 (Nat.le_refl _)))
  have p0 : (w2.alloc ob).cell? ⟨w2.heap.size, 0, none⟩ = some (.slice (some ⟨A, 0, none⟩) 4 4) := by rw [hob, World.cell?_alloc_new]; rfl
  have p1 : (w2.alloc ob).cell? ⟨w2.heap.size, 1, none⟩ = some (.slice (some ⟨B, 0, none⟩) 4 4) := by rw [hob, World.cell?_alloc_new]; rfl
  have z3 : (w2.alloc ob).heap.size = w2.heap.size + 1 := by simp
  have Y1 := hid (y1.kept (Kept.alloc (fun _ => False) w2 ob) (fun x => x))
  have Y2 := hid (y2.kept (Kept.alloc (fun _ => False) w2 ob) (fun x => x))
  have HB3 := hid (HB1.out.trans (hb3.mono HB1.out.size))
  clear hb2 hb3 y1 y2 hg HC1 HB1 H2
  go_wp2_with fail
  rw [← hob]
  clear hob
  generalize w2.alloc ob = W3 at *
  refine H3.out.mono ?_
  rintro e w4 ⟨a3, m3, rfl, hL, hb4⟩
  rcases hL with ⟨hx, _⟩ | ⟨_, rfl, G, g1, rfl, hG⟩
  · exact absurd (by rw [four_res]) hx
  have hs4 := hb4.size
  have r0 := (hb4.cell (p := ⟨w2.heap.size, 0, none⟩) (by show w2.heap.size < _; omega)).trans p0
  have r1 := (hb4.cell (p := ⟨w2.heap.size, 1, none⟩) (by show w2.heap.size < _; omega)).trans p1
  have y1 := Y1.out.later hb4 (Nat.le_refl _)
  have H4 := hid (eq4 w4 A _ 0 1 1 3 y1 four_st (by decide))
  have Y2' := hid (Y2.out.later hb4 (Nat.le_refl _))
  have HG := hid hG
  have HB4 := hid (HB3.out.trans (hb4.mono HB3.out.size))
  clear p0 p1 y1 hG hb4 Y1 Y2 HB3 H3
  go_wp2_with fail
  refine H4.out.mono ?_
  rintro e w5 ⟨rfl, hb5⟩
  have hs5 := hb5.size
  have r1' := (hb5.cell (p := ⟨w2.heap.size, 1, none⟩) (by show w2.heap.size < _; omega)).trans r1
  have H5 := hid (eq4 w5 B _ 1 2 1 1 (Y2'.out.later hb5 (Nat.le_refl _)) four_lf (by decide))
  have HG5 := hid (HG.out.later hb5 (Nat.le_refl _))
  have HB5 := hid (HB4.out.trans (hb5.mono HB4.out.size))
  clear hb5 r0 r1 HG HB4 Y2' H4
  go_wp2_with fail
  refine H5.out.mono ?_
  rintro e w6 ⟨rfl, hb6⟩
  have H6 := hid (eqb4 w6 G _ true true false true (HG5.out.later hb6 (Nat.le_refl _)) four_le)
  have HB6 := hid (HB5.out.trans (hb6.mono HB5.out.size))
  clear hb6 HG5 HB5 H5
  go_wp2_with fail
  refine H6.out.mono ?_
  rintro e w7 ⟨rfl, hb7⟩
  have HB7 := hid (HB6.out.trans (hb7.mono HB6.out.size))
  clear hb7
  go_wp2_with fail
  go_ret
  exact ⟨rfl, HB7.out⟩
end Go.Proofs.YtfcklkmfdjjfoaaDoor
