/-
  The walk over instr.Check: may the instruction be?
-/
import Derived.Test.YtgljlclnmnfocaaDoorOf
import Derived.Test.YtgljlclnmnfocaaDoorSpan
import Derived.Deep.RegionWith
namespace Go.Proofs.YtgljlclnmnfocaaDoor
open Go.RowKit
set_option linter.unusedVariables false

/-- What an opcode takes (-1: there is none), and whether it is the constant of 64 bits. -/
def tkV (c : Int) : Int := if (ofV c).2 = true then (ofV c).1.2.2.1 else -1
def lgV (c : Int) : Bool := isL (ofV c).1.2.2.2.2.1

/-- A slice of ints: its elements are 'l'. -/
def SegI (w : World) (a : Option Addr) (n cap : Nat) (l : List Int) : Prop :=
  l.length = n ∧ n ≤ cap ∧ n ≤ 1099511627776 ∧ (∀ z ∈ l, -9223372036854775808 ≤ z ∧ z ≤ 9223372036854775807) ∧
  (n = 0 ∨ ∃ b off, a = some ⟨b, off, none⟩ ∧ ∀ j, j < n → w.cell? ⟨b, off + j, none⟩ = some (.int .i64 (l.getD j 0)))

theorem SegI.later {w w' : World} {a : Option Addr} {n cap : Nat} {l : List Int} {B : Nat} (h : SegI w a n cap l) (hb : Below B w w') (hB : w.heap.size ≤ B) : SegI w' a n cap l := by
  obtain ⟨hz, h1, h2, h3, ha⟩ := h
  refine ⟨hz, h1, h2, h3, ?_⟩
  rcases ha with ha | ⟨b, off, e, hc⟩
  · exact .inl ha
  · refine .inr ⟨b, off, e, fun j hj => ?_⟩
    have := hc j hj
    have hlt : b < w.heap.size := block_lt_of_cell this
    exact (hb.cell (p := ⟨b, off + j, none⟩) (by exact Nat.lt_of_lt_of_le hlt hB)).trans this

/-- An instruction as a value. -/
def insV (c a : Int) (s : Value) : Value := .agg #[.int .u8 c, .int .i64 a, s]

theorem held_chk {X Y : Nat} {c a rc t : Int} {la : Option Addr} {ln lc : Nat} {wd pp ps : ByteArray} {pl : Bool} {w2 W W' : World} (hb : Below W.heap.size W W')
    (h : W.cell? ⟨X, 0, none⟩ = some (.int .u8 c) ∧ W.cell? ⟨X, 1, none⟩ = some (.int .i64 a) ∧ W.cell? ⟨X, 2, none⟩ = some (.slice la ln lc) ∧ W.cell? ⟨Y, 0, none⟩ = some (.int .u8 rc) ∧ W.cell? ⟨Y, 1, none⟩ = some (.string wd) ∧ W.cell? ⟨Y, 2, none⟩ = some (.int .i8 t) ∧ W.cell? ⟨Y, 3, none⟩ = some (.string pp) ∧ W.cell? ⟨Y, 4, none⟩ = some (.string ps) ∧ W.cell? ⟨Y, 5, none⟩ = some (.bool pl) ∧ Below w2.heap.size w2 W) :
    W'.cell? ⟨X, 0, none⟩ = some (.int .u8 c) ∧ W'.cell? ⟨X, 1, none⟩ = some (.int .i64 a) ∧ W'.cell? ⟨X, 2, none⟩ = some (.slice la ln lc) ∧ W'.cell? ⟨Y, 0, none⟩ = some (.int .u8 rc) ∧ W'.cell? ⟨Y, 1, none⟩ = some (.string wd) ∧ W'.cell? ⟨Y, 2, none⟩ = some (.int .i8 t) ∧ W'.cell? ⟨Y, 3, none⟩ = some (.string pp) ∧ W'.cell? ⟨Y, 4, none⟩ = some (.string ps) ∧ W'.cell? ⟨Y, 5, none⟩ = some (.bool pl) ∧ Below w2.heap.size w2 W' := by
  obtain ⟨h0, h1, h2, h3, h4, h5, h6, h7, h8, h9⟩ := h
  have hX := block_lt_of_cell h0
  have hY := block_lt_of_cell h3
  exact ⟨(hb.cell (by simpa using hX)).trans h0, (hb.cell (by simpa using hX)).trans h1, (hb.cell (by simpa using hX)).trans h2, (hb.cell (by simpa using hY)).trans h3, (hb.cell (by simpa using hY)).trans h4,
    (hb.cell (by simpa using hY)).trans h5, (hb.cell (by simpa using hY)).trans h6, (hb.cell (by simpa using hY)).trans h7, (hb.cell (by simpa using hY)).trans h8, h9.trans (hb.mono h9.size)⟩

theorem chk_none {g : Bool} {a : Int} {l : List Int} : chk (-1) g a l = 21 := by unfold chk; rw [if_pos rfl]

/-- The labels from k on may be, as far as they were looked at. -/
theorem okL_drop (l : List Int) (k : Nat) (hk : k < l.length) : okL (l.drop k) ↔ (0 ≤ l.getD k 0 ∧ l.getD k 0 ≤ 2147483647) ∧ okL (l.drop (k + 1)) := by
  rw [List.drop_eq_getElem_cons hk]
  simp [okL, hk]

theorem getD_i64 (l : List Int) (hr : ∀ z ∈ l, -9223372036854775808 ≤ z ∧ z ≤ 9223372036854775807) (j : Nat) : -9223372036854775808 ≤ l.getD j 0 ∧ l.getD j 0 ≤ 9223372036854775807 := by
  by_cases h : j < l.length
  · simp only [List.getD_eq_getElem?_getD, List.getElem?_eq_getElem h, Option.getD_some]; exact hr _ (List.getElem_mem h)
  · simp only [List.getD_eq_getElem?_getD, List.getElem?_eq_none (by omega : l.length ≤ j), Option.getD_none]; omega

def cLo (t : Int) : Int := if t = 3 then 1 else 0
def cHi (t : Int) : Int := if t = 3 then 16 else 0

/-- The last part of the check, the row being known. -/
theorem chk_some {t : Int} {g : Bool} {a : Int} {l : List Int} (ht : t ≠ -1) (h1 : inB (lo t g) (hi t g) a = true) (h2 : inB (cLo t) (cHi t) l.length = true) :
    chk t g a l = if okL l then 0 else 17 := by
  unfold inB cLo cHi at *
  have h1 := of_decide_eq_true h1
  have h2 := of_decide_eq_true h2
  unfold chk
  rw [if_neg ht, if_neg (by omega)]
  by_cases h3 : t = 3
  · rw [if_pos h3] at *
    rw [if_pos h3] at h2
    rw [if_neg (by omega)]
  · rw [if_neg h3] at *
    rw [if_neg h3] at h2
    have : l = [] := List.eq_nil_of_length_eq_zero (by omega)
    subst this
    rfl
theorem chk_out {t : Int} {g : Bool} {a : Int} {l : List Int} (ht : t ≠ -1) (h : inB (lo t g) (hi t g) a = false ∨ inB (cLo t) (cHi t) l.length = false) : chk t g a l = 17 := by
  unfold inB cLo cHi at h
  unfold chk
  rw [if_neg ht]
  by_cases ha : a < lo t g ∨ hi t g < a
  · rw [if_pos ha]
  rw [if_neg ha]
  have h : ¬ ((if t = 3 then 1 else 0 : Int) ≤ l.length ∧ (l.length : Int) ≤ (if t = 3 then 16 else 0 : Int)) := by
    rcases h with h | h
    · exact absurd (of_decide_eq_false h) (by omega)
    · exact of_decide_eq_false h
  by_cases h3 : t = 3
  · rw [if_pos h3] at h ⊢
    rw [if_pos h3] at h
    rw [if_pos (by omega)]
  · rw [if_neg h3] at h ⊢
    rw [if_neg h3] at h
    rw [if_neg (by omega)]

theorem tk_ne (c : Int) (h0 : 0 ≤ c) (h1 : c ≤ 255) : ((ofV c).1.2.2.1 ≠ -1) := by
  obtain ⟨n, rfl⟩ := Int.eq_ofNat_of_zero_le h0
  have hall : ((List.range 256).all fun (n : Nat) => decide ((ofV (n : Int)).1.2.2.1 ≠ -1)) = true := by decide +kernel
  exact of_decide_eq_true (List.all_eq_true.1 hall n (List.mem_range.2 (by omega)))

theorem counts_spans (c t : Int) (wd pp ps : ByteArray) (pl : Bool) (w : World) :
    Calls Tryd.prog 32 #[.agg #[.int .u8 c, .string wd, .int .i8 t, .string pp, .string ps, .bool pl]] w fun e w' => e = .returned (spanV (cLo t) (cHi t)) ∧ Below w.heap.size w w' := by
  refine (counts32 c t wd pp ps pl w).mono fun e w' ⟨he, hb⟩ => ⟨?_, hb⟩
  rw [he]
  unfold cLo cHi
  by_cases h : t = 3
  · rw [if_pos h, if_pos h, if_pos h]
  · rw [if_neg h, if_neg h, if_neg h]

set_option maxRecDepth 100000 in
set_option maxHeartbeats 4000000 in
theorem check12 (c a : Int) (la : Option Addr) (ln lc : Nat) (l : List Int) (w : World) (hk : KindsOk w) (h0 : 0 ≤ c) (h1 : c ≤ 255) (hl : SegI w la ln lc l) :
    Calls Tryd.prog 12 #[insV c a (.slice la ln lc)] w fun e w' => e = .returned (.int .i64 (chk (tkV c) (lgV c) a l)) ∧ Below w.heap.size w w' := by
  have hof := hid (fun W hW => of6 c W hW h0 h1)
  have hne := tk_ne c h0 h1
  unfold tkV lgV insV
  generalize ofV c = V at *
  obtain ⟨⟨rc, wd, t, pp, ps, pl⟩, fnd⟩ := V
  simp only [rv, rowV] at hof hne ⊢
  have HL := hid hl
  have hln := hl.2.2.1
  have hlen := hl.1
  clear hl
  have hb0 : Below w.heap.size w (w.alloc (.cells #[.int .u8 c, .int .i64 a, .slice la ln lc] 24)) := (Below.refl _ _).alloc (Nat.le_refl _) _
  have HO := hid (hof.out _ (hk.later hb0 hk.pos))
  clear hof
  cases fnd
  · go_enter Tryd.func12, Tryd.ntmps12
    go_wp2_with fail
    refine HO.out.mono ?_
    rintro e w1 ⟨rfl, hb1⟩
    go_wp2
    go_ret
    refine ⟨?_, ?_⟩
    · rw [chk_none]; rfl
    · exact (hb0.trans (hb1.mono (by simp))).alloc (by have := hb1.size; simp at this; omega) _
  simp only [if_true]
  go_enter Tryd.func12, Tryd.ntmps12
  go_wp2_with fail
  refine HO.out.mono ?_
  rintro e w1 ⟨rfl, hb1⟩
  have x0 : w1.cell? ⟨w.heap.size, 0, none⟩ = some (.int .u8 c) := by rw [hb1.cell (by simp)]; simp [go_sem]
  have x1 : w1.cell? ⟨w.heap.size, 1, none⟩ = some (.int .i64 a) := by rw [hb1.cell (by simp)]; simp [go_sem]
  have x2 : w1.cell? ⟨w.heap.size, 2, none⟩ = some (.slice la ln lc) := by rw [hb1.cell (by simp)]; simp [go_sem]
  have hx := block_lt_of_cell x0
  have B1 := hid (hb0.trans (hb1.mono (by simp)))
  clear hb1
  go_wp2_with fail
  obtain ⟨w2, hw2⟩ : ∃ w2, w1.alloc (.cells #[.int .u8 rc, .string wd, .int .i8 t, .string pp, .string ps, .bool pl] 68) = w2 := ⟨_, rfl⟩
  rw [hw2]
  have B2 := hid (show Below w.heap.size w w2 by rw [← hw2]; exact B1.out.alloc (by have := B1.out.size; omega) _)
  have y : w2.cell? ⟨w.heap.size, 0, none⟩ = some (.int .u8 c) ∧ w2.cell? ⟨w.heap.size, 1, none⟩ = some (.int .i64 a) ∧ w2.cell? ⟨w.heap.size, 2, none⟩ = some (.slice la ln lc) ∧ w2.cell? ⟨w1.heap.size, 0, none⟩ = some (.int .u8 rc) ∧ w2.cell? ⟨w1.heap.size, 1, none⟩ = some (.string wd) ∧ w2.cell? ⟨w1.heap.size, 2, none⟩ = some (.int .i8 t) ∧ w2.cell? ⟨w1.heap.size, 3, none⟩ = some (.string pp) ∧ w2.cell? ⟨w1.heap.size, 4, none⟩ = some (.string ps) ∧ w2.cell? ⟨w1.heap.size, 5, none⟩ = some (.bool pl) ∧ Below w2.heap.size w2 w2 := by
    rw [← hw2]
    refine ⟨?_, ?_, ?_, ?_, ?_, ?_, ?_, ?_, ?_, (Below.refl _ _)⟩
    · rw [World.cell?_alloc_past _ _ _ hx]; exact x0
    · rw [World.cell?_alloc_past _ _ _ hx]; exact x1
    · rw [World.cell?_alloc_past _ _ _ hx]; exact x2
    all_goals simp [go_sem]
  clear hw2 x0 x1 x2 B1 HO hb0
  have yd := y
  obtain ⟨y0, y1, y2, y3, y4, y5, y6, y7, y8, _⟩ := y
  have hwrap : IntKind.i64.wrap (ln : Int) = ln := by simp [IntKind.wrap, IntKind.bits, IntKind.signed]; omega
  by_cases hA : inB (lo t (isL ps)) (hi t (isL ps)) a = true
  · by_cases hC : inB (cLo t) (cHi t) l.length = true
    · have HV := hid (chk_some (a := a) (l := l) hne hA hC)
      rw [hlen] at hC
      go_region_held3 (fun W => W.cell? ⟨w.heap.size, 0, none⟩ = some (.int .u8 c) ∧ W.cell? ⟨w.heap.size, 1, none⟩ = some (.int .i64 a) ∧ W.cell? ⟨w.heap.size, 2, none⟩ = some (.slice la ln lc) ∧ W.cell? ⟨w1.heap.size, 0, none⟩ = some (.int .u8 rc) ∧ W.cell? ⟨w1.heap.size, 1, none⟩ = some (.string wd) ∧ W.cell? ⟨w1.heap.size, 2, none⟩ = some (.int .i8 t) ∧ W.cell? ⟨w1.heap.size, 3, none⟩ = some (.string pp) ∧ W.cell? ⟨w1.heap.size, 4, none⟩ = some (.string ps) ∧ W.cell? ⟨w1.heap.size, 5, none⟩ = some (.bool pl) ∧ Below w2.heap.size w2 W)
        (first | assumption | (refine held_chk ?_ ?_ <;> assumption) | (exact ⟨y0, y1, y2, y3, y4, y5, y6, y7, y8, (Below.refl _ _).drew⟩))
        (first
          | (go_at_call 30; refine (numbers30 rc t wd pp ps pl _).mono ?_; rintro e w' ⟨rfl, hbx⟩; have hS' := held_chk (X := w.heap.size) (Y := w1.heap.size) (w2 := w2) hbx (by assumption); clear hbx)
          | (go_at_call 32; refine (counts_spans rc t wd pp ps pl _).mono ?_; rintro e w' ⟨rfl, hbx⟩; have hS' := held_chk (X := w.heap.size) (Y := w1.heap.size) (w2 := w2) hbx (by assumption); clear hbx)
          | (go_at_call 31; refine (holds31 _ _ _ _).mono ?_; rintro e w' ⟨rfl, hbx⟩; have hS' := held_chk (X := w.heap.size) (Y := w1.heap.size) (w2 := w2) hbx (by assumption); clear hbx))
      have B3 := hid (B2.out.trans (hS'.2.2.2.2.2.2.2.2.2.mono B2.out.size))
      have z2 := hS'.2.2.1
      clear hS' yd y0 y1 y2 y3 y4 y5 y6 y7 y8 hC hA

      go_wp2_with fail
      go_loopw [33] (fun i wr => ∃ k : Nat, k ≤ ln ∧ i = .int .i64 k ∧ Below w.heap.size w wr ∧ (okL l ↔ okL (l.drop k))) (fun i _ => ln - (intOf i).toNat)
      case atStart => exact ⟨0, Nat.zero_le _, rfl, B3.out, by simp⟩
      case round =>
        obtain ⟨k, hk, rfl, hb, hok⟩ := hrel
        have HB := hid hb
        have HK := hid hok
        clear hb hok B3 z2
        by_cases hlt : k < ln
        · rcases HL.out.2.2.2.2 with hz | ⟨b, off, rfl, hc⟩
          · omega
          have hcell : wr.cell? ⟨b, off + k, none⟩ = some (.int .i64 (l.getD k 0)) := (HB.out.cell (p := ⟨b, off + k, none⟩) (block_lt_of_cell (hc k hlt))).trans (hc k hlt)
          have hd := okL_drop l k (by omega)
          have hrz := getD_i64 l HL.out.2.2.2.1 k
          generalize l.getD k 0 = z at *
          have HD := hid hd
          clear hd hc
          by_cases hin : inB 0 2147483647 z = true
          · go_wp2_with fail
            refine (indices33 _).mono ?_
            rintro e w3 ⟨rfl, hb3⟩
            go_wp2_with fail
            refine (holds31 _ _ _ _).mono ?_
            rintro e w4 ⟨rfl, hb4⟩
            go_wp2_with fail
            have hz2 := of_decide_eq_true hin
            exact ⟨⟨k + 1, by omega, by go_num, (HB.out.trans (hb3.mono HB.out.size)).trans (hb4.mono (Nat.le_trans HB.out.size hb3.size)), by rw [HK.out, HD.out]; simp [hz2]⟩, by simp [intOf]; omega⟩
          · have hin' : inB 0 2147483647 z = false := by simpa using hin
            clear hin
            go_wp2_with fail
            refine (indices33 _).mono ?_
            rintro e w3 ⟨rfl, hb3⟩
            go_wp2_with fail
            refine (holds31 _ _ _ _).mono ?_
            rintro e w4 ⟨rfl, hb4⟩
            go_wp2_with fail
            go_ret
            have hz2 := of_decide_eq_false hin'
            refine ⟨?_, (HB.out.trans (hb3.mono HB.out.size)).trans (hb4.mono (Nat.le_trans HB.out.size hb3.size))⟩
            rw [HV.out, if_neg (by rw [HK.out, HD.out]; exact fun h => hz2 h.1)]
            rfl
        · go_wp2_with fail
          go_ret
          refine ⟨?_, HB.out⟩
          rw [HV.out, if_pos (by rw [HK.out, List.drop_eq_nil_of_le (by omega)]; trivial)]
          rfl
    · have hC' : inB (cLo t) (cHi t) l.length = false := by simpa using hC
      have HV := hid (chk_out (a := a) (l := l) (g := isL ps) hne (.inr hC'))
      rw [hlen] at hC'
      clear hC
      go_region_held3 (fun W => W.cell? ⟨w.heap.size, 0, none⟩ = some (.int .u8 c) ∧ W.cell? ⟨w.heap.size, 1, none⟩ = some (.int .i64 a) ∧ W.cell? ⟨w.heap.size, 2, none⟩ = some (.slice la ln lc) ∧ W.cell? ⟨w1.heap.size, 0, none⟩ = some (.int .u8 rc) ∧ W.cell? ⟨w1.heap.size, 1, none⟩ = some (.string wd) ∧ W.cell? ⟨w1.heap.size, 2, none⟩ = some (.int .i8 t) ∧ W.cell? ⟨w1.heap.size, 3, none⟩ = some (.string pp) ∧ W.cell? ⟨w1.heap.size, 4, none⟩ = some (.string ps) ∧ W.cell? ⟨w1.heap.size, 5, none⟩ = some (.bool pl) ∧ Below w2.heap.size w2 W)
        (first | assumption | (refine held_chk ?_ ?_ <;> assumption) | (exact ⟨y0, y1, y2, y3, y4, y5, y6, y7, y8, (Below.refl _ _).drew⟩))
        (first
          | (go_at_call 30; refine (numbers30 rc t wd pp ps pl _).mono ?_; rintro e w' ⟨rfl, hbx⟩; have hS' := held_chk (X := w.heap.size) (Y := w1.heap.size) (w2 := w2) hbx (by assumption); clear hbx)
          | (go_at_call 32; refine (counts_spans rc t wd pp ps pl _).mono ?_; rintro e w' ⟨rfl, hbx⟩; have hS' := held_chk (X := w.heap.size) (Y := w1.heap.size) (w2 := w2) hbx (by assumption); clear hbx)
          | (go_at_call 31; refine (holds31 _ _ _ _).mono ?_; rintro e w' ⟨rfl, hbx⟩; have hS' := held_chk (X := w.heap.size) (Y := w1.heap.size) (w2 := w2) hbx (by assumption); clear hbx))
      have B3 := hid (B2.out.trans (hS'.2.2.2.2.2.2.2.2.2.mono B2.out.size))
      clear hS' yd y0 y1 y2 y3 y4 y5 y6 y7 y8
      go_wp2_with fail
      go_ret
      exact ⟨by rw [HV.out]; rfl, B3.out⟩
  · have hA' : inB (lo t (isL ps)) (hi t (isL ps)) a = false := by simpa using hA
    have HV := hid (chk_out (a := a) (l := l) hne (.inl hA'))
    clear hA
    first | (go_region_with (first
      | (go_at_call 30; refine (numbers30 rc t wd pp ps pl _).mono ?_; rintro e w3 ⟨rfl, hb3⟩; have hS3 := held_chk (X := w.heap.size) (Y := w1.heap.size) (w2 := w2) hb3 ⟨y0, y1, y2, y3, y4, y5, y6, y7, y8, (Below.refl _ _).drew⟩; clear hb3)
      | (go_at_call 31; refine (holds31 _ _ _ _).mono ?_; rintro e w4 ⟨rfl, hb4⟩; have hS' := held_chk (X := w.heap.size) (Y := w1.heap.size) (w2 := w2) hb4 hS3; clear hb4))) | fail
    all_goals
      have B3 := hid (B2.out.trans (hS'.2.2.2.2.2.2.2.2.2.mono B2.out.size))
      clear hS' yd y0 y1 y2 y3 y4 y5 y6 y7 y8
      go_wp2_with fail
      go_ret
      exact ⟨by rw [HV.out]; rfl, B3.out⟩
end Go.Proofs.YtgljlclnmnfocaaDoor
