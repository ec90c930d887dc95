/-
  The walk over TypesWords.
-/
import Derived.Test.YtdlpbldpddobcaaWorks
namespace Go.Proofs.Ytdlpbldpddobcaa
open Go.RowKit
set_option linter.unusedVariables false

theorem wordS_size (p r : ByteArray) : (wordS p r).size ≤ p.size + r.size + 6 := by
  have h1 := sideS_size p
  have h2 := sideS_size r
  have h3 : (ByteArray.mk #[32, 45, 62, 32]).size = 4 := rfl
  unfold wordS
  rw [ByteArray.size_append, ByteArray.size_append, h3]
  omega

/-- What is alloc'd last reads so, and what was there stays. -/
theorem two_cells (w : World) (p r : ByteArray) : (w.alloc (.cells #[.string p, .string r] 23)).cell? ⟨w.heap.size, 0, none⟩ = some (.string p) ∧ (w.alloc (.cells #[.string p, .string r] 23)).cell? ⟨w.heap.size, 1, none⟩ = some (.string r) :=
  ⟨by rw [World.cell?_alloc_at _ _ _ _ rfl]; rfl, by rw [World.cell?_alloc_at _ _ _ _ rfl]; rfl⟩

/-- A signature in memory, kept. -/
structure SigAt (w : World) (b : Nat) (p r : ByteArray) : Prop where
  lt : b < w.heap.size
  c0 : w.cell? ⟨b, 0, none⟩ = some (.string p)
  c1 : w.cell? ⟨b, 1, none⟩ = some (.string r)
theorem SigAt.later {w w' : World} {b : Nat} {p r : ByteArray} (h : SigAt w b p r) (hb : Below w.heap.size w w') : SigAt w' b p r :=
  ⟨Nat.lt_of_lt_of_le h.lt hb.size, (hb.cell (by simpa using h.lt)).trans h.c0, (hb.cell (by simpa using h.lt)).trans h.c1⟩
theorem SigAt.alloc {w : World} {b : Nat} {p r : ByteArray} (h : SigAt w b p r) (o : Obj) : SigAt (w.alloc o) b p r := h.later ((Below.refl _ _).alloc (Nat.le_refl _) o)
theorem SigAt.new (w : World) (p r : ByteArray) : SigAt (w.alloc (.cells #[.string p, .string r] 23)) w.heap.size p r := ⟨by simp, (two_cells w p r).1, (two_cells w p r).2⟩
theorem below_then {w w1 w2 : World} (h1 : Below w.heap.size w w1) (h2 : Below w1.heap.size w1 w2) : Below w.heap.size w w2 := h1.trans (h2.mono h1.size)

set_option maxRecDepth 100000 in
set_option maxHeartbeats 4000000 in
theorem words3 (p r s : ByteArray) (w : World) (hm : MaxOk w) (hsum : s.size + p.size + r.size ≤ 1048576) :
    Calls Try.prog 3 #[.agg #[.string p, .string r], .string s] w fun e w' => e = .returned (.bool true) ∧ Below w.heap.size w w' := by
  have hb0 : Below w.heap.size w (w.alloc (.cells #[.string p, .string r] 23)) := (Below.refl _ _).alloc (Nat.le_refl _) _
  have hm0 := hm.later hb0 (Nat.le_refl _)
  have hx0 := SigAt.new w p r
  have hrs := rd_range s
  have hws := wordS_size p r
  have HW := hid (works5 (w.alloc (.cells #[.string p, .string r] 23)) hm0)
  have q1 : (s.size : Int) + p.size + r.size ≤ 1048576 := by omega
  go_enter Try.func3, Try.ntmps3
  go_wp2_with fail
  refine HW.out.mono ?_
  rintro e w1 ⟨rfl, hb1⟩
  have x1 := hx0.later hb1
  have m1 := hm0.later hb1 (Nat.le_refl _)
  have b1 := below_then hb0 hb1
  clear HW hx0 hm0 hb0 hb1 hm
  obtain ⟨l1, c10, c11⟩ := x1
  have M1 := hid m1
  have B1 := hid b1
  clear m1 b1
  go_wp2_with fail
  refine (word6 p r w1 (by omega) (by omega)).mono ?_
  rintro e w2 ⟨rfl, hb2⟩
  obtain ⟨l2, c20, c21⟩ := (SigAt.mk l1 c10 c11).later hb2
  have M2 := hid (M1.out.later hb2 (Nat.le_refl _))
  have B2 := hid (below_then B1.out hb2)
  clear hb2 M1 B1 c10 c11 l1
  go_wp2_with fail
  refine (word7 p r w2 (by omega) (by omega)).mono ?_
  rintro e w3 ⟨rfl, hb3⟩
  obtain ⟨l3, c30, c31⟩ := (SigAt.mk l2 c20 c21).later hb3
  have M3 := hid (M2.out.later hb3 (Nat.le_refl _))
  have B3 := hid (below_then B2.out hb3)
  clear hb3 M2 B2 c20 c21 l2
  go_wp2_with fail
  refine (readSig8 s w3 (by omega) M3.out).mono ?_
  rintro e w4 ⟨rfl, hb4⟩
  have X4 := hid (((SigAt.mk l3 c30 c31).later hb4).alloc (.cells #[.string (rdP s), .string (rdR s)] 23))
  have Y4 := hid (SigAt.new w4 (rdP s) (rdR s))
  have M4 := hid ((M3.out.later hb4 (Nat.le_refl _)).later ((Below.refl _ _).alloc (Nat.le_refl _) (.cells #[.string (rdP s), .string (rdR s)] 23)) (Nat.le_refl _))
  have B4 := hid ((below_then B3.out hb4).alloc (below_then B3.out hb4).size (.cells #[.string (rdP s), .string (rdR s)] 23))
  clear hb4 M3 B3 c30 c31 l3
  go_wp2_with fail
  generalize w4.alloc (.cells #[.string (rdP s), .string (rdR s)] 23) = w5 at X4 Y4 M4 B4 ⊢
  refine (readSig9 s w5 (by omega)).mono ?_
  rintro e w6 ⟨rfl, hb6⟩
  obtain ⟨lx, x0, x1⟩ := X4.out.later hb6
  obtain ⟨ly, y0, y1⟩ := Y4.out.later hb6
  have M6 := hid (M4.out.later hb6 (Nat.le_refl _))
  have B6 := hid (below_then B4.out hb6)
  have NA := fun o : Obj => (Below.refl w6.heap.size w6).alloc (Nat.le_refl _) o
  clear hb6 M4 B4 X4 Y4
  cases hg : sigB p r
  · rw [show wordE p r = 15 by rw [wordE, hg]; rfl]
    cases hd : rdB s
    · rw [show rdE s = 15 by rw [rdE, hd]; rfl]
      clear NA
      go_wp2
      go_ret
      exact ⟨rfl, B6.out.alloc B6.out.size _⟩
    · rw [show rdE s = 0 by rw [rdE, hd]; rfl]
      obtain ⟨ws, wq⟩ := word_rd hd
      have WV := hid (show wordV (rdP s) (rdR s) = s by rw [wordV, ws]; exact wq)
      have WE := hid (show wordE (rdP s) (rdR s) = 0 by rw [wordE, ws]; rfl)
      clear NA ws wq
      go_wp2_with fail
      refine (word6 (rdP s) (rdR s) _ (by omega) (by omega)).mono ?_
      rintro e w8 ⟨rfl, hb8⟩
      rw [WV.out, WE.out]
      go_wp2
      go_ret
      exact ⟨rfl, below_then (B6.out.alloc B6.out.size _) hb8⟩
  · rw [show wordE p r = 0 by rw [wordE, hg]; rfl, show wordV p r = wordS p r by rw [wordV, hg]; rfl]
    obtain ⟨_, rw1, rw2, rw3⟩ := rd_word hg
    have R1 := hid rw1
    have R2 := hid rw2
    have R3 := hid rw3
    have M7 := hid (M6.out.later (NA (.cells #[.string (rdP s), .string (rdR s)] 23)) (Nat.le_refl _))
    clear NA rw1 rw2 rw3
    cases hd : rdB s
    · rw [show rdE s = 15 by rw [rdE, hd]; rfl]
      go_wp2_with fail
      refine (readSig8 (wordS p r) _ (by omega) M7.out).mono ?_
      rintro e w8 ⟨rfl, hb8⟩
      rw [R1.out, R2.out, R3.out]
      have k0 : w8.cell? ⟨w.heap.size, 0, none⟩ = some (.string p) := by rw [hb8.cell (by simp; omega), World.cell?_alloc_past _ _ _ (by omega)]; exact x0
      have k1 : w8.cell? ⟨w.heap.size, 1, none⟩ = some (.string r) := by rw [hb8.cell (by simp; omega), World.cell?_alloc_past _ _ _ (by omega)]; exact x1
      have lk : w.heap.size < w8.heap.size := by have := hb8.size; simp at this; omega
      have B8 := hid (below_then (B6.out.alloc B6.out.size _) hb8)
      clear hb8
      go_wp2
      go_ret
      exact ⟨rfl, B8.out.alloc B8.out.size _⟩
    · rw [show rdE s = 0 by rw [rdE, hd]; rfl]
      obtain ⟨ws, wq⟩ := word_rd hd
      have WV := hid (show wordV (rdP s) (rdR s) = s by rw [wordV, ws]; exact wq)
      have WE := hid (show wordE (rdP s) (rdR s) = 0 by rw [wordE, ws]; rfl)
      clear ws wq
      go_wp2_with fail
      refine (readSig8 (wordS p r) _ (by omega) M7.out).mono ?_
      rintro e w8 ⟨rfl, hb8⟩
      rw [R1.out, R2.out, R3.out]
      have k0 : w8.cell? ⟨w.heap.size, 0, none⟩ = some (.string p) := by rw [hb8.cell (by simp; omega), World.cell?_alloc_past _ _ _ (by omega)]; exact x0
      have k1 : w8.cell? ⟨w.heap.size, 1, none⟩ = some (.string r) := by rw [hb8.cell (by simp; omega), World.cell?_alloc_past _ _ _ (by omega)]; exact x1
      have lk : w.heap.size < w8.heap.size := by have := hb8.size; simp at this; omega
      have j0 : w8.cell? ⟨w4.heap.size, 0, none⟩ = some (.string (rdP s)) := by rw [hb8.cell (by simp; omega), World.cell?_alloc_past _ _ _ (by omega)]; exact y0
      have j1 : w8.cell? ⟨w4.heap.size, 1, none⟩ = some (.string (rdR s)) := by rw [hb8.cell (by simp; omega), World.cell?_alloc_past _ _ _ (by omega)]; exact y1
      have lj : w4.heap.size < w8.heap.size := by have := hb8.size; simp at this; omega
      have B8 := hid (below_then (B6.out.alloc B6.out.size _) hb8)
      clear hb8
      go_wp2_with fail
      refine (word6 (rdP s) (rdR s) _ (by omega) (by omega)).mono ?_
      rintro e w9 ⟨rfl, hb9⟩
      rw [WV.out, WE.out]
      go_wp2
      go_ret
      exact ⟨rfl, below_then (B8.out.alloc B8.out.size _) hb9⟩

set_option maxRecDepth 100000 in
set_option maxHeartbeats 1000000 in
/-- Texts that are too long are let go. -/
theorem words3_big (p r s : ByteArray) (w : World) (hm : MaxOk w) (hsum : 1048576 < s.size + p.size + r.size) (z1 : p.size ≤ 140737488355328) (z2 : r.size ≤ 140737488355328) (z3 : s.size ≤ 140737488355328) :
    Calls Try.prog 3 #[.agg #[.string p, .string r], .string s] w fun e w' => e = .returned (.bool true) ∧ Below w.heap.size w w' := by
  have hb0 : Below w.heap.size w (w.alloc (.cells #[.string p, .string r] 23)) := (Below.refl _ _).alloc (Nat.le_refl _) _
  have hm0 := hm.later hb0 (Nat.le_refl _)
  have hx0 := SigAt.new w p r
  have HW := hid (works5 (w.alloc (.cells #[.string p, .string r] 23)) hm0)
  have q1 : (1048576 : Int) < (s.size : Int) + p.size + r.size := by omega
  go_enter Try.func3, Try.ntmps3
  go_wp2_with fail
  refine HW.out.mono ?_
  rintro e w1 ⟨rfl, hb1⟩
  obtain ⟨lx, x0, x1⟩ := hx0.later hb1
  have B1 := hid (below_then hb0 hb1)
  clear HW hx0 hm0 hb0 hb1 hm
  go_wp2
  go_ret
  exact ⟨rfl, B1.out⟩
end Go.Proofs.Ytdlpbldpddobcaa
