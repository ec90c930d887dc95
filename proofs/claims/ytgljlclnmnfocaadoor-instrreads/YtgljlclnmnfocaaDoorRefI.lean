/-
  The walks over the document's Of, Takes, Check.
-/
import Derived.Test.YtgljlclnmnfocaaDoorChk
import Derived.Test.YtgljlclnmnfocaaDoorPure
import Derived.Test.YtgljlclnmnfocaaDoorRefW
import Derived.Test.YtgljlclnmnfocaaDoorEnc
namespace Go.Proofs.YtgljlclnmnfocaaDoor
open Go.RowKit
set_option linter.unusedVariables false

/-- The document's row of an opcode is the program's. -/
theorem refOf34 (c : Int) (w : World) (h0 : 0 ≤ c) (h1 : c ≤ 255) : Calls Tryd.prog 34 #[.int .u8 c] w fun e w' => e = .returned (.tuple #[.agg (rv (ofV c).1), .bool (ofV c).2]) ∧ Below w.heap.size w w' := by
  refine (ref7 c w).mono fun e w' h => ?_
  obtain ⟨he, hw⟩ := h
  rw [refLook_eq, ← of_ref c h0 h1] at he hw
  exact ⟨he, by rw [hw]; exact (Below.refl _ _).alloc (Nat.le_refl _) _⟩

set_option maxHeartbeats 1000000 in
theorem takes27 (c : Int) (w : World) (h0 : 0 ≤ c) (h1 : c ≤ 255) : Calls Tryd.prog 27 #[.int .u8 c] w fun e w' => e = .returned (.int .i8 (tkV c)) ∧ Below w.heap.size w w' := by
  have hof := refOf34 c w h0 h1
  unfold tkV
  generalize ofV c = V at *
  obtain ⟨⟨rc, wd, t, pp, ps, pl⟩, fnd⟩ := V
  simp only [rv, rowV] at hof ⊢
  have HO := hid hof
  clear hof
  cases fnd
  · go_enter Tryd.func27, Tryd.ntmps27
    go_wp2_with fail
    refine HO.out.mono ?_
    rintro e w1 ⟨rfl, hb1⟩
    go_wp2
    go_ret
    exact ⟨rfl, hb1.alloc hb1.size _⟩
  · go_enter Tryd.func27, Tryd.ntmps27
    go_wp2_with fail
    refine HO.out.mono ?_
    rintro e w1 ⟨rfl, hb1⟩
    go_wp2
    go_ret
    exact ⟨rfl, hb1.alloc hb1.size _⟩

/-- The word of the constant of 64 bits. -/
def isLc (wd : ByteArray) : Bool := decide (wd = ⟨#[108, 46, 99, 111, 110, 115, 116]⟩)
theorem isLc_toList (ps : ByteArray) : (ps.toList == [108, 46, 99, 111, 110, 115, 116]) = isLc ps := by
  rw [ByteArray.toList_eq]
  unfold isLc
  by_cases h : ps = ⟨#[108, 46, 99, 111, 110, 115, 116]⟩
  · simp [h]
  · rw [decide_eq_false h, beq_eq_false_iff_ne]
    intro e
    apply h
    cases ps with
    | mk d =>
      have e2 : d.toList = (#[108, 46, 99, 111, 110, 115, 116] : Array UInt8).toList := e
      rw [Array.toList_inj.1 e2]
theorem lc_all : ((List.range 256).all fun (n : Nat) => decide ((ofV (n : Int)).1.2.2.1 = 8 → isLc (ofV (n : Int)).1.2.1 = isL (ofV (n : Int)).1.2.2.2.2.1)) = true := by decide +kernel
theorem lc_of (c : Int) (h0 : 0 ≤ c) (h1 : c ≤ 255) : (ofV c).1.2.2.1 = 8 → isLc (ofV c).1.2.1 = isL (ofV c).1.2.2.2.2.1 := by
  obtain ⟨n, rfl⟩ := Int.eq_ofNat_of_zero_le h0
  exact of_decide_eq_true (List.all_eq_true.1 lc_all n (List.mem_range.2 (by omega)))

theorem chk_in {t : Int} {g : Bool} {a : Int} {l : List Int} (ht : t ≠ -1) (h1 : ¬ a < lo t g) (h2 : ¬ hi t g < a) (h3 : t ≠ 3) : chk t g a l = if l.length = 0 then 0 else 17 := by
  unfold chk; rw [if_neg ht, if_neg (by omega), if_neg h3]
theorem chk_lab {g : Bool} {l : List Int} : chk 3 g 0 l = if l.length < 1 ∨ 16 < l.length then 17 else if okL l then 0 else 17 := by
  unfold chk
  have h1 : lo 3 g = 0 := rfl
  have h2 : hi 3 g = 0 := rfl
  rw [if_neg (by decide), h1, h2, if_neg (by omega), if_pos rfl]
theorem chk_far {t : Int} {g : Bool} {a : Int} {l : List Int} (ht : t ≠ -1) (h : a < lo t g ∨ hi t g < a) : chk t g a l = 17 := by
  unfold chk; rw [if_neg ht, if_pos h]

set_option maxRecDepth 100000 in
set_option maxHeartbeats 4000000 in
theorem rchk_0 (c a : Int) (la : Option Addr) (ln lc : Nat) (l : List Int) (w : World) (hl : SegI w la ln lc l) (rc : Int) (wd pp ps : ByteArray) (pl : Bool)
    (hof : Calls Tryd.prog 34 #[.int .u8 c] (w.alloc (.cells #[.int .u8 c, .int .i64 a, .slice la ln lc] 24)) fun e w' => e = .returned (.tuple #[.agg #[.int .u8 rc, .string wd, .int .i8 0, .string pp, .string ps, .bool pl], .bool true]) ∧ Below (w.alloc (.cells #[.int .u8 c, .int .i64 a, .slice la ln lc] 24)).heap.size (w.alloc (.cells #[.int .u8 c, .int .i64 a, .slice la ln lc] 24)) w') :
    Calls Tryd.prog 13 #[.agg #[.int .u8 c, .int .i64 a, .slice la ln lc]] w fun e w' => e = .returned (.int .i64 (chk 0 (isL ps) a l)) ∧ Below w.heap.size w w' := by
  have HO := hid hof
  have HL := hid hl
  have hln := hl.2.2.1
  have hlen := hl.1
  have hb0 : Below w.heap.size w (w.alloc (.cells #[.int .u8 c, .int .i64 a, .slice la ln lc] 24)) := (Below.refl _ _).alloc (Nat.le_refl _) _
  clear hl hof
  have hlo : lo 0 (isL ps) = 0 := rfl
  have hhi : hi 0 (isL ps) = 0 := rfl
  have HF := hid (fun h => chk_far (a := a) (l := l) (g := (isL ps)) (t := 0) (by decide) h)
  rw [hlo, hhi] at HF
  have HI := hid (fun h1 h2 => chk_in (a := a) (l := l) (g := (isL ps)) (t := 0) (by decide) h1 h2 (by decide))
  rw [hlo, hhi, hlen] at HI
  clear hlo hhi
  by_cases ha1 : a < 0
  · have HV := hid (HF.out (.inl ha1))
    go_enter Tryd.func13, Tryd.ntmps13
    go_wp2_with fail
    refine HO.out.mono ?_
    rintro e w1 ⟨rfl, hb1⟩
    have x1 : w1.cell? ⟨w.heap.size, 1, none⟩ = some (.int .i64 a) := by rw [hb1.cell (by simp)]; simp [go_sem]
    have x2 : w1.cell? ⟨w.heap.size, 2, none⟩ = some (.slice la ln lc) := by rw [hb1.cell (by simp)]; simp [go_sem]
    have hx := block_lt_of_cell x1
    simp only at hx
    have B1 := hid (hb0.trans (hb1.mono (by simp)))
    have B2 := hid (B1.out.alloc (by have := B1.out.size; omega) (.cells #[.int .u8 rc, .string wd, .int .i8 0, .string pp, .string ps, .bool pl] 80))
    clear hb1
    go_wp2_with fail
    go_ret
    exact ⟨by rw [HV.out]; rfl, B2.out⟩
  by_cases ha2 : 0 < a
  · have HV := hid (HF.out (.inr ha2))
    go_enter Tryd.func13, Tryd.ntmps13
    go_wp2_with fail
    refine HO.out.mono ?_
    rintro e w1 ⟨rfl, hb1⟩
    have x1 : w1.cell? ⟨w.heap.size, 1, none⟩ = some (.int .i64 a) := by rw [hb1.cell (by simp)]; simp [go_sem]
    have x2 : w1.cell? ⟨w.heap.size, 2, none⟩ = some (.slice la ln lc) := by rw [hb1.cell (by simp)]; simp [go_sem]
    have hx := block_lt_of_cell x1
    simp only at hx
    have B1 := hid (hb0.trans (hb1.mono (by simp)))
    have B2 := hid (B1.out.alloc (by have := B1.out.size; omega) (.cells #[.int .u8 rc, .string wd, .int .i8 0, .string pp, .string ps, .bool pl] 80))
    clear hb1
    go_wp2_with fail
    go_ret
    exact ⟨by rw [HV.out]; rfl, B2.out⟩
  have HV := hid (HI.out ha1 ha2)
  clear HI HF
  by_cases hz : ln = 0
  · have hz' : ((ln : Int) != 0) = false := by simp [hz]
    have HZ := hid hz
    clear hz
    go_enter Tryd.func13, Tryd.ntmps13
    go_wp2_with fail
    refine HO.out.mono ?_
    rintro e w1 ⟨rfl, hb1⟩
    have x1 : w1.cell? ⟨w.heap.size, 1, none⟩ = some (.int .i64 a) := by rw [hb1.cell (by simp)]; simp [go_sem]
    have x2 : w1.cell? ⟨w.heap.size, 2, none⟩ = some (.slice la ln lc) := by rw [hb1.cell (by simp)]; simp [go_sem]
    have hx := block_lt_of_cell x1
    simp only at hx
    have B1 := hid (hb0.trans (hb1.mono (by simp)))
    have B2 := hid (B1.out.alloc (by have := B1.out.size; omega) (.cells #[.int .u8 rc, .string wd, .int .i8 0, .string pp, .string ps, .bool pl] 80))
    clear hb1
    go_wp2_with fail
    go_ret
    exact ⟨by rw [HV.out, if_pos HZ.out]; rfl, B2.out⟩
  · have hz' : ((ln : Int) != 0) = true := by simp; omega
    go_enter Tryd.func13, Tryd.ntmps13
    go_wp2_with fail
    refine HO.out.mono ?_
    rintro e w1 ⟨rfl, hb1⟩
    have x1 : w1.cell? ⟨w.heap.size, 1, none⟩ = some (.int .i64 a) := by rw [hb1.cell (by simp)]; simp [go_sem]
    have x2 : w1.cell? ⟨w.heap.size, 2, none⟩ = some (.slice la ln lc) := by rw [hb1.cell (by simp)]; simp [go_sem]
    have hx := block_lt_of_cell x1
    simp only at hx
    have B1 := hid (hb0.trans (hb1.mono (by simp)))
    have B2 := hid (B1.out.alloc (by have := B1.out.size; omega) (.cells #[.int .u8 rc, .string wd, .int .i8 0, .string pp, .string ps, .bool pl] 80))
    clear hb1
    go_wp2_with fail
    go_ret
    exact ⟨by rw [HV.out, if_neg hz]; rfl, B2.out⟩

set_option maxRecDepth 100000 in
set_option maxHeartbeats 4000000 in
theorem rchk_9 (c a : Int) (la : Option Addr) (ln lc : Nat) (l : List Int) (w : World) (hl : SegI w la ln lc l) (rc : Int) (wd pp ps : ByteArray) (pl : Bool)
    (hof : Calls Tryd.prog 34 #[.int .u8 c] (w.alloc (.cells #[.int .u8 c, .int .i64 a, .slice la ln lc] 24)) fun e w' => e = .returned (.tuple #[.agg #[.int .u8 rc, .string wd, .int .i8 9, .string pp, .string ps, .bool pl], .bool true]) ∧ Below (w.alloc (.cells #[.int .u8 c, .int .i64 a, .slice la ln lc] 24)).heap.size (w.alloc (.cells #[.int .u8 c, .int .i64 a, .slice la ln lc] 24)) w') :
    Calls Tryd.prog 13 #[.agg #[.int .u8 c, .int .i64 a, .slice la ln lc]] w fun e w' => e = .returned (.int .i64 (chk 9 (isL ps) a l)) ∧ Below w.heap.size w w' := by
  have HO := hid hof
  have HL := hid hl
  have hln := hl.2.2.1
  have hlen := hl.1
  have hb0 : Below w.heap.size w (w.alloc (.cells #[.int .u8 c, .int .i64 a, .slice la ln lc] 24)) := (Below.refl _ _).alloc (Nat.le_refl _) _
  clear hl hof
  have hlo : lo 9 (isL ps) = 0 := rfl
  have hhi : hi 9 (isL ps) = 4294967295 := rfl
  have HF := hid (fun h => chk_far (a := a) (l := l) (g := (isL ps)) (t := 9) (by decide) h)
  rw [hlo, hhi] at HF
  have HI := hid (fun h1 h2 => chk_in (a := a) (l := l) (g := (isL ps)) (t := 9) (by decide) h1 h2 (by decide))
  rw [hlo, hhi, hlen] at HI
  clear hlo hhi
  by_cases ha1 : a < 0
  · have HV := hid (HF.out (.inl ha1))
    go_enter Tryd.func13, Tryd.ntmps13
    go_wp2_with fail
    refine HO.out.mono ?_
    rintro e w1 ⟨rfl, hb1⟩
    have x1 : w1.cell? ⟨w.heap.size, 1, none⟩ = some (.int .i64 a) := by rw [hb1.cell (by simp)]; simp [go_sem]
    have x2 : w1.cell? ⟨w.heap.size, 2, none⟩ = some (.slice la ln lc) := by rw [hb1.cell (by simp)]; simp [go_sem]
    have hx := block_lt_of_cell x1
    simp only at hx
    have B1 := hid (hb0.trans (hb1.mono (by simp)))
    have B2 := hid (B1.out.alloc (by have := B1.out.size; omega) (.cells #[.int .u8 rc, .string wd, .int .i8 9, .string pp, .string ps, .bool pl] 80))
    clear hb1
    go_wp2_with fail
    go_ret
    exact ⟨by rw [HV.out]; rfl, B2.out⟩
  by_cases ha2 : 4294967295 < a
  · have HV := hid (HF.out (.inr ha2))
    go_enter Tryd.func13, Tryd.ntmps13
    go_wp2_with fail
    refine HO.out.mono ?_
    rintro e w1 ⟨rfl, hb1⟩
    have x1 : w1.cell? ⟨w.heap.size, 1, none⟩ = some (.int .i64 a) := by rw [hb1.cell (by simp)]; simp [go_sem]
    have x2 : w1.cell? ⟨w.heap.size, 2, none⟩ = some (.slice la ln lc) := by rw [hb1.cell (by simp)]; simp [go_sem]
    have hx := block_lt_of_cell x1
    simp only at hx
    have B1 := hid (hb0.trans (hb1.mono (by simp)))
    have B2 := hid (B1.out.alloc (by have := B1.out.size; omega) (.cells #[.int .u8 rc, .string wd, .int .i8 9, .string pp, .string ps, .bool pl] 80))
    clear hb1
    go_wp2_with fail
    go_ret
    exact ⟨by rw [HV.out]; rfl, B2.out⟩
  have HV := hid (HI.out ha1 ha2)
  clear HI HF
  by_cases hz : ln = 0
  · have hz' : ((ln : Int) != 0) = false := by simp [hz]
    have HZ := hid hz
    clear hz
    go_enter Tryd.func13, Tryd.ntmps13
    go_wp2_with fail
    refine HO.out.mono ?_
    rintro e w1 ⟨rfl, hb1⟩
    have x1 : w1.cell? ⟨w.heap.size, 1, none⟩ = some (.int .i64 a) := by rw [hb1.cell (by simp)]; simp [go_sem]
    have x2 : w1.cell? ⟨w.heap.size, 2, none⟩ = some (.slice la ln lc) := by rw [hb1.cell (by simp)]; simp [go_sem]
    have hx := block_lt_of_cell x1
    simp only at hx
    have B1 := hid (hb0.trans (hb1.mono (by simp)))
    have B2 := hid (B1.out.alloc (by have := B1.out.size; omega) (.cells #[.int .u8 rc, .string wd, .int .i8 9, .string pp, .string ps, .bool pl] 80))
    clear hb1
    go_wp2_with fail
    go_ret
    exact ⟨by rw [HV.out, if_pos HZ.out]; rfl, B2.out⟩
  · have hz' : ((ln : Int) != 0) = true := by simp; omega
    go_enter Tryd.func13, Tryd.ntmps13
    go_wp2_with fail
    refine HO.out.mono ?_
    rintro e w1 ⟨rfl, hb1⟩
    have x1 : w1.cell? ⟨w.heap.size, 1, none⟩ = some (.int .i64 a) := by rw [hb1.cell (by simp)]; simp [go_sem]
    have x2 : w1.cell? ⟨w.heap.size, 2, none⟩ = some (.slice la ln lc) := by rw [hb1.cell (by simp)]; simp [go_sem]
    have hx := block_lt_of_cell x1
    simp only at hx
    have B1 := hid (hb0.trans (hb1.mono (by simp)))
    have B2 := hid (B1.out.alloc (by have := B1.out.size; omega) (.cells #[.int .u8 rc, .string wd, .int .i8 9, .string pp, .string ps, .bool pl] 80))
    clear hb1
    go_wp2_with fail
    go_ret
    exact ⟨by rw [HV.out, if_neg hz]; rfl, B2.out⟩

set_option maxRecDepth 100000 in
set_option maxHeartbeats 4000000 in
theorem rchk_8w (c a : Int) (la : Option Addr) (ln lc : Nat) (l : List Int) (w : World) (hl : SegI w la ln lc l) (rc : Int) (wd pp ps : ByteArray) (pl : Bool)
    (hof : Calls Tryd.prog 34 #[.int .u8 c] (w.alloc (.cells #[.int .u8 c, .int .i64 a, .slice la ln lc] 24)) fun e w' => e = .returned (.tuple #[.agg #[.int .u8 rc, .string wd, .int .i8 8, .string pp, .string ps, .bool pl], .bool true]) ∧ Below (w.alloc (.cells #[.int .u8 c, .int .i64 a, .slice la ln lc] 24)).heap.size (w.alloc (.cells #[.int .u8 c, .int .i64 a, .slice la ln lc] 24)) w') (hg : isLc wd = false) :
    Calls Tryd.prog 13 #[.agg #[.int .u8 c, .int .i64 a, .slice la ln lc]] w fun e w' => e = .returned (.int .i64 (chk 8 false a l)) ∧ Below w.heap.size w w' := by
  have HO := hid hof
  have HL := hid hl
  have hln := hl.2.2.1
  have hlen := hl.1
  have hb0 : Below w.heap.size w (w.alloc (.cells #[.int .u8 c, .int .i64 a, .slice la ln lc] 24)) := (Below.refl _ _).alloc (Nat.le_refl _) _
  clear hl hof
  have hlc := isLc_toList wd
  rw [hg] at hlc
  have hlo : lo 8 false = -2147483648 := rfl
  have hhi : hi 8 false = 2147483647 := rfl
  have HF := hid (fun h => chk_far (a := a) (l := l) (g := false) (t := 8) (by decide) h)
  rw [hlo, hhi] at HF
  have HI := hid (fun h1 h2 => chk_in (a := a) (l := l) (g := false) (t := 8) (by decide) h1 h2 (by decide))
  rw [hlo, hhi, hlen] at HI
  clear hlo hhi
  by_cases ha1 : a < -2147483648
  · have HV := hid (HF.out (.inl ha1))
    go_enter Tryd.func13, Tryd.ntmps13
    go_wp2_with fail
    refine HO.out.mono ?_
    rintro e w1 ⟨rfl, hb1⟩
    have x1 : w1.cell? ⟨w.heap.size, 1, none⟩ = some (.int .i64 a) := by rw [hb1.cell (by simp)]; simp [go_sem]
    have x2 : w1.cell? ⟨w.heap.size, 2, none⟩ = some (.slice la ln lc) := by rw [hb1.cell (by simp)]; simp [go_sem]
    have hx := block_lt_of_cell x1
    simp only at hx
    have B1 := hid (hb0.trans (hb1.mono (by simp)))
    have B2 := hid (B1.out.alloc (by have := B1.out.size; omega) (.cells #[.int .u8 rc, .string wd, .int .i8 8, .string pp, .string ps, .bool pl] 80))
    clear hb1
    go_wp2_with fail
    go_ret
    exact ⟨by rw [HV.out]; rfl, B2.out⟩
  by_cases ha2 : 2147483647 < a
  · have HV := hid (HF.out (.inr ha2))
    go_enter Tryd.func13, Tryd.ntmps13
    go_wp2_with fail
    refine HO.out.mono ?_
    rintro e w1 ⟨rfl, hb1⟩
    have x1 : w1.cell? ⟨w.heap.size, 1, none⟩ = some (.int .i64 a) := by rw [hb1.cell (by simp)]; simp [go_sem]
    have x2 : w1.cell? ⟨w.heap.size, 2, none⟩ = some (.slice la ln lc) := by rw [hb1.cell (by simp)]; simp [go_sem]
    have hx := block_lt_of_cell x1
    simp only at hx
    have B1 := hid (hb0.trans (hb1.mono (by simp)))
    have B2 := hid (B1.out.alloc (by have := B1.out.size; omega) (.cells #[.int .u8 rc, .string wd, .int .i8 8, .string pp, .string ps, .bool pl] 80))
    clear hb1
    go_wp2_with fail
    go_ret
    exact ⟨by rw [HV.out]; rfl, B2.out⟩
  have HV := hid (HI.out ha1 ha2)
  clear HI HF
  by_cases hz : ln = 0
  · have hz' : ((ln : Int) != 0) = false := by simp [hz]
    have HZ := hid hz
    clear hz
    go_enter Tryd.func13, Tryd.ntmps13
    go_wp2_with fail
    refine HO.out.mono ?_
    rintro e w1 ⟨rfl, hb1⟩
    have x1 : w1.cell? ⟨w.heap.size, 1, none⟩ = some (.int .i64 a) := by rw [hb1.cell (by simp)]; simp [go_sem]
    have x2 : w1.cell? ⟨w.heap.size, 2, none⟩ = some (.slice la ln lc) := by rw [hb1.cell (by simp)]; simp [go_sem]
    have hx := block_lt_of_cell x1
    simp only at hx
    have B1 := hid (hb0.trans (hb1.mono (by simp)))
    have B2 := hid (B1.out.alloc (by have := B1.out.size; omega) (.cells #[.int .u8 rc, .string wd, .int .i8 8, .string pp, .string ps, .bool pl] 80))
    clear hb1
    go_wp2_with fail
    go_ret
    exact ⟨by rw [HV.out, if_pos HZ.out]; rfl, B2.out⟩
  · have hz' : ((ln : Int) != 0) = true := by simp; omega
    go_enter Tryd.func13, Tryd.ntmps13
    go_wp2_with fail
    refine HO.out.mono ?_
    rintro e w1 ⟨rfl, hb1⟩
    have x1 : w1.cell? ⟨w.heap.size, 1, none⟩ = some (.int .i64 a) := by rw [hb1.cell (by simp)]; simp [go_sem]
    have x2 : w1.cell? ⟨w.heap.size, 2, none⟩ = some (.slice la ln lc) := by rw [hb1.cell (by simp)]; simp [go_sem]
    have hx := block_lt_of_cell x1
    simp only at hx
    have B1 := hid (hb0.trans (hb1.mono (by simp)))
    have B2 := hid (B1.out.alloc (by have := B1.out.size; omega) (.cells #[.int .u8 rc, .string wd, .int .i8 8, .string pp, .string ps, .bool pl] 80))
    clear hb1
    go_wp2_with fail
    go_ret
    exact ⟨by rw [HV.out, if_neg hz]; rfl, B2.out⟩

set_option maxRecDepth 100000 in
set_option maxHeartbeats 4000000 in
theorem rchk_8l (c a : Int) (la : Option Addr) (ln lc : Nat) (l : List Int) (w : World) (hl : SegI w la ln lc l) (rc : Int) (wd pp ps : ByteArray) (pl : Bool)
    (hof : Calls Tryd.prog 34 #[.int .u8 c] (w.alloc (.cells #[.int .u8 c, .int .i64 a, .slice la ln lc] 24)) fun e w' => e = .returned (.tuple #[.agg #[.int .u8 rc, .string wd, .int .i8 8, .string pp, .string ps, .bool pl], .bool true]) ∧ Below (w.alloc (.cells #[.int .u8 c, .int .i64 a, .slice la ln lc] 24)).heap.size (w.alloc (.cells #[.int .u8 c, .int .i64 a, .slice la ln lc] 24)) w') (hg : isLc wd = true) :
    Calls Tryd.prog 13 #[.agg #[.int .u8 c, .int .i64 a, .slice la ln lc]] w fun e w' => e = .returned (.int .i64 (chk 8 true a l)) ∧ Below w.heap.size w w' := by
  have HO := hid hof
  have HL := hid hl
  have hln := hl.2.2.1
  have hlen := hl.1
  have hb0 : Below w.heap.size w (w.alloc (.cells #[.int .u8 c, .int .i64 a, .slice la ln lc] 24)) := (Below.refl _ _).alloc (Nat.le_refl _) _
  clear hl hof
  have hlc := isLc_toList wd
  rw [hg] at hlc
  have hlo : lo 8 true = -9223372036854775808 := rfl
  have hhi : hi 8 true = 9223372036854775807 := rfl
  have HF := hid (fun h => chk_far (a := a) (l := l) (g := true) (t := 8) (by decide) h)
  rw [hlo, hhi] at HF
  have HI := hid (fun h1 h2 => chk_in (a := a) (l := l) (g := true) (t := 8) (by decide) h1 h2 (by decide))
  rw [hlo, hhi, hlen] at HI
  clear hlo hhi
  by_cases ha1 : a < -9223372036854775808
  · have HV := hid (HF.out (.inl ha1))
    go_enter Tryd.func13, Tryd.ntmps13
    go_wp2_with fail
    refine HO.out.mono ?_
    rintro e w1 ⟨rfl, hb1⟩
    have x1 : w1.cell? ⟨w.heap.size, 1, none⟩ = some (.int .i64 a) := by rw [hb1.cell (by simp)]; simp [go_sem]
    have x2 : w1.cell? ⟨w.heap.size, 2, none⟩ = some (.slice la ln lc) := by rw [hb1.cell (by simp)]; simp [go_sem]
    have hx := block_lt_of_cell x1
    simp only at hx
    have B1 := hid (hb0.trans (hb1.mono (by simp)))
    have B2 := hid (B1.out.alloc (by have := B1.out.size; omega) (.cells #[.int .u8 rc, .string wd, .int .i8 8, .string pp, .string ps, .bool pl] 80))
    clear hb1
    go_wp2_with fail
    go_ret
    exact ⟨by rw [HV.out]; rfl, B2.out⟩
  by_cases ha2 : 9223372036854775807 < a
  · have HV := hid (HF.out (.inr ha2))
    go_enter Tryd.func13, Tryd.ntmps13
    go_wp2_with fail
    refine HO.out.mono ?_
    rintro e w1 ⟨rfl, hb1⟩
    have x1 : w1.cell? ⟨w.heap.size, 1, none⟩ = some (.int .i64 a) := by rw [hb1.cell (by simp)]; simp [go_sem]
    have x2 : w1.cell? ⟨w.heap.size, 2, none⟩ = some (.slice la ln lc) := by rw [hb1.cell (by simp)]; simp [go_sem]
    have hx := block_lt_of_cell x1
    simp only at hx
    have B1 := hid (hb0.trans (hb1.mono (by simp)))
    have B2 := hid (B1.out.alloc (by have := B1.out.size; omega) (.cells #[.int .u8 rc, .string wd, .int .i8 8, .string pp, .string ps, .bool pl] 80))
    clear hb1
    go_wp2_with fail
    go_ret
    exact ⟨by rw [HV.out]; rfl, B2.out⟩
  have HV := hid (HI.out ha1 ha2)
  clear HI HF
  by_cases hz : ln = 0
  · have hz' : ((ln : Int) != 0) = false := by simp [hz]
    have HZ := hid hz
    clear hz
    go_enter Tryd.func13, Tryd.ntmps13
    go_wp2_with fail
    refine HO.out.mono ?_
    rintro e w1 ⟨rfl, hb1⟩
    have x1 : w1.cell? ⟨w.heap.size, 1, none⟩ = some (.int .i64 a) := by rw [hb1.cell (by simp)]; simp [go_sem]
    have x2 : w1.cell? ⟨w.heap.size, 2, none⟩ = some (.slice la ln lc) := by rw [hb1.cell (by simp)]; simp [go_sem]
    have hx := block_lt_of_cell x1
    simp only at hx
    have B1 := hid (hb0.trans (hb1.mono (by simp)))
    have B2 := hid (B1.out.alloc (by have := B1.out.size; omega) (.cells #[.int .u8 rc, .string wd, .int .i8 8, .string pp, .string ps, .bool pl] 80))
    clear hb1
    go_wp2_with fail
    go_ret
    exact ⟨by rw [HV.out, if_pos HZ.out]; rfl, B2.out⟩
  · have hz' : ((ln : Int) != 0) = true := by simp; omega
    go_enter Tryd.func13, Tryd.ntmps13
    go_wp2_with fail
    refine HO.out.mono ?_
    rintro e w1 ⟨rfl, hb1⟩
    have x1 : w1.cell? ⟨w.heap.size, 1, none⟩ = some (.int .i64 a) := by rw [hb1.cell (by simp)]; simp [go_sem]
    have x2 : w1.cell? ⟨w.heap.size, 2, none⟩ = some (.slice la ln lc) := by rw [hb1.cell (by simp)]; simp [go_sem]
    have hx := block_lt_of_cell x1
    simp only at hx
    have B1 := hid (hb0.trans (hb1.mono (by simp)))
    have B2 := hid (B1.out.alloc (by have := B1.out.size; omega) (.cells #[.int .u8 rc, .string wd, .int .i8 8, .string pp, .string ps, .bool pl] 80))
    clear hb1
    go_wp2_with fail
    go_ret
    exact ⟨by rw [HV.out, if_neg hz]; rfl, B2.out⟩

set_option maxRecDepth 100000 in
set_option maxHeartbeats 4000000 in
theorem rchk_x (c a : Int) (la : Option Addr) (ln lc : Nat) (l : List Int) (w : World) (hl : SegI w la ln lc l) (rc t : Int) (wd pp ps : ByteArray) (pl : Bool)
    (hof : Calls Tryd.prog 34 #[.int .u8 c] (w.alloc (.cells #[.int .u8 c, .int .i64 a, .slice la ln lc] 24)) fun e w' => e = .returned (.tuple #[.agg #[.int .u8 rc, .string wd, .int .i8 t, .string pp, .string ps, .bool pl], .bool true]) ∧ Below (w.alloc (.cells #[.int .u8 c, .int .i64 a, .slice la ln lc] 24)).heap.size (w.alloc (.cells #[.int .u8 c, .int .i64 a, .slice la ln lc] 24)) w') (ht : t ≠ -1) (t0 : t ≠ 0) (t3 : t ≠ 3) (t8 : t ≠ 8) (t9 : t ≠ 9) :
    Calls Tryd.prog 13 #[.agg #[.int .u8 c, .int .i64 a, .slice la ln lc]] w fun e w' => e = .returned (.int .i64 (chk t (isL ps) a l)) ∧ Below w.heap.size w w' := by
  have HO := hid hof
  have HL := hid hl
  have hln := hl.2.2.1
  have hlen := hl.1
  have hb0 : Below w.heap.size w (w.alloc (.cells #[.int .u8 c, .int .i64 a, .slice la ln lc] 24)) := (Below.refl _ _).alloc (Nat.le_refl _) _
  clear hl hof
  have e0 : (t == 0) = false := by simp [t0]
  have e3 : (t == 3) = false := by simp [t3]
  have e8 : (t == 8) = false := by simp [t8]
  have e9 : (t == 9) = false := by simp [t9]
  have hlo : lo t (isL ps) = 0 := by unfold lo; rw [if_neg t8]
  have hhi : hi t (isL ps) = 2147483647 := by unfold hi; rw [if_neg (by omega), if_neg t9, if_neg t8]
  have HF := hid (fun h => chk_far (a := a) (l := l) (g := (isL ps)) ht h)
  rw [hlo, hhi] at HF
  have HI := hid (fun h1 h2 => chk_in (a := a) (l := l) (g := (isL ps)) ht h1 h2 t3)
  rw [hlo, hhi, hlen] at HI
  clear hlo hhi
  by_cases ha1 : a < 0
  · have HV := hid (HF.out (.inl ha1))
    go_enter Tryd.func13, Tryd.ntmps13
    go_wp2_with fail
    refine HO.out.mono ?_
    rintro e w1 ⟨rfl, hb1⟩
    have x1 : w1.cell? ⟨w.heap.size, 1, none⟩ = some (.int .i64 a) := by rw [hb1.cell (by simp)]; simp [go_sem]
    have x2 : w1.cell? ⟨w.heap.size, 2, none⟩ = some (.slice la ln lc) := by rw [hb1.cell (by simp)]; simp [go_sem]
    have hx := block_lt_of_cell x1
    simp only at hx
    have B1 := hid (hb0.trans (hb1.mono (by simp)))
    have B2 := hid (B1.out.alloc (by have := B1.out.size; omega) (.cells #[.int .u8 rc, .string wd, .int .i8 t, .string pp, .string ps, .bool pl] 80))
    clear hb1
    go_wp2_with fail
    go_ret
    exact ⟨by rw [HV.out]; rfl, B2.out⟩
  by_cases ha2 : 2147483647 < a
  · have HV := hid (HF.out (.inr ha2))
    go_enter Tryd.func13, Tryd.ntmps13
    go_wp2_with fail
    refine HO.out.mono ?_
    rintro e w1 ⟨rfl, hb1⟩
    have x1 : w1.cell? ⟨w.heap.size, 1, none⟩ = some (.int .i64 a) := by rw [hb1.cell (by simp)]; simp [go_sem]
    have x2 : w1.cell? ⟨w.heap.size, 2, none⟩ = some (.slice la ln lc) := by rw [hb1.cell (by simp)]; simp [go_sem]
    have hx := block_lt_of_cell x1
    simp only at hx
    have B1 := hid (hb0.trans (hb1.mono (by simp)))
    have B2 := hid (B1.out.alloc (by have := B1.out.size; omega) (.cells #[.int .u8 rc, .string wd, .int .i8 t, .string pp, .string ps, .bool pl] 80))
    clear hb1
    go_wp2_with fail
    go_ret
    exact ⟨by rw [HV.out]; rfl, B2.out⟩
  have HV := hid (HI.out ha1 ha2)
  clear HI HF
  by_cases hz : ln = 0
  · have hz' : ((ln : Int) != 0) = false := by simp [hz]
    have HZ := hid hz
    clear hz
    go_enter Tryd.func13, Tryd.ntmps13
    go_wp2_with fail
    refine HO.out.mono ?_
    rintro e w1 ⟨rfl, hb1⟩
    have x1 : w1.cell? ⟨w.heap.size, 1, none⟩ = some (.int .i64 a) := by rw [hb1.cell (by simp)]; simp [go_sem]
    have x2 : w1.cell? ⟨w.heap.size, 2, none⟩ = some (.slice la ln lc) := by rw [hb1.cell (by simp)]; simp [go_sem]
    have hx := block_lt_of_cell x1
    simp only at hx
    have B1 := hid (hb0.trans (hb1.mono (by simp)))
    have B2 := hid (B1.out.alloc (by have := B1.out.size; omega) (.cells #[.int .u8 rc, .string wd, .int .i8 t, .string pp, .string ps, .bool pl] 80))
    clear hb1
    go_wp2_with fail
    go_ret
    exact ⟨by rw [HV.out, if_pos HZ.out]; rfl, B2.out⟩
  · have hz' : ((ln : Int) != 0) = true := by simp; omega
    go_enter Tryd.func13, Tryd.ntmps13
    go_wp2_with fail
    refine HO.out.mono ?_
    rintro e w1 ⟨rfl, hb1⟩
    have x1 : w1.cell? ⟨w.heap.size, 1, none⟩ = some (.int .i64 a) := by rw [hb1.cell (by simp)]; simp [go_sem]
    have x2 : w1.cell? ⟨w.heap.size, 2, none⟩ = some (.slice la ln lc) := by rw [hb1.cell (by simp)]; simp [go_sem]
    have hx := block_lt_of_cell x1
    simp only at hx
    have B1 := hid (hb0.trans (hb1.mono (by simp)))
    have B2 := hid (B1.out.alloc (by have := B1.out.size; omega) (.cells #[.int .u8 rc, .string wd, .int .i8 t, .string pp, .string ps, .bool pl] 80))
    clear hb1
    go_wp2_with fail
    go_ret
    exact ⟨by rw [HV.out, if_neg hz]; rfl, B2.out⟩

set_option maxRecDepth 100000 in
set_option maxHeartbeats 4000000 in
theorem rchk_3 (c a : Int) (la : Option Addr) (ln lc : Nat) (l : List Int) (w : World) (hl : SegI w la ln lc l) (rc : Int) (wd pp ps : ByteArray) (pl : Bool)
    (hof : Calls Tryd.prog 34 #[.int .u8 c] (w.alloc (.cells #[.int .u8 c, .int .i64 a, .slice la ln lc] 24)) fun e w' => e = .returned (.tuple #[.agg #[.int .u8 rc, .string wd, .int .i8 3, .string pp, .string ps, .bool pl], .bool true]) ∧ Below (w.alloc (.cells #[.int .u8 c, .int .i64 a, .slice la ln lc] 24)).heap.size (w.alloc (.cells #[.int .u8 c, .int .i64 a, .slice la ln lc] 24)) w') :
    Calls Tryd.prog 13 #[.agg #[.int .u8 c, .int .i64 a, .slice la ln lc]] w fun e w' => e = .returned (.int .i64 (chk 3 (isL ps) a l)) ∧ Below w.heap.size w w' := by
  have HO := hid hof
  have HL := hid hl
  have hln := hl.2.2.1
  have hlen := hl.1
  have hb0 : Below w.heap.size w (w.alloc (.cells #[.int .u8 c, .int .i64 a, .slice la ln lc] 24)) := (Below.refl _ _).alloc (Nat.le_refl _) _
  clear hl hof
  have hlo : lo 3 (isL ps) = 0 := rfl
  have hhi : hi 3 (isL ps) = 0 := rfl
  have HF := hid (fun h => chk_far (a := a) (l := l) (g := (isL ps)) (t := 3) (by decide) h)
  rw [hlo, hhi] at HF
  clear hlo hhi
  by_cases ha1 : a < 0
  · have HV := hid (HF.out (.inl ha1))
    go_enter Tryd.func13, Tryd.ntmps13
    go_wp2_with fail
    refine HO.out.mono ?_
    rintro e w1 ⟨rfl, hb1⟩
    have x1 : w1.cell? ⟨w.heap.size, 1, none⟩ = some (.int .i64 a) := by rw [hb1.cell (by simp)]; simp [go_sem]
    have x2 : w1.cell? ⟨w.heap.size, 2, none⟩ = some (.slice la ln lc) := by rw [hb1.cell (by simp)]; simp [go_sem]
    have hx := block_lt_of_cell x1
    simp only at hx
    have B1 := hid (hb0.trans (hb1.mono (by simp)))
    have B2 := hid (B1.out.alloc (by have := B1.out.size; omega) (.cells #[.int .u8 rc, .string wd, .int .i8 3, .string pp, .string ps, .bool pl] 80))
    clear hb1
    go_wp2_with fail
    go_ret
    exact ⟨by rw [HV.out]; rfl, B2.out⟩
  by_cases ha2 : 0 < a
  · have HV := hid (HF.out (.inr ha2))
    go_enter Tryd.func13, Tryd.ntmps13
    go_wp2_with fail
    refine HO.out.mono ?_
    rintro e w1 ⟨rfl, hb1⟩
    have x1 : w1.cell? ⟨w.heap.size, 1, none⟩ = some (.int .i64 a) := by rw [hb1.cell (by simp)]; simp [go_sem]
    have x2 : w1.cell? ⟨w.heap.size, 2, none⟩ = some (.slice la ln lc) := by rw [hb1.cell (by simp)]; simp [go_sem]
    have hx := block_lt_of_cell x1
    simp only at hx
    have B1 := hid (hb0.trans (hb1.mono (by simp)))
    have B2 := hid (B1.out.alloc (by have := B1.out.size; omega) (.cells #[.int .u8 rc, .string wd, .int .i8 3, .string pp, .string ps, .bool pl] 80))
    clear hb1
    go_wp2_with fail
    go_ret
    exact ⟨by rw [HV.out]; rfl, B2.out⟩
  obtain rfl : a = 0 := by omega
  have HV := hid (chk_lab (g := isL ps) (l := l))
  rw [hlen] at HV
  clear HF
  by_cases hl1 : (ln : Int) < 1
  · have HV2 := hid (HV.out.trans (if_pos (.inl (by omega))))
    go_enter Tryd.func13, Tryd.ntmps13
    go_wp2_with fail
    refine HO.out.mono ?_
    rintro e w1 ⟨rfl, hb1⟩
    have x1 : w1.cell? ⟨w.heap.size, 1, none⟩ = some (.int .i64 0) := by rw [hb1.cell (by simp)]; simp [go_sem]
    have x2 : w1.cell? ⟨w.heap.size, 2, none⟩ = some (.slice la ln lc) := by rw [hb1.cell (by simp)]; simp [go_sem]
    have hx := block_lt_of_cell x1
    simp only at hx
    have B1 := hid (hb0.trans (hb1.mono (by simp)))
    have B2 := hid (B1.out.alloc (by have := B1.out.size; omega) (.cells #[.int .u8 rc, .string wd, .int .i8 3, .string pp, .string ps, .bool pl] 80))
    clear hb1
    go_wp2_with fail
    go_ret
    exact ⟨by rw [HV2.out]; rfl, B2.out⟩
  by_cases hl2 : (16 : Int) < (ln : Int)
  · have HV2 := hid (HV.out.trans (if_pos (.inr (by omega))))
    go_enter Tryd.func13, Tryd.ntmps13
    go_wp2_with fail
    refine HO.out.mono ?_
    rintro e w1 ⟨rfl, hb1⟩
    have x1 : w1.cell? ⟨w.heap.size, 1, none⟩ = some (.int .i64 0) := by rw [hb1.cell (by simp)]; simp [go_sem]
    have x2 : w1.cell? ⟨w.heap.size, 2, none⟩ = some (.slice la ln lc) := by rw [hb1.cell (by simp)]; simp [go_sem]
    have hx := block_lt_of_cell x1
    simp only at hx
    have B1 := hid (hb0.trans (hb1.mono (by simp)))
    have B2 := hid (B1.out.alloc (by have := B1.out.size; omega) (.cells #[.int .u8 rc, .string wd, .int .i8 3, .string pp, .string ps, .bool pl] 80))
    clear hb1
    go_wp2_with fail
    go_ret
    exact ⟨by rw [HV2.out]; rfl, B2.out⟩
  have HV2 := hid (HV.out.trans (if_neg (by omega)))
  clear HV
  go_enter Tryd.func13, Tryd.ntmps13
  go_wp2_with fail
  refine HO.out.mono ?_
  rintro e w1 ⟨rfl, hb1⟩
  have x1 : w1.cell? ⟨w.heap.size, 1, none⟩ = some (.int .i64 0) := by rw [hb1.cell (by simp)]; simp [go_sem]
  have x2 : w1.cell? ⟨w.heap.size, 2, none⟩ = some (.slice la ln lc) := by rw [hb1.cell (by simp)]; simp [go_sem]
  have hx := block_lt_of_cell x1
  simp only at hx
  have B1 := hid (hb0.trans (hb1.mono (by simp)))
  have B2 := hid (B1.out.alloc (by have := B1.out.size; omega) (.cells #[.int .u8 rc, .string wd, .int .i8 3, .string pp, .string ps, .bool pl] 80))
  clear hb1
  go_wp2_with fail
  have y2 : (w1.alloc (.cells #[.int .u8 rc, .string wd, .int .i8 3, .string pp, .string ps, .bool pl] 80)).cell? ⟨w.heap.size, 2, none⟩ = some (.slice la ln lc) := by rw [World.cell?_alloc_past _ _ _ hx]; exact x2
  obtain ⟨W, hW⟩ : ∃ W, w1.alloc (.cells #[.int .u8 rc, .string wd, .int .i8 3, .string pp, .string ps, .bool pl] 80) = W := ⟨_, rfl⟩
  rw [hW] at B2 y2 ⊢
  clear hW x1 x2 B1
  go_loop [7] (fun i => ∃ k : Nat, k ≤ ln ∧ i = .int .i64 k ∧ (okL l ↔ okL (l.drop k))) (fun i => ln - (intOf i).toNat)
  case atStart => exact ⟨0, Nat.zero_le _, rfl, by simp⟩
  case round =>
    obtain ⟨k, hk, rfl, hok⟩ := hrel
    have HK := hid hok
    clear hok
    by_cases hlt : k < ln
    · rcases HL.out.2.2.2.2 with hz | ⟨b, off, rfl, hc⟩
      · omega
      have hcell : W.cell? ⟨b, off + k, none⟩ = some (.int .i64 (l.getD k 0)) := (B2.out.cell (p := ⟨b, off + k, none⟩) (block_lt_of_cell (hc k hlt))).trans (hc k hlt)
      have hd := okL_drop l k (by omega)
      generalize l.getD k 0 = z at *
      have HD := hid hd
      clear hd hc
      by_cases hz1 : z < 0
      · go_wp2_with fail
        go_ret
        exact ⟨by rw [HV2.out, if_neg (by rw [HK.out, HD.out]; omega)]; rfl, B2.out⟩
      by_cases hz2 : 2147483647 < z
      · go_wp2_with fail
        go_ret
        exact ⟨by rw [HV2.out, if_neg (by rw [HK.out, HD.out]; omega)]; rfl, B2.out⟩
      go_wp2_with fail
      exact ⟨⟨k + 1, by omega, by go_num, by rw [HK.out, HD.out]; exact ⟨fun h => h.2, fun h => ⟨by omega, h⟩⟩⟩, by simp [intOf]; omega⟩
    · go_wp2_with fail
      go_ret
      exact ⟨by rw [HV2.out, if_pos (by rw [HK.out, List.drop_eq_nil_of_le (by omega)]; trivial)]; rfl, B2.out⟩

set_option maxHeartbeats 1000000 in
/-- The document's Check. -/
theorem rcheck13 (c a : Int) (la : Option Addr) (ln lc : Nat) (l : List Int) (w : World) (h0 : 0 ≤ c) (h1 : c ≤ 255) (hl : SegI w la ln lc l) :
    Calls Tryd.prog 13 #[insV c a (.slice la ln lc)] w fun e w' => e = .returned (.int .i64 (chk (tkV c) (lgV c) a l)) ∧ Below w.heap.size w w' := by
  have hof := refOf34 c (w.alloc (.cells #[.int .u8 c, .int .i64 a, .slice la ln lc] 24)) h0 h1
  have hne := tk_ne c h0 h1
  have hlc := lc_of c h0 h1
  unfold tkV lgV insV
  generalize ofV c = V at *
  obtain ⟨⟨rc, wd, t, pp, ps, pl⟩, fnd⟩ := V
  simp only [rv, rowV] at hof hne hlc ⊢
  cases fnd
  · have HO := hid hof
    have hb0 : Below w.heap.size w (w.alloc (.cells #[.int .u8 c, .int .i64 a, .slice la ln lc] 24)) := (Below.refl _ _).alloc (Nat.le_refl _) _
    clear hof hl
    go_enter Tryd.func13, Tryd.ntmps13
    go_wp2_with fail
    refine HO.out.mono ?_
    rintro e w1 ⟨rfl, hb1⟩
    go_wp2
    go_ret
    refine ⟨?_, (hb0.trans (hb1.mono (by simp))).alloc (by have := hb1.size; simp at this; omega) _⟩
    rw [chk_none]; rfl
  simp only [if_true]
  by_cases t0 : t = 0
  · subst t0; exact rchk_0 c a la ln lc l w hl rc wd pp ps pl hof
  by_cases t3 : t = 3
  · subst t3; exact rchk_3 c a la ln lc l w hl rc wd pp ps pl hof
  by_cases t9 : t = 9
  · subst t9; exact rchk_9 c a la ln lc l w hl rc wd pp ps pl hof
  by_cases t8 : t = 8
  · subst t8
    have hg := hlc rfl
    cases hb : isL ps
    · exact rchk_8w c a la ln lc l w hl rc wd pp ps pl hof (hg.trans hb)
    · exact rchk_8l c a la ln lc l w hl rc wd pp ps pl hof (hg.trans hb)
  · exact rchk_x c a la ln lc l w hl rc t wd pp ps pl hof hne t0 t3 t8 t9
end Go.Proofs.YtgljlclnmnfocaaDoor
