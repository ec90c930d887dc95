/-
  Codes and lists of numbers in memory.
-/
import Derived.Test.YtedkmfklobipaaaDoorOwn
import Derived.Test.YtedkmfklobipaaaDoorHid
import Derived.Test.YtedkmfklobipaaaDoorProg
import Derived.KernelRfl
import Derived.RowKit
import Derived.Deep.RegionHeld3
namespace Go.Proofs.YtedkmfklobipaaaDoor
open Go.RowKit
set_option linter.unusedVariables false

theorem Tryd.infInts : (Tryd.prog.info? 3).map (fun i => (i.zero, i.size, i.bytes)) = some (some (.int .i64 0), 1, 8) := by kernel_rfl

/-- A list of numbers as values. -/
def fl (n : Nat) (f : Nat → Int) : List Value := (List.range n).map fun i => Value.int .i64 (f i)

theorem fl_len (n : Nat) (f : Nat → Int) : (fl n f).length = n := by simp [fl]
theorem fl_get (n : Nat) (f : Nat → Int) (i : Nat) (h : i < n) : (fl n f)[i]? = some (.int .i64 (f i)) := by simp [fl, h]
theorem fl_congr {n : Nat} {f g : Nat → Int} (h : ∀ i, i < n → f i = g i) : fl n f = fl n g := by
  unfold fl; apply List.map_congr_left; intro i hi; rw [h i (by simpa using hi)]
theorem fl_set {n : Nat} {f : Nat → Int} {t : Nat} {v : Int} {g : Nat → Int} (h : ∀ i, i < n → g i = if i = t then v else f i) : (fl n f).set t (.int .i64 v) = fl n g := by
  apply List.ext_getElem?
  intro j
  by_cases hj : j < n
  · rw [fl_get n g j hj, h j hj]
    by_cases e : j = t
    · subst e
      rw [if_pos rfl, List.getElem?_set_self (by rw [fl_len]; exact hj)]
    · rw [if_neg e, List.getElem?_set_ne (fun x => e x.symm), fl_get n f j hj]
  · rw [List.getElem?_eq_none (by rw [List.length_set, fl_len]; omega), List.getElem?_eq_none (by rw [fl_len]; omega)]

/-- Block B holds the n numbers f. -/
def RI (w : World) (B n : Nat) (f : Nat → Int) : Prop := Row w 3 B n n (fl n f)

theorem RI.cell {w : World} {B n : Nat} {f : Nat → Int} (h : RI w B n f) (i : Nat) (hi : i < n) : w.cell? ⟨B, i, none⟩ = some (.int .i64 (f i)) := (Row.cell h i hi).trans (fl_get n f i hi)
theorem RI.free {w : World} {B n : Nat} {f : Nat → Int} (h : RI w B n f) (i : Nat) : w.frozen? ⟨B, i, none⟩ = false := Row.free h i
theorem RI.lt {w : World} {B n : Nat} {f : Nat → Int} (h : RI w B n f) : B < w.heap.size := Row.lt h
theorem RI.congr {w : World} {B n : Nat} {f g : Nat → Int} (h : RI w B n f) (e : ∀ i, i < n → g i = f i) : RI w B n g := by
  unfold RI; rw [fl_congr e]; exact h
theorem RI.put {w : World} {B n : Nat} {f g : Nat → Int} (h : RI w B n f) (t : Nat) (v : Int) (e : ∀ i, i < n → g i = if i = t then v else f i) : RI (w.setCell ⟨B, t, none⟩ (.int .i64 v)) B n g ∧ Kept (fun k => k = B) w (w.setCell ⟨B, t, none⟩ (.int .i64 v)) := by
  have := Row.put h t (.int .i64 v)
  rw [fl_set e] at this
  exact this
theorem RI.kept {S : Nat → Prop} {w w' : World} {B n : Nat} {f : Nat → Int} (h : RI w B n f) (hk : Kept S w w') (hs : ¬ S B) : RI w' B n f := Row.kept h hk hs

/-- A slice of ints: its elements are 'l'. -/
def SegI (w : World) (a : Option Addr) (n cap : Nat) (l : List Int) : Prop :=
  l.length = n ∧ n ≤ cap ∧ n ≤ 1099511627776 ∧ (∀ z ∈ l, -9223372036854775808 ≤ z ∧ z ≤ 9223372036854775807) ∧
  (n = 0 ∨ ∃ b off, a = some ⟨b, off, none⟩ ∧ ∀ j, j < n → w.cell? ⟨b, off + j, none⟩ = some (.int .i64 (l.getD j 0)))

theorem SegI.keep {S : Nat → Prop} {w w' : World} {a : Option Addr} {n cap : Nat} {l : List Int} (h : SegI w a n cap l) (hk : Kept S w w') (hs : ∀ b off, a = some ⟨b, off, none⟩ → n ≠ 0 → ¬ S b) : SegI w' a n cap l := by
  obtain ⟨hz, h1, h2, h3, ha⟩ := h
  refine ⟨hz, h1, h2, h3, ?_⟩
  by_cases h0 : n = 0
  · exact .inl h0
  rcases ha with ha | ⟨b, off, e, hc⟩
  · exact .inl ha
  · exact .inr ⟨b, off, e, fun j hj => hk.cell (hc j hj) (hs b off e h0)⟩
theorem SegI.later {w w' : World} {a : Option Addr} {n cap : Nat} {l : List Int} {B : Nat} (h : SegI w a n cap l) (hb : Below B w w') (hB : w.heap.size ≤ B) : SegI w' a n cap l := by
  obtain ⟨hz, h1, h2, h3, ha⟩ := h
  refine ⟨hz, h1, h2, h3, ?_⟩
  rcases ha with ha | ⟨b, off, e, hc⟩
  · exact .inl ha
  · refine .inr ⟨b, off, e, fun j hj => ?_⟩
    have := hc j hj
    have hlt : b < w.heap.size := block_lt_of_cell this
    exact (hb.cell (p := ⟨b, off + j, none⟩) (by exact Nat.lt_of_lt_of_le hlt hB)).trans this

/-- An instruction among others, and where its labels lie. -/
structure Inx where
  c : Int
  a : Int
  la : Option Addr
  ln : Nat
  lc : Nat
  l : List Int

/-- None. -/
def dx : Inx := ⟨0, 0, none, 0, 0, []⟩

/-- It lies there. -/
def InAt (w : World) (b o : Nat) (x : Inx) : Prop :=
  w.cell? ⟨b, o, none⟩ = some (.int .u8 x.c) ∧ w.cell? ⟨b, o + 1, none⟩ = some (.int .i64 x.a) ∧ w.cell? ⟨b, o + 2, none⟩ = some (.slice x.la x.ln x.lc) ∧
    0 ≤ x.c ∧ x.c ≤ 255 ∧ -9223372036854775808 ≤ x.a ∧ x.a ≤ 9223372036854775807 ∧ x.ln ≤ 140737488355328 ∧ (x.ln ≤ 100000 → SegI w x.la x.ln x.lc x.l)

theorem InAt.later {w w' : World} {b o : Nat} {x : Inx} (h : InAt w b o x) {B : Nat} (hb : Below B w w') (hB : w.heap.size ≤ B) : InAt w' b o x := by
  obtain ⟨h0, h1, h2, h3, h4, h7, h8, h5, h6⟩ := h
  have hlt := block_lt_of_cell h0
  simp only at hlt
  exact ⟨(hb.cell (by exact Nat.lt_of_lt_of_le hlt hB)).trans h0, (hb.cell (by exact Nat.lt_of_lt_of_le hlt hB)).trans h1, (hb.cell (by exact Nat.lt_of_lt_of_le hlt hB)).trans h2, h3, h4, h7, h8, h5, fun h => (h6 h).later hb hB⟩

/-- The opcodes of a code. -/
def opF (xs : List Inx) (i : Nat) : Int := (xs.getD i dx).c

/-- The code lies there. -/
def Cod (w : World) (b off n : Nat) (xs : List Inx) : Prop := xs.length = n ∧ ∀ j, j < n → InAt w b (off + j * 3) (xs.getD j dx)

theorem Cod.later {w w' : World} {b off n : Nat} {xs : List Inx} (h : Cod w b off n xs) {B : Nat} (hb : Below B w w') (hB : w.heap.size ≤ B) : Cod w' b off n xs := ⟨h.1, fun j hj => (h.2 j hj).later hb hB⟩
theorem Cod.op {w : World} {b off n : Nat} {xs : List Inx} (h : Cod w b off n xs) {j : Nat} (hj : j < n) : w.cell? ⟨b, off + j * 3, none⟩ = some (.int .u8 (opF xs j)) := (h.2 j hj).1
theorem Cod.lt {w : World} {b off n : Nat} {xs : List Inx} (h : Cod w b off n xs) (hn : 0 < n) : b < w.heap.size := block_lt_of_cell (h.op hn)
theorem Cod.range {w : World} {b off n : Nat} {xs : List Inx} (h : Cod w b off n xs) {j : Nat} (hj : j < n) : 0 ≤ opF xs j ∧ opF xs j ≤ 255 := ⟨(h.2 j hj).2.2.2.1, (h.2 j hj).2.2.2.2.1⟩
theorem Cod.num {w : World} {b off n : Nat} {xs : List Inx} (h : Cod w b off n xs) {j : Nat} (hj : j < n) : w.cell? ⟨b, off + j * 3 + 1, none⟩ = some (.int .i64 (xs.getD j dx).a) := (h.2 j hj).2.1
theorem Cod.lab {w : World} {b off n : Nat} {xs : List Inx} (h : Cod w b off n xs) {j : Nat} (hj : j < n) : w.cell? ⟨b, off + j * 3 + 2, none⟩ = some (.slice (xs.getD j dx).la (xs.getD j dx).ln (xs.getD j dx).lc) := (h.2 j hj).2.2.1

/-- The code as a slice: of no instruction, or lying in memory. -/
def CodS (w : World) (a : Option Addr) (n : Nat) (xs : List Inx) : Prop := xs.length = n ∧ (n = 0 ∨ ∃ b off, a = some ⟨b, off, none⟩ ∧ Cod w b off n xs)
theorem CodS.later {w w' : World} {a : Option Addr} {n : Nat} {xs : List Inx} (h : CodS w a n xs) {B : Nat} (hb : Below B w w') (hB : w.heap.size ≤ B) : CodS w' a n xs := by
  refine ⟨h.1, ?_⟩
  rcases h.2 with h0 | ⟨b, off, e, hc⟩
  · exact .inl h0
  · exact .inr ⟨b, off, e, hc.later hb hB⟩
end Go.Proofs.YtedkmfklobipaaaDoor
