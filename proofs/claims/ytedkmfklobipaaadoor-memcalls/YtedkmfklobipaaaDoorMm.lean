/-
  A memory in memory: its block, the pages' list, the pages; what it is, how wide, how large.
-/
import Derived.Test.YtedkmfklobipaaaDoorOwn
import Derived.Test.YtedkmfklobipaaaDoorHid
import Derived.Test.YtedkmfklobipaaaDoorProg
import Derived.KernelRfl
import Derived.RowKit
import Derived.Deep.RegionHeld3
import Derived.Deep.WholeRow
namespace Go.Proofs.YtedkmfklobipaaaDoor
open Go.RowKit
set_option linter.unusedVariables false

theorem cell_at {w : World} {b i : Nat} {a : Array Value} {t : TypeId} (h : w.heap[b]? = some (Obj.cells a t)) : w.cell? ⟨b, i, none⟩ = a[i]? := by
  simp [World.cell?, h]
theorem free_at {w : World} {b i : Nat} {a : Array Value} {t : TypeId} (h : w.heap[b]? = some (Obj.cells a t)) : w.frozen? ⟨b, i, none⟩ = false := by
  simp [World.frozen?, h]
theorem lt_at {w : World} {b : Nat} {o : Obj} (h : w.heap[b]? = some o) : b < w.heap.size := by
  rcases Nat.lt_or_ge b w.heap.size with hx | hx
  · exact hx
  · rw [Array.getElem?_eq_none hx] at h; cases h

/-- The marks. -/
def marksL (d : Nat → Bool) : List Value := (List.range 64).map fun i => .bool (d i)
/-- The cells of a memory. -/
def memC (most : Nat) (sv : Value) (d : Nat → Bool) : Array Value := (.bool true :: .int .i64 most :: sv :: marksL d).toArray
/-- The cells of its page number i. -/
def pageC (f : Nat → Int) (i : Nat) : Array Value := ((List.range 4096).map fun k => Value.int .u8 (f (i * 4096 + k))).toArray
/-- A pointer to a block. -/
def pv (p : Nat) : Value := .pointer (some ⟨p, 0, none⟩)

theorem marksL_get (d : Nat → Bool) (i : Nat) (h : i < 64) : (marksL d)[i]? = some (.bool (d i)) := by simp [marksL, h]
theorem marksL_len (d : Nat → Bool) : (marksL d).length = 64 := by simp [marksL]
theorem memC_size (most : Nat) (sv : Value) (d : Nat → Bool) : (memC most sv d).size = 67 := by simp [memC, marksL]
theorem memC_mark (most : Nat) (sv : Value) (d : Nat → Bool) (i : Nat) (h : i < 64) : (memC most sv d)[3 + i]? = some (.bool (d i)) := by
  have := marksL_get d i h
  simp only [memC, List.getElem?_toArray]
  rw [show 3 + i = i + 1 + 1 + 1 by omega]
  simpa using this
theorem pageC_get (f : Nat → Int) (i k : Nat) (h : k < 4096) : (pageC f i)[k]? = some (.int .u8 (f (i * 4096 + k))) := by simp [pageC, h]
theorem pageC_size (f : Nat → Int) (i : Nat) : (pageC f i).size = 4096 := by simp [pageC]

/-- A memory: its block R, at most so many pages, the list sv of its pages' blocks PB, its bytes f, its marks d. -/
structure Mem (w : World) (R most : Nat) (sv : Value) (PB : List Nat) (f : Nat → Int) (d : Nat → Bool) : Prop where
  blk : w.heap[R]? = some (Obj.cells (memC most sv d) 79)
  own : w.ownsRow 0 86 1 sv PB.length (PB.map pv)
  pg : ∀ i p, PB[i]? = some p → w.heap[p]? = some (Obj.cells (pageC f i) 92)
  nd : PB.Nodup
  le : PB.length ≤ most
  top : most ≤ 64
  rng : ∀ a, 0 ≤ f a ∧ f a ≤ 255
  dr : ∀ i, d i = true → i < PB.length
  nt : ∀ a, PB.length * 4096 ≤ a → f a = 0

/-- The blocks of a memory. -/
def Fp (R : Nat) (sv : Value) (PB : List Nat) (k : Nat) : Prop := k = R ∨ sv.ownBlock = some k ∨ k ∈ PB

section
variable {w : World} {R most : Nat} {sv : Value} {PB : List Nat} {f : Nat → Int} {d : Nat → Bool}

theorem Mem.lt (h : Mem w R most sv PB f d) : R < w.heap.size := lt_at h.blk
theorem Mem.c0 (h : Mem w R most sv PB f d) : w.cell? ⟨R, 0, none⟩ = some (.bool true) := by rw [cell_at h.blk]; rfl
theorem Mem.c1 (h : Mem w R most sv PB f d) : w.cell? ⟨R, 1, none⟩ = some (.int .i64 most) := by rw [cell_at h.blk]; rfl
theorem Mem.c2 (h : Mem w R most sv PB f d) : w.cell? ⟨R, 2, none⟩ = some sv := by rw [cell_at h.blk]; rfl
theorem Mem.c3 (h : Mem w R most sv PB f d) (i : Nat) (hi : i < 64) : w.cell? ⟨R, 3 + i, none⟩ = some (.bool (d i)) := by rw [cell_at h.blk]; exact memC_mark _ _ _ i hi
theorem Mem.free (h : Mem w R most sv PB f d) (i : Nat) : w.frozen? ⟨R, i, none⟩ = false := free_at h.blk
/-- The list of its pages, as a slice. -/
theorem Mem.sl (h : Mem w R most sv PB f d) : ∃ a c, sv = .slice a PB.length c ∧ PB.length ≤ c := by
  rcases h.own.2 with ⟨e, h0⟩ | ⟨g, cap, cur, e, _, _, h4, _⟩
  · exact ⟨none, 0, by rw [e, h0], by omega⟩
  · exact ⟨_, cap, e, h4⟩
theorem Mem.slot (h : Mem w R most sv PB f d) {i p : Nat} (hp : PB[i]? = some p) : ∃ g c, sv = .slice (some ⟨g, 0, none⟩) PB.length c ∧ w.cell? ⟨g, i, none⟩ = some (.pointer (some ⟨p, 0, none⟩)) ∧ i < PB.length ∧ PB.length ≤ c := by
  have hi : i < PB.length := by
    rcases Nat.lt_or_ge i PB.length with hx | hx
    · exact hx
    · rw [List.getElem?_eq_none hx] at hp; cases hp
  rcases h.own.2 with ⟨e, h0⟩ | ⟨g, cap, cur, e, h2, h3, h4, h5, h6, h7⟩
  · omega
  · refine ⟨g, cap, e, ?_, hi, h4⟩
    have := World.ownsRow.cellAt (e ▸ h.own) i (by omega)
    rw [this]; simp [hp, pv]

/-- What it hangs on is kept. -/
theorem Mem.kept {S : Nat → Prop} {w' : World} (h : Mem w R most sv PB f d) (hk : Kept S w w') (hs : ∀ k, Fp R sv PB k → ¬ S k) : Mem w' R most sv PB f d := by
  refine ⟨(hk.block R h.lt (hs R (.inl rfl))).trans h.blk, own_keep h.own (fun B hB => hk.block B ?_ (hs B (.inr (.inl hB)))), fun i p hp => ?_, h.nd, h.le, h.top, h.rng, h.dr, h.nt⟩
  · rcases h.own.2 with ⟨e, _⟩ | ⟨g, cap, cur, e, _, h3, _⟩
    · rw [e] at hB; cases hB
    · rw [e] at hB
      obtain rfl : g = B := by simpa [Value.ownBlock] using hB
      exact lt_at h3
  · have := h.pg i p hp
    exact (hk.block p (lt_at this) (hs p (.inr (.inr (List.mem_of_getElem? hp))))).trans this
theorem Mem.fp_lt (h : Mem w R most sv PB f d) {k : Nat} (hk : Fp R sv PB k) : k < w.heap.size := by
  rcases hk with rfl | hk | hk
  · exact h.lt
  · rcases h.own.2 with ⟨e, _⟩ | ⟨g, cap, cur, e, _, h3, _⟩
    · rw [e] at hk; cases hk
    · rw [e] at hk
      obtain rfl : g = k := by simpa [Value.ownBlock] using hk
      exact lt_at h3
  · obtain ⟨i, hi⟩ := List.getElem?_of_mem hk
    exact lt_at (h.pg i k hi)
theorem Mem.later {w' : World} (h : Mem w R most sv PB f d) (hb : Below w.heap.size w w') : Mem w' R most sv PB f d :=
  h.kept (Kept.of_below hb) (fun k hk hs => absurd (h.fp_lt hk) (by omega))
end

/-! What it is, how wide. -/

theorem is_nil (w : World) : Calls Tryd.prog 39 #[.pointer none] w fun e w' => e = .returned (.bool false) ∧ w' = w := by
  go_enter Tryd.func39, Tryd.ntmps39
  go_wp2_with fail
  go_ret
  exact ⟨rfl, rfl⟩
theorem is_cell (R : Nat) (b : Bool) (w : World) (h : w.cell? ⟨R, 0, none⟩ = some (.bool b)) : Calls Tryd.prog 39 #[.pointer (some ⟨R, 0, none⟩)] w fun e w' => e = .returned (.bool b) ∧ w' = w := by
  go_enter Tryd.func39, Tryd.ntmps39
  go_wp2_with fail
  go_ret
  exact ⟨rfl, rfl⟩

def wid (n : Int) : Bool := decide (n = 1) || decide (n = 2) || decide (n = 4) || decide (n = 8)
theorem width_any (n : Int) (w : World) : Calls Tryd.prog 62 #[.int .i64 n] w fun e w' => e = .returned (.bool (wid n)) ∧ w' = w := by
  by_cases h1 : n = 1
  · subst h1
    go_enter Tryd.func62, Tryd.ntmps62
    go_wp2_with fail
    go_ret
    exact ⟨rfl, rfl⟩
  by_cases h2 : n = 2
  · subst h2
    go_enter Tryd.func62, Tryd.ntmps62
    go_wp2_with fail
    go_ret
    exact ⟨rfl, rfl⟩
  by_cases h4 : n = 4
  · subst h4
    go_enter Tryd.func62, Tryd.ntmps62
    go_wp2_with fail
    go_ret
    exact ⟨rfl, rfl⟩
  by_cases h8 : n = 8
  · subst h8
    go_enter Tryd.func62, Tryd.ntmps62
    go_wp2_with fail
    go_ret
    exact ⟨rfl, rfl⟩
  have b1 : (n == 1) = false := by simpa using h1
  have b2 : (n == 2) = false := by simpa using h2
  have b4 : (n == 4) = false := by simpa using h4
  have b8 : (n == 8) = false := by simpa using h8
  have HW := hid (show wid n = false by simp [wid, h1, h2, h4, h8])
  go_enter Tryd.func62, Tryd.ntmps62
  go_wp2_with fail
  go_ret
  exact ⟨by rw [HW.out]; rfl, rfl⟩

def mayB (p m : Int) : Bool := decide (0 ≤ p) && decide (p ≤ m) && decide (m ≤ 64)
theorem may_any (p m : Int) (w : World) : Calls Tryd.prog 32 #[.int .i64 p, .int .i64 m] w fun e w' => e = .returned (.bool (mayB p m)) ∧ w' = w := by
  have HM := hid (show mayB p m = (decide (0 ≤ p) && decide (p ≤ m) && decide (m ≤ 64)) from rfl)
  by_cases h1 : 0 ≤ p
  · by_cases h2 : p ≤ m
    · by_cases h3 : m ≤ 64
      · have HQ := hid (show mayB p m = true by simp [mayB, h1, h2, h3])
        go_enter Tryd.func32, Tryd.ntmps32
        go_wp2_with fail
        go_ret
        exact ⟨by rw [HQ.out]; rfl, rfl⟩
      · have HQ := hid (show mayB p m = false by simp [mayB, h3])
        go_enter Tryd.func32, Tryd.ntmps32
        go_wp2_with fail
        go_ret
        exact ⟨by rw [HQ.out]; rfl, rfl⟩
    · have HQ := hid (show mayB p m = false by simp [mayB, h2])
      go_enter Tryd.func32, Tryd.ntmps32
      go_wp2_with fail
      go_ret
      exact ⟨by rw [HQ.out]; rfl, rfl⟩
  · have HQ := hid (show mayB p m = false by simp [mayB, h1])
    go_enter Tryd.func32, Tryd.ntmps32
    go_wp2_with fail
    go_ret
    exact ⟨by rw [HQ.out]; rfl, rfl⟩
end Go.Proofs.YtedkmfklobipaaaDoor
