/-
  What the walk over TypesAsk leans on: the bag's beginning, and what is held over a statement that draws its order.
-/
import Derived.Test.YtdlpbldpddobcaaDoorRef
namespace Go.Proofs.YtdlpbldpddobcaaDoor
open Go.RowKit
set_option linter.unusedVariables false

theorem newBg {e es : TypeId} {c : Nat} {w0 w : World} {rs : List Lt} (hb : Below w0.heap.size w0 w) (hc : c ≤ 16) (hr : ∀ p ∈ rs, ∀ B, p.b = some B → Row w e B p.xs.length p.cap p.xs ∧ w0.heap.size ≤ B)
    (hinj : ∀ i j (hi : i < rs.length) (hj : j < rs.length) B, (rs[i]).b = some B → (rs[j]).b = some B → i = j) (B : Nat) (hB : w.heap.size = B) (t : TypeId) :
    Bg e es c w0 (w.alloc (.cells (Array.replicate 17 (.slice none 0 0)) t)) B (.slice none 0 0) rs 0 := by
  subst hB
  have ha : Below w.heap.size w (w.alloc (.cells (Array.replicate 17 (.slice none 0 0)) t)) := (Below.refl _ _).alloc (Nat.le_refl _) _
  have hcell : ∀ j, j ≤ 16 → (w.alloc (.cells (Array.replicate 17 (.slice none 0 0)) t)).cell? ⟨w.heap.size, j, none⟩ = some (.slice none 0 0) := by
    intro j hj
    rw [World.cell?_alloc_new, Array.getElem?_eq_getElem (by simp; omega)]
    simp
  refine ⟨hb.trans (ha.mono hb.size), hb.size, hcell c hc, ?_, fun j h1 _ => hcell j h1, World.ownsRow_nil _ _ _ _, by simp [Value.ownBlock], fun b hb => by simp [Value.ownBlock] at hb, fun p hp B hB => ?_, hinj⟩
  · simp
  · have h := hr p hp B hB
    have := h.1.lt
    exact ⟨h.1.below ha (Nat.le_refl _), by omega, h.2⟩

/-- A row of words as a slice. -/
theorem segW_row {w : World} {B n cap : Nat} {zs : List Int} (h : Row w 32 B n cap (zs.map (Value.int .u64))) (hn : n ≤ 1073741824) (hr : ∀ z ∈ zs, 0 ≤ z ∧ z < 18446744073709551616) : SegW w (some ⟨B, 0, none⟩) n cap zs := by
  obtain ⟨a, c, e, hs, _⟩ := segW_of_own h hn hr
  simp only [Value.slice.injEq, true_and] at e
  obtain ⟨rfl, rfl⟩ := e
  exact hs

theorem zeros_range (n : Nat) : ∀ z ∈ List.replicate n (0 : Int), 0 ≤ z ∧ z < 18446744073709551616 := by
  intro z hz
  rw [(List.mem_replicate.1 hz).2]; decide

/-- The list with marks behind it, as a slice of words. -/
theorem segW_wide {w : World} {B n : Nat} {zs : List Int} (hz : zs.length = n) (hn : n ≤ 1048576) (hr : ∀ z ∈ zs, 0 ≤ z ∧ z < 18446744073709551616) (hc : ∀ j, j < n + 64 → w.cell? ⟨B, j, none⟩ = some (.int .u64 (wl zs j))) :
    SegW w (some ⟨B, 0, none⟩) n (n + 64) zs := by
  refine ⟨hz, by omega, by omega, hr, .inr ⟨B, 0, rfl, fun j hj => ?_⟩⟩
  rw [Nat.zero_add, hc j (by omega)]
  simp [wl, hz, hj]

/-- What is held. -/
theorem held_later {X : Nat} {p r : ByteArray} {w2 W W' : World} (hb : Below W.heap.size W W') (h : W.cell? ⟨X, 0, none⟩ = some (.string p) ∧ W.cell? ⟨X, 1, none⟩ = some (.string r) ∧ Below w2.heap.size w2 W) :
    W'.cell? ⟨X, 0, none⟩ = some (.string p) ∧ W'.cell? ⟨X, 1, none⟩ = some (.string r) ∧ Below w2.heap.size w2 W' := by
  obtain ⟨h0, h1, h2⟩ := h
  have hlt := block_lt_of_cell h0
  exact ⟨(hb.cell (by simpa using hlt)).trans h0, (hb.cell (by simpa using hlt)).trans h1, h2.trans (hb.mono h2.size)⟩
theorem held_seg {X : Nat} {p r : ByteArray} {w2 W : World} {a : Option Addr} {n cap : Nat} {zs : List Int} (hs : SegW w2 a n cap zs) (h : W.cell? ⟨X, 0, none⟩ = some (.string p) ∧ W.cell? ⟨X, 1, none⟩ = some (.string r) ∧ Below w2.heap.size w2 W) : SegW W a n cap zs :=
  hs.later h.2.2 (Nat.le_refl _)
end Go.Proofs.YtdlpbldpddobcaaDoor
