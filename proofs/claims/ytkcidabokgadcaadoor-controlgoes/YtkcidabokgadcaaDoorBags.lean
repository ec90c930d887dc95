/-
  A bag, begun; lists for it.
-/
import Derived.Test.YtkcidabokgadcaaDoorBagInts
namespace Go.Proofs.YtkcidabokgadcaaDoor
open Go.RowKit
set_option linter.unusedVariables false

theorem newBg {e es : TypeId} {c : Nat} {w0 w : World} {rs : List Lt} (hb : Below w0.heap.size w0 w) (hc : c ≤ 16) (hr : ∀ p ∈ rs, ∀ B, p.b = some B → Row w e B p.xs.length p.cap p.xs ∧ w0.heap.size ≤ B)
    (hinj : ∀ i j (hi : i < rs.length) (hj : j < rs.length) B, (rs[i]).b = some B → (rs[j]).b = some B → i = j) (B : Nat) (hB : w.heap.size = B) (t : TypeId) :
    Bg e es c w0 (w.alloc (.cells (Array.replicate 17 (.slice none 0 0)) t)) B (.slice none 0 0) rs 0 := by
  subst hB
  have ha : Below w.heap.size w (w.alloc (.cells (Array.replicate 17 (.slice none 0 0)) t)) := (Below.refl _ _).alloc (Nat.le_refl _) _
  have hcell : ∀ j, j ≤ 16 → (w.alloc (.cells (Array.replicate 17 (.slice none 0 0)) t)).cell? ⟨w.heap.size, j, none⟩ = some (.slice none 0 0) := by
    intro j hj
    rw [World.cell?_alloc_new, Array.getElem?_eq_getElem (by simp; omega)]
    simp
  refine ⟨hb.trans (ha.mono hb.size), hb.size, hcell c hc, ?_, fun j h1 _ => hcell j h1, World.ownsRow_nil _ _ _ _, by simp [Value.ownBlock], fun b hb => by simp [Value.ownBlock] at hb, fun p hp B hB => ?_, hinj⟩
  · simp
  · have h := hr p hp B hB
    have := h.1.lt
    exact ⟨h.1.below ha (Nat.le_refl _), by omega, h.2⟩
theorem e17 : Array.replicate 17 (Value.slice none 0 0) = #[.slice none 0 0, .slice none 0 0, .slice none 0 0, .slice none 0 0, .slice none 0 0, .slice none 0 0, .slice none 0 0, .slice none 0 0, .slice none 0 0, .slice none 0 0, .slice none 0 0, .slice none 0 0, .slice none 0 0, .slice none 0 0, .slice none 0 0, .slice none 0 0, .slice none 0 0] := rfl

/-- A row of the call's own as one of a bag's lists. -/
theorem lt_of_own {w : World} {base : Nat} {e : TypeId} {v : Value} {n : Nat} {xs : List Value} (h : w.ownsRow base e 1 v n xs) : ∃ p : Lt, v = p.sl ∧ p.xs = xs ∧ (∀ B, p.b = some B → Row w e B p.xs.length p.cap p.xs ∧ base ≤ B) := by
  have hl := h.1
  have h2 := h
  rcases h.2 with ⟨rfl, rfl⟩ | ⟨g, cap, cur, rfl, hg, _⟩
  · have hx : xs = [] := List.eq_nil_of_length_eq_zero (by simpa using hl)
    subst hx
    exact ⟨⟨none, [], 0⟩, rfl, rfl, fun B hB => by cases hB⟩
  · have hn : xs.length = n := by simpa using hl
    subst hn
    exact ⟨⟨some g, xs, cap⟩, rfl, rfl, fun B hB => by cases hB; exact ⟨Row.of h2, hg⟩⟩

/-- A list more, in new memory, for a bag that holds all of its own. -/
theorem Bg.more {e es : TypeId} {c : Nat} {w0 wr w' : World} {GB : Nat} {v : Value} {rs : List Lt} {p : Lt} (h : Bg e es c w0 wr GB v rs rs.length) (hb : Below wr.heap.size wr w') (hp : ∀ B, p.b = some B → Row w' e B p.xs.length p.cap p.xs ∧ wr.heap.size ≤ B) :
    Bg e es c w0 w' GB v (rs ++ [p]) rs.length := by
  have h' := h.later hb
  have hlt : ∀ q ∈ rs, ∀ B, q.b = some B → B < wr.heap.size := fun q hq B hB => (h.rows q hq B hB).1.lt
  have hgb : GB < wr.heap.size := block_lt_of_cell h.cell
  refine ⟨h'.below, h'.gb, h'.cell, h'.free, h'.flds, ?_, h'.other, h'.new, fun q hq B hB => ?_, fun i j hi hj B e1 e2 => ?_⟩
  · have ho := h'.own
    rw [List.take_append_of_le_length (Nat.le_refl _)]
    exact ho
  · rcases List.mem_append.1 hq with hq | hq
    · exact h'.rows q hq B hB
    · simp at hq
      subst hq
      have := hp B hB
      exact ⟨this.1, by omega, by have := h.below.size; omega⟩
  · simp at hi hj
    have key : ∀ k (hk : k < (rs ++ [p]).length), ((rs ++ [p])[k]).b = some B → (k < rs.length → B < wr.heap.size) ∧ (k = rs.length → wr.heap.size ≤ B) := by
      intro k hk hB
      refine ⟨fun hlt2 => ?_, fun he => ?_⟩
      · rw [List.getElem_append_left hlt2] at hB
        exact hlt _ (List.getElem_mem hlt2) B hB
      · subst he
        simp at hB
        exact (hp B hB).2
    by_cases hi2 : i < rs.length
    · by_cases hj2 : j < rs.length
      · rw [List.getElem_append_left hi2] at e1
        rw [List.getElem_append_left hj2] at e2
        exact h'.inj i j hi2 hj2 B e1 e2
      · have := (key i (by simp; omega) e1).1 hi2
        have := (key j (by simp; omega) e2).2 (by omega)
        omega
    · by_cases hj2 : j < rs.length
      · have := (key i (by simp; omega) e1).2 (by omega)
        have := (key j (by simp; omega) e2).1 hj2
        omega
      · omega

theorem sl_own (p : Lt) : p.sl.ownBlock = p.b := by
  unfold Lt.sl
  cases p.b <;> rfl

/-- What AddInts does: nothing else is written. -/
theorem addBgK {w0 wr wb : World} {GB base : Nat} {v : Value} {rs : List Lt} {n : Nat} (h : Bg 3 26 1 w0 wr GB v rs n) (hn : n < rs.length) (h300 : n < 300) (x : Value) (hx : x = rs[n].sl) (hb : Below base wb wr) (hbs : base ≤ wr.heap.size) (hG : base ≤ GB) (hv : ∀ B, v.ownBlock = some B → base ≤ B) :
    Calls Tryd.prog 10 #[.pointer (some ⟨GB, 0, none⟩), x] wr fun e w' => e = .returned (.tuple #[]) ∧ ∃ v', Bg 3 26 1 w0 w' GB v' rs (n + 1) ∧ Below base wb w' ∧ base ≤ w'.heap.size ∧ ∀ B, v'.ownBlock = some B → base ≤ B := by
  subst hx
  rw [Lt.sl_eq]
  refine (add58 GB v n _ _ _ _ wr h300 h.cell h.free h.own h.other).mono fun e w' ⟨he, B, cap, hr, hc, hf, hB, hnw, ho, hk⟩ => ⟨he, _, h.add (by decide) hn (by rw [← Lt.sl_eq] at hr; exact hr) hc hf hB hnw ho hk, ?_, ?_, ?_⟩
  · have h1 := (Kept.of_below hb).then hk (fun k hk' hh => by
      rcases hh with rfl | hh
      · exact hG
      · exact hv k hh)
    have hw : base ≤ wb.heap.size ∨ wb.heap.size < base := by omega
    exact ⟨hk.os.trans hb.os, hk.tape.trans hb.tape, hk.output.trans hb.output, Nat.le_trans hb.size hk.size, fun k hx => by
      by_cases hkw : k < wr.heap.size
      · rw [hk.block k hkw (fun hh => by
          rcases hh with e | hh
          · omega
          · have := hv k hh; omega)]
        exact hb.block k hx
      · omega⟩
  · have := hk.size; omega
  · intro B' hB'
    have e : B = B' := by simpa [Value.ownBlock] using hB'
    subst e
    rcases hnw with h1 | h1
    · exact hv B h1
    · omega
end Go.Proofs.YtkcidabokgadcaaDoor
