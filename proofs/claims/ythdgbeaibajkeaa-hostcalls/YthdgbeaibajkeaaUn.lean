/-
  Calls as the document tells them: on a host, and by the script.
-/
import Derived.Test.YthdgbeaibajkeaaWo
namespace Go.Proofs.Ythdgbeaibajkeaa
open Go.RowKit
set_option linter.unusedVariables false

/-- What is told of a reply. -/
def tldB (x : Rp) (s : ByteArray) : Bool := !x.tr && allB x.l s
def tldL (x : Rp) (s : ByteArray) : List Int := if tldB x s then x.l else []
/-- The answer to a call where T replies are taken: results, whether there are some, how many are taken then. -/
def ansB (xs : List Rp) (T : Nat) (s : ByteArray) : Bool := if T < xs.length then tldB (xs.getD T rp0) s else false
def ansL (xs : List Rp) (T : Nat) (s : ByteArray) : List Int := if T < xs.length then tldL (xs.getD T rp0) s else []
def ansT (xs : List Rp) (T : Nat) : Nat := if T < xs.length then T + 1 else T

theorem tld_same {x y : Rp} (s : ByteArray) (h1 : y.l = x.l) (h2 : y.tr = x.tr) : tldB y s = tldB x s ∧ tldL y s = tldL x s := by
  have e : tldB y s = tldB x s := by unfold tldB; rw [h1, h2]
  exact ⟨e, by unfold tldL; rw [e, h1]⟩
theorem toldV_eq {Q : Nat → Prop} {w : World} {x : Rp} (s : ByteArray) (h : SegU Q w x.a x.n x.c x.l) : ∃ la lc, toldV x s = #[.slice la (tldL x s).length lc, .bool (tldB x s)] ∧ SegU Q w la (tldL x s).length lc (tldL x s) := by
  by_cases hc : x.tr = false ∧ allB x.l s = true
  · have hb : tldB x s = true := by simp [tldB, hc.1, hc.2]
    have hl : tldL x s = x.l := by simp [tldL, hb]
    refine ⟨x.a, x.c, ?_, ?_⟩
    · unfold toldV; rw [if_pos hc, hl, hb, h.1]
    · rw [hl, h.1]; exact h
  · have hb : tldB x s = false := by
      unfold tldB
      cases h1 : x.tr
      · cases h2 : allB x.l s
        · rfl
        · exact absurd ⟨h1, h2⟩ hc
      · rfl
    have hl : tldL x s = [] := by simp [tldL, hb]
    refine ⟨none, 0, ?_, ?_⟩
    · unfold toldV; rw [if_neg hc, hl, hb]; rfl
    · rw [hl]; exact SegU.nil _ _ _ _

theorem drop_cons {xs : List Rp} {T : Nat} (h : T < xs.length) : xs.drop T = xs.getD T rp0 :: xs.drop (T + 1) := by
  rw [List.drop_eq_getElem_cons h, List.getD_eq_getElem?_getD, List.getElem?_eq_getElem h]; rfl
theorem SameR.tail {x y : Rp} {xs ys : List Rp} (h : SameR (y :: ys) (x :: xs)) : SameR ys xs ∧ y.l = x.l ∧ y.tr = x.tr := by
  refine ⟨⟨by simpa using h.1, fun j hj => ?_⟩, h.2 0 (by simp)⟩
  have := h.2 (j + 1) (by simpa using hj)
  simpa using this

/-- What a call answers on a host that has taken T of xs. -/
theorem callU (H : Nat) (Q : Nat → Prop) (T : Nat) (xs ys : List Rp) (s : ByteArray) (w : World) (h : HS w H Q T (xs.length - T) ys) (hQH : ∀ k, Q k → k ≠ H) (hsm : SameR ys (xs.drop T)) (hx : xs.length ≤ 2000) (ht : T ≤ 9223372036854775807) (hs : s.size ≤ 140737488355328) :
    Calls Try.prog 14 #[.pointer (some ⟨H, 0, none⟩), .string s] w fun e w' => ∃ la lc ys', e = .returned (.tuple #[.slice la (ansL xs T s).length lc, .bool (ansB xs T s)]) ∧ SegU Q w' la (ansL xs T s).length lc (ansL xs T s) ∧
      Kept (fun k => k = H) w w' ∧ HS w' H Q (ansT xs T : Int) (xs.length - ansT xs T) ys' ∧ SameR ys' (xs.drop (ansT xs T)) := by
  by_cases hT : T < xs.length
  · refine (callH H Q _ T ys s w h hQH (by omega) hs).mono ?_
    rintro e w' (⟨h0, _⟩ | ⟨x, rest, rfl, hm, rfl, hk, hh, hsg⟩)
    · omega
    rw [drop_cons hT] at hsm
    obtain ⟨h1, h2, h3⟩ := hsm.tail
    obtain ⟨e1, e2⟩ := tld_same s h2 h3
    obtain ⟨la, lc, htv, hse⟩ := toldV_eq s hsg
    have eL : ansL xs T s = tldL x s := by unfold ansL; rw [if_pos hT, e2]
    have eB : ansB xs T s = tldB x s := by unfold ansB; rw [if_pos hT, e1]
    have eT : ansT xs T = T + 1 := by unfold ansT; rw [if_pos hT]
    rw [eL, eB, eT]
    refine ⟨la, lc, rest, by rw [htv], hse, hk, ?_, h1⟩
    rw [show xs.length - (T + 1) = rest.length by omega, show ((T + 1 : Nat) : Int) = (T : Int) + 1 by omega]
    exact hh
  · have hm : xs.length - T = 0 := by omega
    have eL : ansL xs T s = [] := by unfold ansL; rw [if_neg hT]
    have eB : ansB xs T s = false := by unfold ansB; rw [if_neg hT]
    have eT : ansT xs T = T := by unfold ansT; rw [if_neg hT]
    rw [eL, eB, eT]
    rw [hm] at h
    have hl : ∀ W, Below w.heap.size w W → Calls Try.prog 12 #[.pointer (some ⟨H, 0, none⟩)] W fun e w' => e = .returned (.int .i64 0) ∧ w' = W := fun W hb => by
      obtain ⟨_, _, _, a, c, h3, _⟩ := h.later hb
      exact left12 H a 0 c W h3
    refine (call14_none (some ⟨H, 0, none⟩) s w hl).mono ?_
    rintro e w' ⟨rfl, hb⟩
    rw [hm]
    exact ⟨none, 0, ys, rfl, SegU.nil _ _ _ _, ⟨hb.os, hb.tape, hb.output, hb.size, fun k hk _ => hb.block k hk⟩, h.later hb, hsm⟩

/-- What the document answers. -/
theorem refU (Q : Nat → Prop) (a : Option Addr) (n c T : Nat) (xs : List Rp) (s : ByteArray) (w : World) (h : RpS Q w a n c xs) (hs : s.size ≤ 140737488355328) :
    Calls Try.prog 15 #[.slice a n c, .int .i64 T, .string s] w fun e w' => ∃ la lc, e = .returned (.tuple #[.slice la (ansL xs T s).length lc, .bool (ansB xs T s), .int .i64 (ansT xs T)]) ∧ SegU (fun k => w.heap.size ≤ k) w' la (ansL xs T s).length lc (ansL xs T s) ∧ Below w.heap.size w w' := by
  obtain ⟨hl, hc, hn, hr⟩ := h
  subst hl
  by_cases hT : T < xs.length
  · obtain ⟨b, off, rfl, _, hcell⟩ := hr.resolve_left (by omega)
    have hx := hcell T hT
    have eT : ansT xs T = T + 1 := by unfold ansT; rw [if_pos hT]
    have eL : ansL xs T s = tldL (xs.getD T rp0) s := by unfold ansL; rw [if_pos hT]
    have eB : ansB xs T s = tldB (xs.getD T rp0) s := by unfold ansB; rw [if_pos hT]
    rw [eL, eB, eT]
    clear hcell hr eL eB eT
    generalize xs.getD T rp0 = x at *
    by_cases hcn : x.tr = false ∧ allB x.l s = true
    · have hb : tldB x s = true := by simp [tldB, hcn.1, hcn.2]
      have hlx : tldL x s = x.l := by simp [tldL, hb]
      refine (ref15_yes Q b off _ c T x s w hn hT hx hs hcn.1 hcn.2).mono ?_
      rintro e w' ⟨⟨a', c', rfl, hL⟩, hbe⟩
      rw [hb, hlx]
      have hxl := hx.2.2.1
      exact ⟨a', c', by rw [hxl], by rw [hxl]; exact hL.seg hxl.symm hx.2.2.2.2.2.1 hx.2.2.2.2.1, hbe⟩
    · have hb : tldB x s = false := by
        unfold tldB
        cases h1 : x.tr
        · cases h2 : allB x.l s
          · rfl
          · exact absurd ⟨h1, h2⟩ hcn
        · rfl
      have hlx : tldL x s = [] := by simp [tldL, hb]
      refine (ref15_no Q b off _ c T x s w hn hT hx hs ?_).mono ?_
      · cases h1 : x.tr
        · right
          cases h2 : allB x.l s
          · rfl
          · exact absurd ⟨h1, h2⟩ hcn
        · exact .inl rfl
      · rintro e w' ⟨rfl, hbe⟩
        rw [hb, hlx]
        exact ⟨none, 0, rfl, SegU.nil _ _ _ _, hbe⟩
  · have eL : ansL xs T s = [] := by unfold ansL; rw [if_neg hT]
    have eB : ansB xs T s = false := by unfold ansB; rw [if_neg hT]
    have eT : ansT xs T = T := by unfold ansT; rw [if_neg hT]
    rw [eL, eB, eT]
    refine (ref15_out a _ c T s w hn (by omega)).mono ?_
    rintro e w' ⟨rfl, rfl⟩
    exact ⟨none, 0, rfl, SegU.nil _ _ _ _, Below.refl _ _⟩

/-! ### What was handed in is changed afterwards -/
/-- A list of replies that may be written, whatever it holds. -/
def GW (B0 B1 : Nat) (ga : Option Addr) (n : Nat) (ys : List Rp) (W : World) : Prop :=
  n = 0 ∨ ∃ g, ga = some ⟨g, 0, none⟩ ∧ B0 ≤ g ∧ g < B1 ∧ ∀ i, i < n → W.cell? ⟨g, i * 2, none⟩ = some (.slice (ys.getD i rp0).a (ys.getD i rp0).n (ys.getD i rp0).c) ∧ (∃ u, W.cell? ⟨g, i * 2 + 1, none⟩ = some (.bool u)) ∧ W.frozen? ⟨g, i * 2 + 1, none⟩ = false ∧ (ys.getD i rp0).n ≤ 2147483647 ∧
    ((ys.getD i rp0).n = 0 ∨ ∃ yb, (ys.getD i rp0).a = some ⟨yb, 0, none⟩ ∧ B0 ≤ yb ∧ yb < B1 ∧ yb ≠ g ∧ ∀ j, j < (ys.getD i rp0).n → (∃ z, W.cell? ⟨yb, j, none⟩ = some (.int .u64 z)) ∧ W.frozen? ⟨yb, j, none⟩ = false)
theorem GW.later {B0 B1 : Nat} {ga : Option Addr} {n : Nat} {ys : List Rp} {W W' : World} (h : GW B0 B1 ga n ys W) (hb : Below W.heap.size W W') : GW B0 B1 ga n ys W' := by
  rcases h with h | ⟨g, e, h1, h2, h⟩
  · exact .inl h
  have fz : ∀ {b o : Nat} {u : Value}, W.cell? ⟨b, o, none⟩ = some u → W.frozen? ⟨b, o, none⟩ = false → W'.frozen? ⟨b, o, none⟩ = false := fun hc hf => (frozen_of_block (hb.block _ (block_lt_of_cell hc)) _).trans hf
  refine .inr ⟨g, e, h1, h2, fun i hi => ?_⟩
  obtain ⟨a1, ⟨u, a2⟩, a3, a4, a5⟩ := h i hi
  refine ⟨later_cell hb a1, ⟨u, later_cell hb a2⟩, fz a2 a3, a4, ?_⟩
  rcases a5 with a5 | ⟨yb, q1, q2, q3, q4, q5⟩
  · exact .inl a5
  · refine .inr ⟨yb, q1, q2, q3, q4, fun j hj => ?_⟩
    obtain ⟨⟨z, r1⟩, r2⟩ := q5 j hj
    exact ⟨⟨z, later_cell hb r1⟩, fz r1 r2⟩
/-- A store of a word, or of a truth, where one lies. -/
theorem GW.set {B0 B1 : Nat} {ga : Option Addr} {n : Nat} {ys : List Rp} {W : World} (h : GW B0 B1 ga n ys W) {b o : Nat} {u : Value}
    (hv : (∃ z z', W.cell? ⟨b, o, none⟩ = some (.int .u64 z) ∧ u = .int .u64 z') ∨ (∃ z z', W.cell? ⟨b, o, none⟩ = some (.bool z) ∧ u = .bool z')) : GW B0 B1 ga n ys (W.setCell ⟨b, o, none⟩ u) := by
  rcases h with h | ⟨g, e, h1, h2, h⟩
  · exact .inl h
  have cs : ∀ {b' o' : Nat} {v : Value}, W.cell? ⟨b', o', none⟩ = some v → ((b', o') = (b, o) ∧ (W.setCell ⟨b, o, none⟩ u).cell? ⟨b', o', none⟩ = some u) ∨ (W.setCell ⟨b, o, none⟩ u).cell? ⟨b', o', none⟩ = some v := fun {b' o' v} hc => by
    by_cases hq : (b', o') = (b, o)
    · obtain ⟨rfl, rfl⟩ := Prod.mk.inj hq
      exact .inl ⟨rfl, World.cell?_setCell_same' _ _ _ (by rw [hc]; rfl)⟩
    · refine .inr ?_
      rw [World.cell?_setCell_other _ _ _ _ (fun e => hq (by simp at e; rw [e.1, e.2]))]
      exact hc
  refine .inr ⟨g, e, h1, h2, fun i hi => ?_⟩
  obtain ⟨a1, ⟨t, a2⟩, a3, a4, a5⟩ := h i hi
  refine ⟨?_, ?_, by rw [World.frozen?_setCell]; exact a3, a4, ?_⟩
  · rcases cs a1 with ⟨hq, _⟩ | hc
    · obtain ⟨rfl, rfl⟩ := Prod.mk.inj hq
      rcases hv with ⟨z, z', hz, _⟩ | ⟨z, z', hz, _⟩ <;> (rw [a1] at hz; cases hz)
    · exact hc
  · rcases cs a2 with ⟨hq, hc⟩ | hc
    · obtain ⟨rfl, rfl⟩ := Prod.mk.inj hq
      rcases hv with ⟨z, z', hz, _⟩ | ⟨z, z', hz, rfl⟩
      · rw [a2] at hz; cases hz
      · exact ⟨z', hc⟩
    · exact ⟨t, hc⟩
  · rcases a5 with a5 | ⟨yb, q1, q2, q3, q4, q5⟩
    · exact .inl a5
    · refine .inr ⟨yb, q1, q2, q3, q4, fun j hj => ?_⟩
      obtain ⟨⟨z, r1⟩, r2⟩ := q5 j hj
      refine ⟨?_, by rw [World.frozen?_setCell]; exact r2⟩
      rcases cs r1 with ⟨hq, hc⟩ | hc
      · obtain ⟨rfl, rfl⟩ := Prod.mk.inj hq
        rcases hv with ⟨z1, z', hz, rfl⟩ | ⟨z1, z', hz, _⟩
        · exact ⟨z', hc⟩
        · rw [r1] at hz; cases hz
      · exact ⟨z, hc⟩
theorem CR.gw {B0 : Nat} {xs : List Rp} {n c : Nat} {a : Option Addr} {ys : List Rp} {w : World} (h : CR B0 xs n (.slice a n c) ys w) : GW B0 w.heap.size a n ys w := by
  by_cases h0 : n = 0
  · exact .inl h0
  have hlen := h.len
  have hrow : w.ownsRow B0 33 2 (.slice a n c) n (flatR ys) := by have := h.row; unfold LR at this; rw [hlen] at this; exact this
  obtain ⟨a', c', e, _, hb⟩ := own_sl hrow
  simp at e
  obtain ⟨rfl, rfl⟩ := e
  obtain ⟨g, rfl⟩ := hb.resolve_left h0
  obtain ⟨g1, g2, cur, g3⟩ := own_ty hrow rfl
  refine .inr ⟨g, rfl, g1, g2, fun i hi => ?_⟩
  have hm : ys.getD i rp0 ∈ ys := by rw [List.getD_eq_getElem?_getD, List.getElem?_eq_getElem (by omega)]; exact List.getElem_mem (by omega)
  have hc : ∀ q, q < 2 → w.cell? ⟨g, i * 2 + q, none⟩ = (celR (ys.getD i rp0))[q]? := fun q hq => by
    rw [World.ownsRow.cellAt hrow (i * 2 + q) (by omega), flatR_get ys i q (by omega) hq]
  obtain ⟨l1, l2, l3, l4⟩ := h.lab _ hm
  clear hm
  generalize ys.getD i rp0 = y at *
  refine ⟨hc 0 (by omega), ⟨_, hc 1 (by omega)⟩, World.ownsRow.frozenAt hrow _, l3, ?_⟩
  by_cases hn0 : y.n = 0
  · exact .inl hn0
  · unfold LU at l1
    rw [← l2] at l1
    obtain ⟨a2, c2, e2, _, hb2⟩ := own_sl l1
    simp at e2
    obtain ⟨yb, hyb⟩ := hb2.resolve_left hn0
    rw [← e2.1] at hyb
    rw [hyb] at l1 ⊢
    obtain ⟨y1, y2, cur2, y3⟩ := own_ty l1 rfl
    refine .inr ⟨yb, rfl, y1, y2, ?_, fun j hj => ⟨?_, World.ownsRow.frozenAt l1 _⟩⟩
    · intro e
      subst e
      rw [g3] at y3
      simp at y3
    · have := World.ownsRow.cellAt l1 j (by omega)
      rw [List.getElem?_map, List.getElem?_eq_getElem (by omega)] at this
      exact ⟨_, this⟩
end Go.Proofs.Ythdgbeaibajkeaa
