/-
  A range over a function whose iterator keeps its place in a cell of its own (a captured variable): what such an iterator owes, and what a loop over it owes.
-/
import Derived.RangeFuncWrites
import Derived.RangeFuncCalls
import Derived.RangeFuncLeaves
namespace Go.Proofs.YtgljlclnmnfocaaDoor
open Go.RowKit

/-- The cells at these places hold what they held, and may be written as they might. -/
def Keeps (ps : List Addr) (W W' : World) : Prop := ∀ p ∈ ps, ∀ v, W.cell? p = some v → W'.cell? p = some v ∧ W'.frozen? p = W.frozen? p

theorem Keeps.refl (ps : List Addr) (W : World) : Keeps ps W W := fun _ _ _ h => ⟨h, rfl⟩
theorem Keeps.trans {ps : List Addr} {A B C : World} (h : Keeps ps A B) (k : Keeps ps B C) : Keeps ps A C := fun p hp v hv => by
  obtain ⟨h1, h2⟩ := h p hp v hv
  obtain ⟨k1, k2⟩ := k p hp v h1
  exact ⟨k1, k2.trans h2⟩
theorem Keeps.turned {ps : List Addr} (W : World) (l : Nat) (o o' : Obj) (h : W.heap[l]? = some o) (ho : o.isCells = false) : Keeps ps W (W.putObj l o') := fun p _ v hv =>
  have hr : ∀ r, some l = some r → ∃ q : Obj, W.heap[r]? = some q ∧ q.isCells = false := fun r e => by cases e; exact ⟨o, h, ho⟩
  ⟨cell_kept hv (grownBy_putObj' W l o') hr, frozen_kept hv (grownBy_putObj' W l o') hr⟩

/-- What such an iterator owes: it hands over the xs one by one, to its end or till a round says no more; its own steps write one cell, c, alone; a round that goes on keeps the cells ps. -/
def Feeds {α : Type} (F : Fence) (n : Nat) (P : Program) (gf : Nat) (lb : Array Value) (encs : α → Array Value) (c : Addr) (ps : List Addr) (xs : List α) (W : World) : Prop :=
  ∀ (l : Nat) (J : List α → World → Prop) (Jx : World → Prop) (W1 : World), Keeps ps W W1 →
    (∀ r A v, J r A → J r (A.setCell c v)) →
    (∀ x r A, J (x :: r) A → YieldAt F (n - 1) P l (encs x) A fun e B => (e = .returned (.bool true) ∧ J r B ∧ Keeps ps A B) ∨ (e = .returned (.bool false) ∧ Jx B)) →
    J xs W1 →
    CallsIn F n P gf (#[.func (.yield l) #[] #[]] ++ lb) W1 fun e B => (∃ v, e = .returned v) ∧ (J [] B ∨ Jx B)

/-- The ways in which the body of a round may be left. -/
def Leaves (B : Nat) (ps : List Addr) (I : World → Prop) (Ix : Code → World → Prop) (W : World) : Exit → Act → World → Prop
  | .normal, _, W' => KeepsFrom B W W' ∧ Keeps ps W W' ∧ I W'
  | .ret, _, W' => KeepsFrom B W W' ∧ Ix .ret W'
  | .exit _, _, _ => False
  | .goto _, _, _ => False
  | .panic _, _, _ => False
  | .outgrown, _, _ => False

/-- The loop over such an iterator: I r W: between two rounds, where r is still to come; Ix: where a round has returned. -/
theorem range_feeds {α : Type} {F : Fence} {n : Nat} {P : Program} {g : Operand} {prm : Array Tmp} {assign body : Code} {Q : Exit → Act → World → Prop} {a : Act} {w : World}
    (hro : F.round = none) (h1 : 1 ≤ n) {gf : Nat} {lb : Array Value} (hg : a.eval g = .func (.func gf) #[] lb) (hFg : F.fn gf) (eg : ∀ args w, (callFunc gf args).run P w = .ok (.enter gf args) w)
    {encs : α → Array Value} {c : Addr} {ps : List Addr} {xs : List α} (hps : ∀ x, (encs x).size = prm.size)
    (hseq : Feeds F (n - 1) P gf lb encs c ps xs w)
    (I : List α → World → Prop) (Ix : Code → World → Prop) (hI : OwnFrom w.heap.size I) (hIx : OwnFrom w.heap.size Ix)
    (hIc : ∀ r A v, I r A → I r (A.setCell c v)) (h0 : I xs w) (a₁ : α → Act)
    (hassign : ∀ (l : Nat) (x : α) (W : World) (K : Act → World → Prop), K (a₁ x) W →
      assign.wpIn (F.inRound l) (n - 1 - 1) P (Exit.then K (fun _ _ _ => False)) { tmps := (prm.zip (encs x)).foldl (fun t (p, v) => t.setIfInBounds p v) a.tmps, defers := [] } W)
    (hbody : ∀ (l : Nat) (x : α) (r : List α) (W : World), I (x :: r) W → body.wpIn (F.inRound l) (n - 1 - 1) P (Leaves w.heap.size ps (I r) Ix W) (a₁ x) W)
    (hdone : ∀ (D : Nat) (W : World), w.heap.size ≤ D → I [] W → W.heap[D]? = some (.deferred (some [])) → Q .normal { a with defers := { target := .collected D, args := #[] } :: a.defers } W)
    (hstop : ∀ (D : Nat) (j : Code) (W : World), w.heap.size ≤ D → Ix j W → W.heap[D]? = some (.deferred (some [])) → j.wpIn F n P Q { a with defers := { target := .collected D, args := #[] } :: a.defers } W) :
    (Code.rangeFunc g prm assign body).wpIn F n P Q a w := by
  refine wpIn_rangeFunc fun fn hfn => ?_
  rw [hro]
  -- the loop's record, by its state and the jump that is pending
  let record : LoopState → Option Code → Loop := fun st pe => { state := st, pending := pe, fn, tmps := a.tmps, params := prm, assign, body, defers := w.heap.size }
  let D := w.heap.size
  let L := w.heap.size + 1
  let W0 := (w.alloc (.deferred (some []))).alloc (.loop (record .ready none))
  let Book : Loop → World → Prop := fun rc W => W.heap[L]? = some (.loop rc) ∧ W.heap[D]? = some (.deferred (some []))
  have hbook : Book (record .ready none) W0 := by
    constructor
    · have := World.alloc_heap_new (w.alloc (.deferred (some []))) (.loop (record .ready none))
      rwa [World.size_alloc] at this
    · exact (Below.heap_alloc _ _ _ (by simp [D])).trans (World.alloc_heap_new w _)
  -- book-keeping turns the record alone
  have turn : ∀ {rc rc' : Loop} {W : World}, Book rc W → Book rc' (W.putObj L (.loop rc')) := fun h =>
    ⟨World.putObj_heap_same (Array.getElem?_eq_some_iff.1 h.1).1, (World.putObj_heap_other (by simp [L, D])).trans h.2⟩
  have over : ∀ {rc : Loop} {W W' : World}, Book rc W → KeepsFrom D W W' → Book rc W' := fun h k =>
    ⟨k.same _ _ (by simp [L, D]) h.1 rfl, k.same _ _ (Nat.le_refl _) h.2 rfl⟩
  have cells : ∀ {rc : Loop} {W : World} (v : Value), Book rc W → Book rc (W.setCell c v) := fun v h =>
    ⟨(KeepsOthers.setCell _ _ _).same _ _ h.1 rfl, (KeepsOthers.setCell _ _ _).same _ _ h.2 rfl⟩
  have hk0 : Keeps ps w W0 := fun p _ v hv => by
    have g1 := World.grownBy_alloc w (.deferred (some [])) none
    have g2 := World.grownBy_alloc (w.alloc (.deferred (some []))) (.loop (record .ready none)) none
    have e1 := cell_kept hv g1 (fun r e => by cases e)
    exact ⟨cell_kept e1 g2 (fun r e => by cases e), (frozen_kept e1 g2 (fun r e => by cases e)).trans (frozen_kept hv g1 (fun r e => by cases e))⟩
  refine ⟨L, [{ target := .collected D, args := #[] }], W0, { target := .fn (.func gf) lb, args := #[.func (.yield L) #[] #[]] }, W0, gf, #[.func (.yield L) #[] #[]] ++ lb, W0,
    run_enterLoop_outer _ _ _ _ _, ?_, ?_, ?_, fun _ => h1, ?_⟩
  · simp only [resolve, hg]; simp [go_sem]
  · intro f' hf'; simp [Target.leads] at hf'; subst hf'; exact hFg
  · simp [invoke, go_sem, eg]
  refine (hseq L (fun r W => I r W ∧ Book (record .ready none) W) (fun W => ∃ j, Ix j W ∧ Book (record .done (some j)) W) W0 hk0
    (fun r A v h => ⟨hIc r A v h.1, cells v h.2⟩) ?_ ⟨hI.alloc _ (hI.alloc _ h0), hbook⟩).mono ?_
  · -- one round
    rintro x r W ⟨hi, hb⟩
    have hy := run_yield (P := P) (args := encs x) hb.1 (hps x)
    refine ⟨fn, _, assign, body, hy, roundIn_of_wpIn hfn (hassign _ x W _ ⟨_, run_beginRound hb.1 rfl, ?_⟩)⟩
    have hb2 : Book { record .ready none with state := .busy } (W.putObj L (.loop { record .ready none with state := .busy })) := turn hb
    refine wpIn_mono (hbody _ x r _ (hI.putObj _ hi (by simp [L]) hb.1 rfl)) ?_
    rintro e a3 W3 hp
    cases e with
    | normal =>
      obtain ⟨hk3, hkp3, hi3⟩ := hp
      have hb3 := over hb2 hk3
      exact ⟨_, _, run_endRound none hb3.1, .inl ⟨rfl, ⟨hI.putObj _ hi3 (by simp [L]) hb3.1 rfl, turn hb3⟩, ((Keeps.turned _ _ _ _ hb.1 rfl).trans hkp3).trans (Keeps.turned _ _ _ _ hb3.1 rfl)⟩⟩
    | ret =>
      obtain ⟨hk3, hi3⟩ := hp
      have hb3 := over hb2 hk3
      exact ⟨_, _, run_endRound (some .ret) hb3.1, .inr ⟨rfl, .ret, hIx.putObj _ hi3 (by simp [L]) hb3.1 rfl, turn hb3⟩⟩
    | exit id => exact hp.elim
    | goto t => exact hp.elim
    | panic ch => exact hp.elim
    | outgrown => exact hp.elim
  · -- behind the iterator
    rintro e W2 ⟨⟨v, rfl⟩, (⟨hi, hb⟩ | ⟨j, hi, hb⟩)⟩
    · exact ⟨none, _, run_endLoop hb.1 (by simp [record]), hdone D _ (Nat.le_refl _) (hI.putObj _ hi (by simp [L]) hb.1 rfl) (turn (rc' := _) hb).2⟩
    · exact ⟨some j, _, run_endLoop hb.1 (by simp [record]), hstop D j _ (Nat.le_refl _) (hIx.putObj _ hi (by simp [L]) hb.1 rfl) (turn (rc' := _) hb).2⟩
end Go.Proofs.YtgljlclnmnfocaaDoor
