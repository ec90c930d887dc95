/-
  A range over a function whose iterator writes nothing: what such an iterator owes, and what a loop over it owes.
-/
import Derived.Test.YtfcklkmfdjjfoaaDoorLw
import Derived.RangeFuncWrites
import Derived.RangeFuncCalls
import Derived.RangeFuncLeaves
namespace Go.Proofs.YtfcklkmfdjjfoaaDoor
open Go.RowKit

/-- The cells at these places hold what they held, and may be written as they might. -/
def Keeps (ps : List Addr) (W W' : World) : Prop := ∀ p ∈ ps, ∀ v, W.cell? p = some v → W'.cell? p = some v ∧ W'.frozen? p = W.frozen? p

theorem Keeps.refl (ps : List Addr) (W : World) : Keeps ps W W := fun _ _ _ h => ⟨h, rfl⟩
theorem Keeps.trans {ps : List Addr} {A B C : World} (h : Keeps ps A B) (k : Keeps ps B C) : Keeps ps A C := fun p hp v hv => by
  obtain ⟨h1, h2⟩ := h p hp v hv
  obtain ⟨k1, k2⟩ := k p hp v h1
  exact ⟨k1, k2.trans h2⟩
theorem Keeps.turned {ps : List Addr} (W : World) (l : Nat) (o o' : Obj) (h : W.heap[l]? = some o) (ho : o.isCells = false) : Keeps ps W (W.putObj l o') := fun p _ v hv =>
  have hr : ∀ r, some l = some r → ∃ q : Obj, W.heap[r]? = some q ∧ q.isCells = false := fun r e => by cases e; exact ⟨o, h, ho⟩
  ⟨cell_kept hv (grownBy_putObj' W l o') hr, frozen_kept hv (grownBy_putObj' W l o') hr⟩

/-- What such an iterator owes: from the state s on it hands over 'encs s' while there is more; a round keeps the cells ps. -/
def FeedsS {σ : Type} (F : Fence) (n : Nat) (P : Program) (gf : Nat) (lb : Array Value) (encs : σ → Array Value) (more : σ → Prop) (next : σ → σ) (ps : List Addr) (s0 : σ) (W : World) : Prop :=
  ∀ (l : Nat) (J : σ → World → Prop) (W1 : World), Keeps ps W W1 →
    (∀ s A, more s → J s A → YieldAt F (n - 1) P l (encs s) A fun e B => e = .returned (.bool true) ∧ J (next s) B ∧ Keeps ps A B) →
    J s0 W1 →
    CallsIn F n P gf (#[.func (.yield l) #[] #[]] ++ lb) W1 fun e B => (∃ v, e = .returned v) ∧ ∃ s, ¬ more s ∧ J s B

/-- The way in which the body of a round is left. -/
def LeavesS (B : Nat) (ps : List Addr) (I : World → Prop) (W : World) : Exit → Act → World → Prop
  | .normal, _, W' => KeepsFrom B W W' ∧ Keeps ps W W' ∧ I W'
  | .ret, _, _ => False
  | .exit _, _, _ => False
  | .goto _, _, _ => False
  | .panic _, _, _ => False
  | .outgrown, _, _ => False

/-- The loop over such an iterator: I s W: between two rounds. -/
theorem range_feedsS {σ : Type} {F : Fence} {n : Nat} {P : Program} {g : Operand} {prm : Array Tmp} {assign body : Code} {Q : Exit → Act → World → Prop} {a : Act} {w : World}
    (hro : F.round = none) (h1 : 1 ≤ n) {gf : Nat} {lb : Array Value} (hg : a.eval g = .func (.func gf) #[] lb) (hFg : F.fn gf) (eg : ∀ args w, (callFunc gf args).run P w = .ok (.enter gf args) w)
    {encs : σ → Array Value} {more : σ → Prop} {next : σ → σ} {ps : List Addr} {s0 : σ} (hps : ∀ x, (encs x).size = prm.size)
    (hseq : FeedsS F (n - 1) P gf lb encs more next ps s0 w)
    (I : σ → World → Prop) (hI : OwnFrom w.heap.size I) (h0 : I s0 w) (a₁ : σ → Act)
    (hassign : ∀ (l : Nat) (x : σ) (W : World) (K : Act → World → Prop), K (a₁ x) W →
      assign.wpIn (F.inRound l) (n - 1 - 1) P (Exit.then K (fun _ _ _ => False)) { tmps := (prm.zip (encs x)).foldl (fun t (p, v) => t.setIfInBounds p v) a.tmps, defers := [] } W)
    (hbody : ∀ (l : Nat) (x : σ) (W : World), more x → I x W → body.wpIn (F.inRound l) (n - 1 - 1) P (LeavesS w.heap.size ps (I (next x)) W) (a₁ x) W)
    (hdone : ∀ (D : Nat) (x : σ) (W : World), w.heap.size ≤ D → ¬ more x → I x W → W.heap[D]? = some (.deferred (some [])) → Q .normal { a with defers := { target := .collected D, args := #[] } :: a.defers } W) :
    (Code.rangeFunc g prm assign body).wpIn F n P Q a w := by
  refine wpIn_rangeFunc fun fn hfn => ?_
  rw [hro]
  -- the loop's record, by its state and the jump that is pending
  let record : LoopState → Option Code → Loop := fun st pe => { state := st, pending := pe, fn, tmps := a.tmps, params := prm, assign, body, defers := w.heap.size }
  let D := w.heap.size
  let L := w.heap.size + 1
  let W0 := (w.alloc (.deferred (some []))).alloc (.loop (record .ready none))
  let Book : Loop → World → Prop := fun rc W => W.heap[L]? = some (.loop rc) ∧ W.heap[D]? = some (.deferred (some []))
  have hbook : Book (record .ready none) W0 := by
    constructor
    · have := World.alloc_heap_new (w.alloc (.deferred (some []))) (.loop (record .ready none))
      rwa [World.size_alloc] at this
    · exact (Below.heap_alloc _ _ _ (by simp [D])).trans (World.alloc_heap_new w _)
  -- book-keeping turns the record alone
  have turn : ∀ {rc rc' : Loop} {W : World}, Book rc W → Book rc' (W.putObj L (.loop rc')) := fun h =>
    ⟨World.putObj_heap_same (Array.getElem?_eq_some_iff.1 h.1).1, (World.putObj_heap_other (by simp [L, D])).trans h.2⟩
  have over : ∀ {rc : Loop} {W W' : World}, Book rc W → KeepsFrom D W W' → Book rc W' := fun h k =>
    ⟨k.same _ _ (by simp [L, D]) h.1 rfl, k.same _ _ (Nat.le_refl _) h.2 rfl⟩
  have hk0 : Keeps ps w W0 := fun p _ v hv => by
    have g1 := World.grownBy_alloc w (.deferred (some [])) none
    have g2 := World.grownBy_alloc (w.alloc (.deferred (some []))) (.loop (record .ready none)) none
    have e1 := cell_kept hv g1 (fun r e => by cases e)
    exact ⟨cell_kept e1 g2 (fun r e => by cases e), (frozen_kept e1 g2 (fun r e => by cases e)).trans (frozen_kept hv g1 (fun r e => by cases e))⟩
  refine ⟨L, [{ target := .collected D, args := #[] }], W0, { target := .fn (.func gf) lb, args := #[.func (.yield L) #[] #[]] }, W0, gf, #[.func (.yield L) #[] #[]] ++ lb, W0,
    run_enterLoop_outer _ _ _ _ _, ?_, ?_, ?_, fun _ => h1, ?_⟩
  · simp only [resolve, hg]; simp [go_sem]
  · intro f' hf'; simp [Target.leads] at hf'; subst hf'; exact hFg
  · simp [invoke, go_sem, eg]
  refine (hseq L (fun s W => I s W ∧ Book (record .ready none) W) W0 hk0 ?_ ⟨hI.alloc _ (hI.alloc _ h0), hbook⟩).mono ?_
  · -- one round
    rintro x W hm ⟨hi, hb⟩
    have hy := run_yield (P := P) (args := encs x) hb.1 (hps x)
    refine ⟨fn, _, assign, body, hy, roundIn_of_wpIn hfn (hassign _ x W _ ⟨_, run_beginRound hb.1 rfl, ?_⟩)⟩
    have hb2 : Book { record .ready none with state := .busy } (W.putObj L (.loop { record .ready none with state := .busy })) := turn hb
    refine wpIn_mono (hbody _ x _ hm (hI.putObj _ hi (by simp [L]) hb.1 rfl)) ?_
    rintro e a3 W3 hp
    cases e with
    | normal =>
      obtain ⟨hk3, hkp3, hi3⟩ := hp
      have hb3 := over hb2 hk3
      exact ⟨_, _, run_endRound none hb3.1, rfl, ⟨hI.putObj _ hi3 (by simp [L]) hb3.1 rfl, turn hb3⟩, ((Keeps.turned _ _ _ _ hb.1 rfl).trans hkp3).trans (Keeps.turned _ _ _ _ hb3.1 rfl)⟩
    | ret => exact hp.elim
    | exit id => exact hp.elim
    | goto t => exact hp.elim
    | panic ch => exact hp.elim
    | outgrown => exact hp.elim
  · -- behind the iterator
    rintro e W2 ⟨⟨v, rfl⟩, s, hm, hi, hb⟩
    exact ⟨none, _, run_endLoop hb.1 (by simp [record]), hdone D s _ (Nat.le_refl _) hm (hI.putObj _ hi (by simp [L]) hb.1 rfl) (turn (rc' := _) hb).2⟩
end Go.Proofs.YtfcklkmfdjjfoaaDoor
