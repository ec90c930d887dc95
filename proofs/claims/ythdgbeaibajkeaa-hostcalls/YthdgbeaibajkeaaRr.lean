/-
  A range over a function, by what its one call does; a round that is left by a return.
-/
import Derived.Test.YthdgbeaibajkeaaIt2
namespace Go.Proofs.Ythdgbeaibajkeaa
open Go.RowKit
set_option linter.unusedVariables false

/-- The loop's record, by its state and the jump that is pending. -/
structure Recd (prm : Array Tmp) (tmps : Array Value) (assign body : Code) (fn : FuncId) (rec : LoopState → Option Code → Loop) : Prop where
  params : ∀ st pe, (rec st pe).params = prm
  tmp : ∀ st pe, (rec st pe).tmps = tmps
  asg : ∀ st pe, (rec st pe).assign = assign
  bod : ∀ st pe, (rec st pe).body = body
  fun_ : ∀ st pe, (rec st pe).fn = fn
  state : ∀ st pe, (rec st pe).state = st
  pend : ∀ st pe, (rec st pe).pending = pe
  with_ : ∀ st pe st' pe', ({ rec st pe with state := st', pending := pe' } : Loop) = rec st' pe'
  with_st : ∀ st pe st', ({ rec st pe with state := st' } : Loop) = rec st' pe

theorem range_raw {P : Program} {g : Operand} {prm : Array Tmp} {assign body : Code} {Q : Exit → Act → World → Prop} {a : Act} {w : World} {n gf : Nat} {lb : Array Value}
    (hg : a.eval g = .func (.func gf) #[] lb) (eg : ∀ args w, (callFunc gf args).run P w = .ok (.enter gf args) w) (h1 : 1 ≤ n)
    (h : ∀ (fn : FuncId) (rec : LoopState → Option Code → Loop) (W1 : World), Recd prm a.tmps assign body fn rec → Below w.heap.size w W1 → W1.heap.size = w.heap.size + 2 →
      W1.heap[w.heap.size]? = some (.deferred (some [])) → W1.heap[w.heap.size + 1]? = some (.loop (rec .ready none)) →
      CallsIn Fence.wide (n - 1) P gf (#[.func (.yield (w.heap.size + 1)) #[] #[]] ++ lb) W1 fun e W2 => (∃ v, e = .returned v) ∧ ∃ st pe, st ≠ .busy ∧ W2.heap[w.heap.size + 1]? = some (.loop (rec st pe)) ∧
        ∀ W3, W3 = W2.putObj (w.heap.size + 1) (.loop (rec .exhausted pe)) →
          (match pe with
           | none => Q .normal { a with defers := { target := .collected w.heap.size, args := #[] } :: a.defers } W3
           | some c => c.wpIn Fence.wide n P Q { a with defers := { target := .collected w.heap.size, args := #[] } :: a.defers } W3)) :
    (Code.rangeFunc g prm assign body).wpIn Fence.wide n P Q a w := by
  refine wpIn_rangeFunc fun fn hfn => ?_
  let rec_ : LoopState → Option Code → Loop := fun st pe => { state := st, pending := pe, fn, tmps := a.tmps, params := prm, assign, body, defers := w.heap.size }
  let W0 := (w.alloc (.deferred (some []))).alloc (.loop (rec_ .ready none))
  refine ⟨w.heap.size + 1, [{ target := .collected w.heap.size, args := #[] }], W0, { target := .fn (.func gf) lb, args := #[.func (.yield (w.heap.size + 1)) #[] #[]] }, W0, gf, #[.func (.yield (w.heap.size + 1)) #[] #[]] ++ lb, W0,
    run_enterLoop_outer _ _ _ _ _, ?_, ?_, ?_, fun _ => h1, ?_⟩
  · simp only [resolve, hg]; simp [go_sem]
  · intro f' hf'; trivial
  · simp [invoke, go_sem, eg]
  refine (h fn rec_ W0 ⟨fun _ _ => rfl, fun _ _ => rfl, fun _ _ => rfl, fun _ _ => rfl, fun _ _ => rfl, fun _ _ => rfl, fun _ _ => rfl, fun _ _ _ _ => rfl, fun _ _ _ => rfl⟩ ?_ ?_ ?_ ?_).mono ?_
  · exact ((Below.refl _ w).alloc (Nat.le_refl _) _).alloc (by simp) _
  · simp [W0]
  · exact blk_later (below_new _ _) (alloc_at rfl)
  · exact alloc_at (by simp)
  · rintro e W2 ⟨⟨v, rfl⟩, st, pe, hst, hl, hq⟩
    exact ⟨pe, _, run_endLoop hl hst, hq _ rfl⟩

/-- The record lies there. -/
def RecAt (L : Nat) (r : Loop) (A : World) : Prop := A.heap[L]? = some (.loop r)
/-- A round that is left by a return. -/
def retPost (R : World → Prop) : Exit → Act → World → Prop
  | .ret, _, W => R W
  | _, _, _ => False
theorem yield_ret {P : Program} {prm : Array Tmp} {tmps : Array Value} {assign body : Code} {fn : FuncId} {rec : LoopState → Option Code → Loop} {L m : Nat} {args : Array Value} {A : World} {R : World → Prop}
    (hr : Recd prm tmps assign body fn rec) (hl : A.heap[L]? = some (.loop (rec .ready none))) (hs : args.size = prm.size)
    (h : assign.wpIn (Fence.wide.inRound L) m P (Exit.then (fun a1 A1 => RecAt L (rec .ready none) A1 ∧
        body.wpIn (Fence.wide.inRound L) m P (retPost fun W3 => W3.heap[L]? = some (.loop (rec .busy none)) ∧ R (W3.putObj L (.loop (rec .done (some .ret))))) a1 (A1.putObj L (.loop (rec .busy none)))) (fun _ _ _ => False))
      { tmps := (prm.zip args).foldl (fun t (p, v) => t.setIfInBounds p v) tmps, defers := [] } A) :
    YieldAt Fence.wide m P L args A fun e B => e = .returned (.bool false) ∧ R B := by
  have hy := run_yield (P := P) (args := args) hl (by rw [hr.params]; exact hs)
  rw [hr.params, hr.tmp, hr.asg, hr.bod, hr.fun_] at hy
  refine ⟨fn, _, assign, body, hy, roundIn_of_wpIn trivial (wpIn_mono h ?_)⟩
  rintro e a1 A1 hq
  cases e with
  | normal =>
    obtain ⟨hl1, hb⟩ := hq
    refine ⟨_, by have := run_beginRound (P := P) hl1 (hr.state _ _); rw [hr.with_st] at this; exact this, wpIn_mono hb ?_⟩
    rintro e a3 W3 hp
    cases e with
    | ret =>
      obtain ⟨h3, h4⟩ := hp
      have := run_endRound (P := P) (some Code.ret) h3
      rw [hr.with_] at this
      exact ⟨_, _, this, rfl, h4⟩
    | normal => exact hp.elim
    | exit id => exact hp.elim
    | goto t => exact hp.elim
    | panic ch => exact hp.elim
    | outgrown => exact hp.elim
  | ret => exact hq.elim
  | exit id => exact hq.elim
  | goto t => exact hq.elim
  | panic ch => exact hq.elim
  | outgrown => exact hq.elim
end Go.Proofs.Ythdgbeaibajkeaa
