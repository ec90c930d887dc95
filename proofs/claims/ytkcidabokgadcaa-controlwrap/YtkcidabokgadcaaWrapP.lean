/-
  A block put around a code: what is open, what ends where, what is wrong. No Go in sight.
-/
import Derived.Test.YtkcidabokgadcaaPure
namespace Go.Proofs.Ytkcidabokgadcaa
set_option linter.unusedVariables false

/-- U is O with a block put around. -/
structure Wd (O U : Nat → Int) (n : Nat) : Prop where
  first : U 0 = 2
  mid : ∀ j, j < n → U (j + 1) = O j
  last : U (n + 1) = 6

/-- A place one further on, or none. -/
def sh (z : Int) : Int := if z = -1 then -1 else z + 1
theorem sh_none : sh (-1) = -1 := rfl
theorem sh_some (k : Nat) : sh (k : Int) = (k : Int) + 1 := by unfold sh; rw [if_neg (by omega)]

/-- What is known one further on. -/
structure Ws (O U : Nat → Int) (k : Nat) : Prop where
  stk : stk U (k + 1) = (stk O k).map (· + 1) ++ [0]
  els : ∀ i, elF U (k + 1) (i + 1) = sh (elF O k i)
  els0 : elF U (k + 1) 0 = -1
  ens : ∀ i, enF U (k + 1) (i + 1) = sh (enF O k i)
  ens0 : enF U (k + 1) 0 = -1

theorem ws_zero {O U : Nat → Int} {n : Nat} (h : Wd O U n) : Ws O U 0 := by
  have hO : isO (U 0) = true := isO_iff.2 (.inl h.first)
  have n5 := isO_ne5 hO
  refine ⟨?_, fun i => ?_, ?_, fun i => ?_, ?_⟩
  · rw [stk_open hO]; rfl
  · rw [elF_same n5.1]; rfl
  · rw [elF_same n5.1]; rfl
  · rw [enF_same n5.2]; rfl
  · rw [enF_same n5.2]; rfl

theorem ws_step {O U : Nat → Int} {n k : Nat} (h : Wd O U n) (hk : k < n) (hs : Ws O U k) (hiv : Iv O k) (he : er O k = 0) (hb : ¬ (O k = 6 ∧ stk O k = [])) : Ws O U (k + 1) := by
  have hU := h.mid k hk
  by_cases h1 : isO (O k) = true
  · have h1' : isO (U (k + 1)) = true := by rw [hU]; exact h1
    have n5 := isO_ne5 h1
    have n5' := isO_ne5 h1'
    refine ⟨?_, fun i => ?_, ?_, fun i => ?_, ?_⟩
    · rw [stk_open h1', stk_open h1, hs.stk]; rfl
    · rw [elF_same n5'.1, elF_same n5.1]; exact hs.els i
    · rw [elF_same n5'.1]; exact hs.els0
    · rw [enF_same n5'.2, enF_same n5.2]; exact hs.ens i
    · rw [enF_same n5'.2]; exact hs.ens0
  have h1f : isO (O k) = false := by simpa using h1
  have h1u : isO (U (k + 1)) = false := by rw [hU]; exact h1f
  by_cases h5 : O k = 5
  · have h5' : U (k + 1) = 5 := by rw [hU]; exact h5
    obtain ⟨t, ht, htk, h4, hel⟩ := er_else h5 he
    have hst : stk U (k + 1) = (t + 1) :: ((stk O t).map (· + 1) ++ [0]) := by rw [hs.stk, ht]; rfl
    have n6 : O k ≠ 6 := by omega
    have n6' : U (k + 1) ≠ 6 := by omega
    refine ⟨?_, fun i => ?_, ?_, fun i => ?_, ?_⟩
    · rw [stk_same h1u n6', stk_same h1f n6]; exact hs.stk
    · rw [elF_else h5' hst, elF_else h5 ht]
      by_cases e : i = t
      · rw [if_pos (by omega), if_pos e]; exact (sh_some k).symm
      · rw [if_neg (by omega), if_neg e]; exact hs.els i
    · rw [elF_else h5' hst, if_neg (by omega)]; exact hs.els0
    · rw [enF_same n6', enF_same n6]; exact hs.ens i
    · rw [enF_same n6']; exact hs.ens0
  have h5' : U (k + 1) ≠ 5 := by omega
  by_cases h6 : O k = 6
  · have h6' : U (k + 1) = 6 := by omega
    rcases stk_cases O k with h0 | ⟨t, htk, hO, ht⟩
    · exact absurd ⟨h6, h0⟩ hb
    have hst : stk U (k + 1) = (t + 1) :: ((stk O t).map (· + 1) ++ [0]) := by rw [hs.stk, ht]; rfl
    have hz : elF O k t = -1 ∨ ∃ j : Nat, elF O k t = j := by
      rcases hiv.els t with h | ⟨j, h, _⟩
      · exact .inl h
      · exact .inr ⟨j, h⟩
    refine ⟨?_, fun i => ?_, ?_, fun i => ?_, ?_⟩
    · rw [stk_end h6', stk_end h6, hst, ht]; rfl
    · rw [elF_same h5', elF_same h5]; exact hs.els i
    · rw [elF_same h5']; exact hs.els0
    · rw [enF_end h6' hst, enF_end h6 ht, hs.els]
      have hiff : (((i + 1 : Nat) : Int) = sh (elF O k t)) ↔ ((i : Int) = elF O k t) := by
        rcases hz with h | ⟨j, h⟩
        · rw [h, sh_none]; omega
        · rw [h, sh_some]; omega
      by_cases e : i = t ∨ (i : Int) = elF O k t
      · rw [if_pos (e.elim (fun x => .inl (by omega)) (fun x => .inr (hiff.2 x))), if_pos e]; exact (sh_some k).symm
      · rw [if_neg (fun x => e (x.elim (fun x => .inl (by omega)) (fun x => .inr (hiff.1 x)))), if_neg e]; exact hs.ens i
    · rw [enF_end h6' hst, hs.els, if_neg]
      · exact hs.ens0
      · rintro (x | x)
        · omega
        · rcases hz with h | ⟨j, h⟩
          · rw [h, sh_none] at x; omega
          · rw [h, sh_some] at x; omega
  · have h6' : U (k + 1) ≠ 6 := by omega
    refine ⟨?_, fun i => ?_, ?_, fun i => ?_, ?_⟩
    · rw [stk_same h1u h6', stk_same h1f h6]; exact hs.stk
    · rw [elF_same h5', elF_same h5]; exact hs.els i
    · rw [elF_same h5']; exact hs.els0
    · rw [enF_same h6', enF_same h6]; exact hs.ens i
    · rw [enF_same h6']; exact hs.ens0

theorem ws_of {O U : Nat → Int} {n : Nat} (h : Wd O U n) : ∀ {k : Nat}, k ≤ n → Okp O k → Ws O U k
  | 0, _, _ => ws_zero h
  | k + 1, hk, ho => by
    have ho' : Okp O k := fun i hi => ho i (by omega)
    exact ws_step h (by omega) (ws_of h (by omega) ho') (iv_of ho') (ho k (by omega)).1 (ho k (by omega)).2

/-- What is wrong one further on: an opener that lies too deep now. -/
theorem ws_er {O U : Nat → Int} {n k : Nat} (h : Wd O U n) (hk : k < n) (hs : Ws O U k) (he : er O k = 0) : er U (k + 1) = if isO (O k) = true ∧ (stk O k).length = 31 then 35 else 0 := by
  have hU := h.mid k hk
  unfold er
  rw [hU]
  by_cases h1 : isO (O k) = true
  · rw [if_pos h1, hs.stk]
    simp only [List.length_append, List.length_map, List.length_cons, List.length_nil]
    by_cases h2 : (stk O k).length = 31
    · rw [if_pos (by omega), if_pos ⟨h1, h2⟩]
    · rw [if_neg (by omega), if_neg (fun x => h2 x.2)]
  · rw [if_neg h1, if_neg (c := isO (O k) = true ∧ _) (fun x => h1 x.1)]
    by_cases h5 : O k = 5
    · rw [if_pos h5]
      obtain ⟨t, ht, htk, h4, hel⟩ := er_else h5 he
      rw [hs.stk, ht]
      simp only [List.map_cons, List.cons_append]
      rw [if_pos]
      exact ⟨by rw [h.mid t (by omega)]; exact h4, by rw [hs.els, hel]; rfl⟩
    · rw [if_neg h5]
theorem ws_end {O U : Nat → Int} {k : Nat} (hs : Ws O U k) : ¬ (U (k + 1) = 6 ∧ stk U (k + 1) = []) := fun h => by
  have := h.2
  rw [hs.stk] at this
  simp at this

theorem res_iter {O : Nat → Int} {n : Nat} : ∀ (pc : Nat), pc ≤ n → Okp O pc → res O (n - pc) pc = res O n 0
  | 0, _, _ => rfl
  | k + 1, hk, h => by
    rw [← res_iter k (by omega) (fun i hi => h i (by omega))]
    exact (res_step (by omega) (h k (by omega)).1 (h k (by omega)).2).symm

theorem wd_er0 {O U : Nat → Int} {n : Nat} (h : Wd O U n) : er U 0 = 0 ∧ ¬ (U 0 = 6 ∧ stk U 0 = []) := by
  refine ⟨?_, fun x => by have := x.1; rw [h.first] at this; cases this⟩
  unfold er
  rw [if_pos (isO_iff.2 (.inl h.first))]
  rfl

/-- So deep, and no deeper may be. -/
def Deep (O : Nat → Int) (n : Nat) : Prop := ∃ k, k < n ∧ isO (O k) = true ∧ (stk O k).length = 31

theorem wd_okp {O U : Nat → Int} {n : Nat} (h : Wd O U n) (hg : Good O n) : ∀ (k : Nat), k ≤ n → (∀ j, j < k → ¬ (isO (O j) = true ∧ (stk O j).length = 31)) → Okp U (k + 1)
  | 0, _, _ => fun i hi => by
    obtain rfl : i = 0 := by omega
    exact wd_er0 h
  | k + 1, hk, hd => fun i hi => by
    by_cases e : i = k + 1
    · subst e
      have ho : Okp O k := fun j hj => hg.2.1 j (by omega)
      have hs := ws_of h (by omega) ho
      have he : er O k = 0 := by
        by_cases e : k = n - 1
        · rw [e]; exact hg.2.2.1
        · exact (hg.2.1 k (by omega)).1
      refine ⟨?_, ws_end hs⟩
      rw [ws_er h (by omega) hs he, if_neg (hd k (by omega))]
    · exact wd_okp h hg k (by omega) (fun j hj => hd j (by omega)) i (by omega)

theorem wd_stk {O U : Nat → Int} {n : Nat} (h : Wd O U n) (hg : Good O n) : stk U (n + 1) = [] := by
  have h0 := hg.1
  have hs := ws_of h (k := n - 1) (by omega) hg.2.1
  have e : n + 1 = (n - 1 + 1) + 1 := by omega
  have h6 : U (n - 1 + 1) = 6 := by rw [h.mid (n - 1) (by omega)]; exact hg.2.2.2.1
  rw [e, stk_end h6, hs.stk, hg.2.2.2.2]
  rfl

theorem er_six {O : Nat → Int} {k : Nat} (h : O k = 6) : er O k = 0 := by
  unfold er
  rw [if_neg (fun x => (isO_ne5 x).2 h), if_neg (by omega)]

/-- Not so deep: it is taken, too. -/
theorem wd_good {O U : Nat → Int} {n : Nat} (h : Wd O U n) (hg : Good O n) (hd : ¬ Deep O n) : Good U (n + 2) := by
  refine ⟨by omega, ?_, er_six h.last, h.last, wd_stk h hg⟩
  exact wd_okp h hg n (Nat.le_refl _) (fun j hj hx => hd ⟨j, hj, hx.1, hx.2⟩)

theorem least {p : Nat → Prop} : ∀ (n : Nat), (∃ k, k < n ∧ p k) → ∃ k, k < n ∧ p k ∧ ∀ j, j < k → ¬ p j
  | 0, ⟨k, hk, _⟩ => by omega
  | n + 1, ⟨k, hk, hp⟩ => by
    by_cases h : ∃ k, k < n ∧ p k
    · obtain ⟨q, h1, h2, h3⟩ := least n h
      exact ⟨q, by omega, h2, h3⟩
    · exact ⟨k, hk, hp, fun j hj hx => h ⟨j, by omega, hx⟩⟩

/-- So deep: refused, as too deep. -/
theorem wd_deep {O U : Nat → Int} {n : Nat} (h : Wd O U n) (hg : Good O n) (hd : Deep O n) : (res U (n + 2) 0).1 = 35 := by
  obtain ⟨k, hk, ⟨h1, h2⟩, h3⟩ := least (p := fun k => isO (O k) = true ∧ (stk O k).length = 31) n hd
  have hk1 : k < n - 1 := by
    have : k ≠ n - 1 := fun e => by
      have := hg.2.2.2.1
      rw [← e] at this
      exact (isO_ne5 h1).2 this
    omega
  have hok := wd_okp h hg k (by omega) h3
  have ho : Okp O k := fun j hj => hg.2.1 j (by omega)
  have hs := ws_of h (by omega) ho
  have he : er U (k + 1) = 35 := by rw [ws_er h hk hs (hg.2.1 k hk1).1, if_pos ⟨h1, h2⟩]
  rw [← res_iter (k + 1) (by omega) hok, res_bad (by omega) (by omega), he]
/-- Then somewhere just as much is open as may be, and nowhere more. -/
theorem deep_most {O : Nat → Int} {n : Nat} (hg : Good O n) (hd : Deep O n) : ∃ i, i < n ∧ (stk O i).length = 32 := by
  obtain ⟨k, hk, h1, h2⟩ := hd
  have : k ≠ n - 1 := fun e => by
    have := hg.2.2.2.1
    rw [← e] at this
    exact (isO_ne5 h1).2 this
  exact ⟨k + 1, by omega, by rw [stk_open h1]; simp [h2]⟩
theorem good_stk_len {O : Nat → Int} {n i : Nat} (hg : Good O n) (hi : i < n) : (stk O i).length ≤ 32 := stk_len (fun j hj => hg.2.1 j (by omega))

/-- All of it, one further on. -/
structure Wf (O U : Nat → Int) (n : Nat) : Prop where
  stk : ∀ i, i < n → stk U (i + 1) = (stk O i).map (· + 1) ++ [0]
  els : ∀ i, elF U (n + 2) (i + 1) = sh (elF O n i)
  els0 : elF U (n + 2) 0 = -1
  ens : ∀ i, enF U (n + 2) (i + 1) = sh (enF O n i)
  ens0 : enF U (n + 2) 0 = n
  own : ∀ i, i < n → owF U (n + 2) (i + 1) = owF O n i + 1
  own0 : owF U (n + 2) 0 = -1
  ownn : owF U (n + 2) (n + 1) = -1

theorem wf_of {O U : Nat → Int} {n : Nat} (h : Wd O U n) (hg : Good O n) : Wf O U n := by
  have h0 := hg.1
  have hs := ws_of h (k := n - 1) (by omega) hg.2.1
  have en : n - 1 + 1 = n := by omega
  have h6 : U n = 6 := by have := h.mid (n - 1) (by omega); rw [en] at this; rw [this]; exact hg.2.2.2.1
  have hst : Go.Proofs.Ytkcidabokgadcaa.stk U n = [0] := by have := hs.stk; rw [en, hg.2.2.2.2] at this; exact this
  have hel : ∀ i, elF U (n + 2) i = elF U n i := fun i => by
    rw [elF_same (k := n + 1) (by rw [h.last]; decide), elF_same (k := n) (by rw [h6]; decide)]
  have hen : ∀ i, enF U (n + 2) i = if i = 0 then (n : Int) else enF U n i := fun i => by
    rw [enF_none (k := n + 1) (wd_stk h hg), enF_end (k := n) h6 hst]
    have e0 : elF U n 0 = -1 := by have := hs.els0; rw [en] at this; exact this
    rw [e0]
    by_cases e : i = 0
    · rw [if_pos (.inl e), if_pos e]
    · rw [if_neg (fun x => x.elim e (fun x => by omega)), if_neg e]
  have hOel : ∀ i, elF O n i = elF O (n - 1) i := fun i => by conv => lhs; rw [← en]
                                                              exact elF_none hg.2.2.2.2 i
  have hOen : ∀ i, enF O n i = enF O (n - 1) i := fun i => by conv => lhs; rw [← en]
                                                              exact enF_none hg.2.2.2.2 i
  have hstk : ∀ i, i < n → Go.Proofs.Ytkcidabokgadcaa.stk U (i + 1) = (Go.Proofs.Ytkcidabokgadcaa.stk O i).map (· + 1) ++ [0] := fun i hi => (ws_of h (by omega) (fun j hj => hg.2.1 j (by omega))).stk
  refine ⟨hstk, fun i => ?_, ?_, fun i => ?_, ?_, fun i hi => ?_, ?_, ?_⟩
  · rw [hel, hOel]; have := hs.els i; rw [en] at this; exact this
  · rw [hel]; have := hs.els0; rw [en] at this; exact this
  · rw [hen, if_neg (by omega), hOen]; have := hs.ens i; rw [en] at this; exact this
  · rw [hen, if_pos rfl]
  · unfold owF
    rw [if_pos (by omega), if_pos hi, hstk i hi]
    rcases stk_cases O i with h | ⟨t, _, _, h⟩
    · rw [h]; rfl
    · rw [h]; simp [top]
  · unfold owF
    rw [if_pos (by omega)]; rfl
  · unfold owF
    rw [if_pos (by omega), wd_stk h hg]; rfl
end Go.Proofs.Ytkcidabokgadcaa
