/-
  Plain facts: what Write tells of two states is the same just if the states are alike.
-/
import Derived.Test.YtbdjghokedfkfaaDoorWm
namespace Go.Proofs.YtbdjghokedfkfaaDoor
open Go.RowKit
set_option linter.unusedVariables false
set_option maxRecDepth 100000

theorem lE_map {α β : Type} [DecidableEq β] {f : α → α → Bool} {g : α → β} (h : ∀ x y, f x y = decide (g x = g y)) (l1 l2 : List α) : lE f l1 l2 = decide (l1.map g = l2.map g) := by
  by_cases hq : l1.map g = l2.map g
  · rw [decide_eq_true hq]
    have hl : l1.length = l2.length := by have := congrArg List.length hq; simpa using this
    refine lE_yes hl (fun i x y hx hy => ?_)
    rw [h]
    have h1 : (l1.map g)[i]? = some (g x) := by rw [List.getElem?_map, hx]; rfl
    have h2 : (l2.map g)[i]? = some (g y) := by rw [List.getElem?_map, hy]; rfl
    rw [hq, h2] at h1
    have := Option.some.inj h1
    simp [this]
  · rw [decide_eq_false hq]
    by_cases hl : l1.length = l2.length
    · have : ∃ (i : Nat) (x y : α), l1[i]? = some x ∧ l2[i]? = some y ∧ g x ≠ g y := by
        refine Classical.byContradiction (fun hn => hq ?_)
        apply List.ext_getElem?
        intro i
        rw [List.getElem?_map, List.getElem?_map]
        cases hx : l1[i]? with
        | none =>
          have : l2[i]? = none := by rw [List.getElem?_eq_none_iff] at hx ⊢; omega
          rw [this]
        | some x =>
          have hi := lt_of_get hx
          obtain ⟨y, hy⟩ : ∃ y, l2[i]? = some y := ⟨_, List.getElem?_eq_getElem (by omega)⟩
          rw [hy]
          have : g x = g y := Classical.byContradiction (fun hne => hn ⟨i, x, y, hx, hy, hne⟩)
          simp [this]
      obtain ⟨i, x, y, hx, hy, hne⟩ := this
      exact lE_no hx hy (by rw [h]; simp [hne])
    · exact lE_len hl
theorem frE_is (x y : FrM) : frE x y = decide (plF x = plF y) := by
  unfold frE
  rw [lE_int, lE_int]
  obtain ⟨a, b, ⟨_, c⟩, ⟨_, d⟩⟩ := x
  obtain ⟨a', b', ⟨_, c'⟩, ⟨_, d'⟩⟩ := y
  simp [iE, plF]
theorem pgE_is (x y : PgM) : pgE x y = decide (x.2 = y.2) := by
  unfold pgE
  rw [lE_int]
theorem stE_is (s t : StM) : stE s t = true ↔ plS s = plS t := by
  rw [stE_one, lE_map (g := plF) frE_is, lE_map (g := fun p : PgM => p.2) pgE_is, lE_int, lE_int]
  simp only [iE, Bool.and_eq_true, decide_eq_true_eq, plS, StP.mk.injEq]
  constructor
  · rintro ⟨h1, h2, h3, h4, h5, h6, h7, h8⟩
    exact ⟨h2, h3, h4, h1, h8, h6, h7, h5⟩
  · rintro ⟨h1, h2, h3, h4, h5, h6, h7, h8⟩
    exact ⟨h4, h1, h2, h3, h8, h6, h7, h5⟩
theorem idx_pl {ps qs : List PgM} (h : ps.map (fun p => p.2) = qs.map (fun p => p.2)) : idx ps = idx qs := by
  have hl : ps.length = qs.length := by have := congrArg List.length h; simpa using this
  unfold idx idxTo
  rw [hl]
  congr 2
  funext i
  have h1 : ∀ (l : List PgM), (l[i]?).elim false (fun x : PgM => decide (x.2 ≠ Zp)) = ((l.map (fun p => p.2))[i]?).elim false (fun x : List Int => decide (x ≠ Zp)) := fun l => by
    rw [List.getElem?_map]
    cases l[i]? <;> rfl
  rw [h1 ps, h1 qs, h]
theorem encP_pl {ps qs : List PgM} (h : ps.map (fun p => p.2) = qs.map (fun p => p.2)) : encP ps = encP qs := by
  have hl : ps.length = qs.length := by have := congrArg List.length h; simpa using this
  have hk : encK ps = encK qs := by
    funext k
    unfold encK
    have h1 : ∀ (l : List PgM), (l[k.toNat]?).elim ([] : List Int) (fun x => x.2) = ((l.map (fun p => p.2))[k.toNat]?).elim [] id := fun l => by
      rw [List.getElem?_map]
      cases l[k.toNat]? <;> rfl
    rw [h1 ps, h1 qs, h]
  unfold encP
  rw [hl, idx_pl h, hk]
theorem encFs_pl {l l' : List FrM} (h : l.map plF = l'.map plF) : encFs l = encFs l' := by
  have hl : l.length = l'.length := by have := congrArg List.length h; simpa using this
  have hf : ∀ (l : List FrM), l.flatMap encF = (l.map plF).flatMap (fun x => uvar (u64 x.1) ++ uvar (u64 x.2.1) ++ encL x.2.2.1 ++ encL x.2.2.2) := fun l => by
    induction l with
    | nil => rfl
    | cons x l ih => rw [List.flatMap_cons, List.map_cons, List.flatMap_cons, ih]; rfl
  unfold encFs
  rw [hl, hf l, hf l', h]
theorem encS_pl {s t : StM} (h : plS s = plS t) : encS s = encS t := by
  simp only [plS, StP.mk.injEq] at h
  obtain ⟨h1, h2, h3, h4, h5, h6, h7, h8⟩ := h
  unfold encS
  rw [h1, h2, h3, h4, h5, h6, encP_pl h7, encFs_pl h8]
/-- SnapUnlike's heart. -/
theorem unlike {s t : StM} (hs : (wrV s).2 = false) (ht : (wrV t).2 = false) (rs : RgS s) (rt : RgS t) : lE iE (wrV s).1 (wrV t).1 = stE s t := by
  have a := stW_is hs
  have b := stW_is ht
  have e1 : (wrV s).1 = mgc ++ encS s := by show (stW s (mgc, false)).1 = _; rw [a.2]
  have e2 : (wrV t).1 = mgc ++ encS t := by show (stW t (mgc, false)).1 = _; rw [b.2]
  rw [lE_int, e1, e2]
  by_cases h : stE s t = true
  · rw [h]
    have := encS_pl ((stE_is s t).1 h)
    simp [this]
  · have hf : stE s t = false := by simpa using h
    rw [hf, decide_eq_false]
    intro hh
    have he : encS s = encS t := List.append_cancel_left hh
    have g1 := (st_back mgc [] s a.1 rs).1
    have g2 := (st_back mgc [] t b.1 rt).1
    rw [he] at g1
    exact h ((stE_is s t).2 (g1.symm.trans g2))
/-- What is written is read without an error. -/
theorem rd_back {s : StM} (hs : (wrV s).2 = false) (rs : RgS s) (hl : (wrV s).1.length ≤ 524288) : rdE (wrV s).1 = (0, 0) ∧ stP (wrV s).1 (5, 0) = plS s := by
  have a := stW_is hs
  have e1 : (wrV s).1 = mgc ++ encS s ++ [] := by show (stW s (mgc, false)).1 = _; rw [a.2]; simp
  have g := st_back mgc [] s a.1 rs
  rw [← e1] at g
  have hlen : (wrV s).1.length = mgc.length + (encS s).length := by rw [e1]; simp
  have hp : pfx (wrV s).1 = true := by
    unfold pfx
    rw [e1]
    simp [mgc]
  have hf : fnR (wrV s).1 (r8 (wrV s).1 (5, 0)).2 = at0 (mgc.length + (encS s).length) := by
    have h8 : (r8 (wrV s).1 (5, 0)).2 = at0 (mgc.length + (encS s).length) := g.2
    rw [h8]
    unfold fnR
    rw [if_neg (by rw [hlen]; simp)]
  refine ⟨?_, g.1⟩
  unfold rdE
  rw [if_neg (by omega), if_neg (by rw [hp]; decide), hf]
  rfl
end Go.Proofs.YtbdjghokedfkfaaDoor
