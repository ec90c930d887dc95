/-
  Plain facts: what Write tells of two states is the same just if the states are alike.
-/
import Derived.Test.YtbdjghokedfkfaaDoorJWk
namespace Go.Proofs.YtbdjghokedfkfaaDoor
open Go.RowKit
set_option linter.unusedVariables false
set_option maxRecDepth 100000

theorem lE_map {α β : Type} [DecidableEq β] {f : α → α → Bool} {g : α → β} (h : ∀ x y, f x y = decide (g x = g y)) (l1 l2 : List α) : lE f l1 l2 = decide (l1.map g = l2.map g) := by
  by_cases hq : l1.map g = l2.map g
  · rw [decide_eq_true hq]
    have hl : l1.length = l2.length := by have := congrArg List.length hq; simpa using this
    refine lE_yes hl (fun i x y hx hy => ?_)
    rw [h]
    have h1 : (l1.map g)[i]? = some (g x) := by rw [List.getElem?_map, hx]; rfl
    have h2 : (l2.map g)[i]? = some (g y) := by rw [List.getElem?_map, hy]; rfl
    rw [hq, h2] at h1
    have := Option.some.inj h1
    simp [this]
  · rw [decide_eq_false hq]
    by_cases hl : l1.length = l2.length
    · have : ∃ (i : Nat) (x y : α), l1[i]? = some x ∧ l2[i]? = some y ∧ g x ≠ g y := by
        refine Classical.byContradiction (fun hn => hq ?_)
        apply List.ext_getElem?
        intro i
        rw [List.getElem?_map, List.getElem?_map]
        cases hx : l1[i]? with
        | none =>
          have : l2[i]? = none := by rw [List.getElem?_eq_none_iff] at hx ⊢; omega
          rw [this]
        | some x =>
          have hi := lt_of_get hx
          obtain ⟨y, hy⟩ : ∃ y, l2[i]? = some y := ⟨_, List.getElem?_eq_getElem (by omega)⟩
          rw [hy]
          have : g x = g y := Classical.byContradiction (fun hne => hn ⟨i, x, y, hx, hy, hne⟩)
          simp [this]
      obtain ⟨i, x, y, hx, hy, hne⟩ := this
      exact lE_no hx hy (by rw [h]; simp [hne])
    · exact lE_len hl
theorem frE_is (x y : FrM) : frE x y = decide (plF x = plF y) := by
  unfold frE
  rw [lE_int, lE_int]
  obtain ⟨a, b, ⟨_, c⟩, ⟨_, d⟩⟩ := x
  obtain ⟨a', b', ⟨_, c'⟩, ⟨_, d'⟩⟩ := y
  simp [iE, plF]
theorem pgE_is (x y : PgM) : pgE x y = decide (x.2 = y.2) := by
  unfold pgE
  rw [lE_int]
theorem stE_is (s t : StM) : stE s t = true ↔ plS s = plS t := by
  rw [stE_one, lE_map (g := plF) frE_is, lE_map (g := fun p : PgM => p.2) pgE_is, lE_int, lE_int]
  simp only [iE, Bool.and_eq_true, decide_eq_true_eq, plS, StP.mk.injEq]
  constructor
  · rintro ⟨h1, h2, h3, h4, h5, h6, h7, h8⟩
    exact ⟨h2, h3, h4, h1, h8, h6, h7, h5⟩
  · rintro ⟨h1, h2, h3, h4, h5, h6, h7, h8⟩
    exact ⟨h4, h1, h2, h3, h8, h6, h7, h5⟩
theorem idx_pl {ps qs : List PgM} (h : ps.map (fun p => p.2) = qs.map (fun p => p.2)) : idx ps = idx qs := by
  have hl : ps.length = qs.length := by have := congrArg List.length h; simpa using this
  unfold idx idxTo
  rw [hl]
  congr 2
  funext i
  have h1 : ∀ (l : List PgM), (l[i]?).elim false (fun x : PgM => decide (x.2 ≠ Zp)) = ((l.map (fun p => p.2))[i]?).elim false (fun x : List Int => decide (x ≠ Zp)) := fun l => by
    rw [List.getElem?_map]
    cases l[i]? <;> rfl
  rw [h1 ps, h1 qs, h]
theorem encP_pl {ps qs : List PgM} (h : ps.map (fun p => p.2) = qs.map (fun p => p.2)) : encP ps = encP qs := by
  have hl : ps.length = qs.length := by have := congrArg List.length h; simpa using this
  have hk : encK ps = encK qs := by
    funext k
    unfold encK
    have h1 : ∀ (l : List PgM), (l[k.toNat]?).elim ([] : List Int) (fun x => x.2) = ((l.map (fun p => p.2))[k.toNat]?).elim [] id := fun l => by
      rw [List.getElem?_map]
      cases l[k.toNat]? <;> rfl
    rw [h1 ps, h1 qs, h]
  unfold encP
  rw [hl, idx_pl h, hk]
theorem encFs_pl {l l' : List FrM} (h : l.map plF = l'.map plF) : encFs l = encFs l' := by
  have hl : l.length = l'.length := by have := congrArg List.length h; simpa using this
  have hf : ∀ (l : List FrM), l.flatMap encF = (l.map plF).flatMap (fun x => uvar (u64 x.1) ++ uvar (u64 x.2.1) ++ encL x.2.2.1 ++ encL x.2.2.2) := fun l => by
    induction l with
    | nil => rfl
    | cons x l ih => rw [List.flatMap_cons, List.map_cons, List.flatMap_cons, ih]; rfl
  unfold encFs
  rw [hl, hf l, hf l', h]
theorem encS_pl {s t : StM} (h : plS s = plS t) : encS s = encS t := by
  simp only [plS, StP.mk.injEq] at h
  obtain ⟨h1, h2, h3, h4, h5, h6, h7, h8⟩ := h
  unfold encS
  rw [h1, h2, h3, h4, h5, h6, encP_pl h7, encFs_pl h8]
/-- SnapUnlike's heart. -/
theorem unlike {s t : StM} (hs : (wrV s).2 = false) (ht : (wrV t).2 = false) (rs : RgS s) (rt : RgS t) : lE iE (wrV s).1 (wrV t).1 = stE s t := by
  have a := stW_is hs
  have b := stW_is ht
  have e1 : (wrV s).1 = mgc ++ encS s := by show (stW s (mgc, false)).1 = _; rw [a.2]
  have e2 : (wrV t).1 = mgc ++ encS t := by show (stW t (mgc, false)).1 = _; rw [b.2]
  rw [lE_int, e1, e2]
  by_cases h : stE s t = true
  · rw [h]
    have := encS_pl ((stE_is s t).1 h)
    simp [this]
  · have hf : stE s t = false := by simpa using h
    rw [hf, decide_eq_false]
    intro hh
    have he : encS s = encS t := List.append_cancel_left hh
    have g1 := (st_back mgc [] s a.1 rs).1
    have g2 := (st_back mgc [] t b.1 rt).1
    rw [he] at g1
    exact h ((stE_is s t).2 (g1.symm.trans g2))
/-- What is written is read without an error. -/
theorem rd_back {s : StM} (hs : (wrV s).2 = false) (rs : RgS s) (hl : (wrV s).1.length ≤ 524288) : rdE (wrV s).1 = (0, 0) ∧ stP (wrV s).1 (5, 0) = plS s := by
  have a := stW_is hs
  have e1 : (wrV s).1 = mgc ++ encS s ++ [] := by show (stW s (mgc, false)).1 = _; rw [a.2]; simp
  have g := st_back mgc [] s a.1 rs
  rw [← e1] at g
  have hlen : (wrV s).1.length = mgc.length + (encS s).length := by rw [e1]; simp
  have hp : pfx (wrV s).1 = true := by
    unfold pfx
    rw [e1]
    simp [mgc]
  have hf : fnR (wrV s).1 (r8 (wrV s).1 (5, 0)).2 = at0 (mgc.length + (encS s).length) := by
    have h8 : (r8 (wrV s).1 (5, 0)).2 = at0 (mgc.length + (encS s).length) := g.2
    rw [h8]
    unfold fnR
    rw [if_neg (by rw [hlen]; simp)]
  refine ⟨?_, g.1⟩
  unfold rdE
  rw [if_neg (by omega), if_neg (by rw [hp]; decide), hf]
  rfl
end Go.Proofs.YtbdjghokedfkfaaDoor

/-
  Plain facts: what is read without an error is written as the same bytes.
-/
namespace Go.Proofs.YtbdjghokedfkfaaDoor
open Go.RowKit
set_option linter.unusedVariables false
set_option maxRecDepth 100000

/-- From a place on stand these bytes, and the reader is behind them. -/
structure Got (zs : List Int) (p : Nat) (bs : List Int) (st : RS) : Prop where
  st : st = at0 (p + bs.length)
  le : p + bs.length ≤ zs.length
  eq : zs.drop p = bs ++ zs.drop (p + bs.length)
theorem Got.app {zs : List Int} {p : Nat} {b1 b2 : List Int} {s1 s2 : RS} (h1 : Got zs p b1 s1) (h2 : Got zs (p + b1.length) b2 s2) : Got zs p (b1 ++ b2) s2 := by
  have e : p + (b1 ++ b2).length = p + b1.length + b2.length := by rw [List.length_append]; omega
  refine ⟨?_, ?_, ?_⟩
  · rw [e]; exact h2.st
  · rw [e]; exact h2.le
  · rw [e, h1.eq, h2.eq, List.append_assoc]
theorem Got.nil {zs : List Int} {p : Nat} (h : p ≤ zs.length) : Got zs p [] (at0 p) := ⟨rfl, by simpa using h, by simp⟩
theorem tkR_err {v next e : Int} {st : RS} (h : (tkR v next e st).2.2 = 0) : st.2 = 0 ∧ e = 0 ∧ tkR v next e st = (v, (next, 0)) := by
  unfold tkR at h ⊢
  by_cases h1 : st.2 = 0
  · rw [if_pos h1] at h ⊢
    by_cases h2 : e = 0
    · rw [if_pos h2]; exact ⟨h1, h2, rfl⟩
    · rw [if_neg h2] at h; exact absurd h h2
  · rw [if_neg h1] at h; exact absurd h h1
theorem nm_err {zs : List Int} {most above : Int} {st : RS} (h : (nmR zs most above st).2.2 = 0) : st.2 = 0 := (tkR_err h).1
theorem same_got {zs : List Int} {p : Nat} {v q : Int} (hz : ∀ z ∈ zs, 0 ≤ z ∧ z ≤ 255) (h : ruAt zs (p : Int) = (v, q, 0)) : 0 ≤ v ∧ v < 18446744073709551616 ∧ Got zs p (uvar v) (q, 0) := by
  obtain ⟨h1, h2, h3, h4, h5, h6⟩ := read_same zs p v q hz h
  rw [Int.toNat_natCast] at h1
  have hl : (uvar v).length = (q - p).toNat := by rw [← h1, List.length_take, List.length_drop]; omega
  refine ⟨h2, h3, ?_, ?_, ?_⟩
  · show (q, (0 : Int)) = (((p + (uvar v).length : Nat) : Int), 0)
    rw [hl]
    congr 1
    omega
  · rw [hl]; omega
  · have := List.take_append_drop (q - p).toNat (zs.drop p)
    rw [h1, List.drop_drop] at this
    rw [hl]
    exact this.symm
theorem nm_got {zs : List Int} {most above : Int} {p : Nat} (hz : ∀ z ∈ zs, 0 ≤ z ∧ z ≤ 255) (ha : above ≠ 0 ∨ most = 18446744073709551615) (h : (nmR zs most above (at0 p)).2.2 = 0) :
    0 ≤ (nmR zs most above (at0 p)).1 ∧ (nmR zs most above (at0 p)).1 ≤ most ∧ (nmR zs most above (at0 p)).1 < 18446744073709551616 ∧ Got zs p (uvar (nmR zs most above (at0 p)).1) (nmR zs most above (at0 p)).2 := by
  obtain ⟨_, he, hq⟩ := tkR_err h
  have hn : nmR zs most above (at0 p) = ((ruAt zs (p : Int)).1, ((ruAt zs (p : Int)).2.1, 0)) := hq
  rw [hn]
  have hr := ruAt_range zs p hz
  unfold nmE at he
  obtain ⟨v, q, c, hv⟩ : ∃ v q c, ruAt zs (p : Int) = (v, q, c) := ⟨_, _, _, rfl⟩
  rw [hv] at hr
  have he2 : (if c = 0 ∧ most < v then above else c) = 0 := by
    have : (ruAt zs (at0 p).1) = (v, q, c) := hv
    rw [this] at he
    exact he
  rw [hv]
  simp only at hr ⊢
  have hc : c = 0 ∧ v ≤ most := by
    by_cases hb : c = 0 ∧ most < v
    · rw [if_pos hb] at he2
      omega
    · rw [if_neg hb] at he2
      exact ⟨he2, by omega⟩
  rw [hc.1] at hv
  obtain ⟨g1, g2, g3⟩ := same_got hz hv
  exact ⟨g1, hc.2, g2, g3⟩
theorem oc_err {zs : List Int} {least most : Int} {st : RS} (h : (ocR zs least most st).2.2 = 0) : st.2 = 0 := by
  unfold ocR at h
  split at h
  · exact (tkR_err h).1
  · split at h
    · exact (tkR_err h).1
    · exact (tkR_err h).1
theorem oc_got {zs : List Int} {least most : Int} {p : Nat} (hp : p ≤ zs.length) (h : (ocR zs least most (at0 p)).2.2 = 0) :
    least ≤ (ocR zs least most (at0 p)).1 ∧ (ocR zs least most (at0 p)).1 ≤ most ∧ Got zs p [(ocR zs least most (at0 p)).1] (ocR zs least most (at0 p)).2 := by
  unfold ocR at h ⊢
  by_cases h1 : (at0 p).1 = (zs.length : Int)
  · rw [if_pos h1] at h; have := (tkR_err h).2.1; omega
  · rw [if_neg h1] at h ⊢
    by_cases h2 : zs.getD (at0 p).1.toNat 0 < least ∨ most < zs.getD (at0 p).1.toNat 0
    · rw [if_pos h2] at h; have := (tkR_err h).2.1; omega
    · rw [if_neg h2] at h ⊢
      rw [(tkR_err h).2.2]
      have h3 : p < zs.length := by
        have : ¬ ((p : Int) = (zs.length : Int)) := h1
        omega
      have e : (at0 p).1.toNat = p := Int.toNat_natCast p
      rw [e] at h2 ⊢
      refine ⟨by simp only; omega, by simp only; omega, ?_, ?_, ?_⟩
      · simp
      · show p + 1 ≤ zs.length; omega
      · rw [List.drop_eq_getElem_cons h3]
        simp [List.getD, h3]
theorem rl_err {α : Type} {f : RS → α × RS} (hf : ∀ st, (f st).2.2 = 0 → st.2 = 0) : ∀ (k : Nat) (st : RS), (rlR f k st).2.2 = 0 → st.2 = 0
  | 0, st, h => h
  | k + 1, st, h => rl_err hf k st (hf _ h)
theorem rl_got {α : Type} {f : RS → α × RS} {enc : α → List Int} {G : α → Prop} {zs : List Int} (hf : ∀ st, (f st).2.2 = 0 → st.2 = 0)
    (hg : ∀ p : Nat, p ≤ zs.length → (f (at0 p)).2.2 = 0 → G (f (at0 p)).1 ∧ Got zs p (enc (f (at0 p)).1) (f (at0 p)).2) (p : Nat) (hp : p ≤ zs.length) :
    ∀ k : Nat, (rlR f k (at0 p)).2.2 = 0 → (∀ x ∈ (rlR f k (at0 p)).1, G x) ∧ Got zs p ((rlR f k (at0 p)).1.flatMap enc) (rlR f k (at0 p)).2
  | 0, h => ⟨fun x hx => (by cases hx), Got.nil hp⟩
  | k + 1, h => by
    have h0 : (f (rlR f k (at0 p)).2).2.2 = 0 := h
    obtain ⟨i1, i2⟩ := rl_got hf hg p hp k (hf _ h0)
    rw [i2.st] at h0
    obtain ⟨j1, j2⟩ := hg _ i2.le h0
    have e : rlR f (k + 1) (at0 p) = ((rlR f k (at0 p)).1 ++ [(f (at0 (p + ((rlR f k (at0 p)).1.flatMap enc).length))).1], (f (at0 (p + ((rlR f k (at0 p)).1.flatMap enc).length))).2) := by
      show ((rlR f k (at0 p)).1 ++ [(f (rlR f k (at0 p)).2).1], (f (rlR f k (at0 p)).2).2) = _
      rw [i2.st]
    rw [e]
    refine ⟨fun x hx => ?_, ?_⟩
    · rcases List.mem_append.1 hx with hx | hx
      · exact i1 x hx
      · rw [List.mem_singleton.1 hx]; exact j1
    · simp only
      rw [List.flatMap_append]
      have := i2.app j2
      simpa using this
def U64 (v : Int) : Prop := 0 ≤ v ∧ v < 18446744073709551616
theorem ls_err {zs : List Int} {most : Int} {st : RS} (h : (lsR zs most st).2.2 = 0) : st.2 = 0 := nm_err (rl_err (fun _ h => nm_err h) _ _ h)
theorem ls_got {zs : List Int} {most : Int} {p : Nat} (hz : ∀ z ∈ zs, 0 ≤ z ∧ z ≤ 255) (hm : 0 ≤ most) (h : (lsR zs most (at0 p)).2.2 = 0) :
    ((lsR zs most (at0 p)).1.length : Int) ≤ most ∧ (∀ v ∈ (lsR zs most (at0 p)).1, U64 v) ∧ Got zs p (encL (lsR zs most (at0 p)).1) (lsR zs most (at0 p)).2 := by
  have h1 : (nmR zs most 20 (at0 p)).2.2 = 0 := rl_err (fun _ h => nm_err h) _ _ h
  obtain ⟨a1, a2, a3, a4⟩ := nm_got hz (.inl (by decide)) h1
  have hl : ((lsR zs most (at0 p)).1.length : Int) = (nmR zs most 20 (at0 p)).1 := by
    unfold lsR
    rw [rlR_len]
    omega
  have e : lsR zs most (at0 p) = rlR (vlR zs) (nmR zs most 20 (at0 p)).1.toNat (nmR zs most 20 (at0 p)).2 := rfl
  have e2 := e
  rw [a4.st] at e2
  rw [e2] at h
  obtain ⟨b1, b2⟩ := rl_got (f := vlR zs) (enc := uvar) (G := U64) (fun _ h => nm_err h) (fun q hq hh => by
    obtain ⟨c1, c2, c3, c4⟩ := nm_got (most := 18446744073709551615) (above := 0) hz (.inr rfl) hh
    exact ⟨⟨c1, c3⟩, c4⟩) _ a4.le _ h
  rw [← e2] at b1 b2
  refine ⟨by omega, b1, ?_⟩
  unfold encL
  rw [hl]
  exact a4.app b2
/-- A frame as it was read. -/
def encFp (x : FrP) : List Int := uvar x.1 ++ uvar x.2.1 ++ encL x.2.2.1 ++ encL x.2.2.2
structure OkF (x : FrP) : Prop where
  f : 0 ≤ x.1 ∧ x.1 ≤ 127
  p : 0 ≤ x.2.1 ∧ x.2.1 ≤ 2047
  l : x.2.2.1.length ≤ 64
  s : x.2.2.2.length ≤ 256
  lr : ∀ v ∈ x.2.2.1, U64 v
  sr : ∀ v ∈ x.2.2.2, U64 v
theorem fr_err {zs : List Int} {st : RS} (h : (frR zs st).2.2 = 0) : st.2 = 0 := nm_err (nm_err (ls_err (ls_err h)))
theorem fr_got {zs : List Int} {p : Nat} (hz : ∀ z ∈ zs, 0 ≤ z ∧ z ≤ 255) (h : (frR zs (at0 p)).2.2 = 0) : OkF (frR zs (at0 p)).1 ∧ Got zs p (encFp (frR zs (at0 p)).1) (frR zs (at0 p)).2 := by
  have h4 : (lsR zs 256 (lsR zs 64 (nmR zs 2047 17 (nmR zs 127 17 (at0 p)).2).2).2).2.2 = 0 := h
  have h3 : (lsR zs 64 (nmR zs 2047 17 (nmR zs 127 17 (at0 p)).2).2).2.2 = 0 := ls_err h4
  have h2 : (nmR zs 2047 17 (nmR zs 127 17 (at0 p)).2).2.2 = 0 := ls_err h3
  have h1 : (nmR zs 127 17 (at0 p)).2.2 = 0 := nm_err h2
  obtain ⟨a1, a2, a3, a4⟩ := nm_got hz (.inl (by decide)) h1
  unfold frR
  generalize nmR zs 127 17 (at0 p) = x1 at *
  rw [a4.st] at h2 h3 h4 ⊢
  obtain ⟨b1, b2, b3, b4⟩ := nm_got hz (.inl (by decide)) h2
  generalize nmR zs 2047 17 (at0 (p + (uvar x1.1).length)) = x2 at *
  rw [b4.st] at h3 h4 ⊢
  obtain ⟨c1, c2, c3⟩ := ls_got hz (by decide) h3
  generalize lsR zs 64 (at0 (p + (uvar x1.1).length + (uvar x2.1).length)) = x3 at *
  rw [c3.st] at h4 ⊢
  obtain ⟨d1, d2, d3⟩ := ls_got hz (by decide) h4
  generalize lsR zs 256 (at0 (p + (uvar x1.1).length + (uvar x2.1).length + (encL x3.1).length)) = x4 at *
  refine ⟨⟨⟨a1, a2⟩, ⟨b1, b2⟩, by simp only; omega, by simp only; omega, c2, d2⟩, ?_⟩
  have g2 := Got.app ⟨rfl, a4.le, a4.eq⟩ b4
  have g3 := g2.app (by rw [List.length_append, ← Nat.add_assoc]; exact c3)
  have g4 := g3.app (by rw [List.length_append, List.length_append, ← Nat.add_assoc, ← Nat.add_assoc]; exact d3)
  exact g4
end Go.Proofs.YtbdjghokedfkfaaDoor

/-
  Plain facts: pages that are read without an error are written as the same bytes.
-/
namespace Go.Proofs.YtbdjghokedfkfaaDoor
open Go.RowKit
set_option linter.unusedVariables false
set_option maxRecDepth 100000

theorem flat_congr {α β : Type} {f g : α → List β} : ∀ {l : List α}, (∀ x ∈ l, f x = g x) → l.flatMap f = l.flatMap g
  | [], _ => rfl
  | x :: l, h => by
    rw [List.flatMap_cons, List.flatMap_cons, h x (by simp), flat_congr (fun y hy => h y (by simp [hy]))]
/-- The numbers of the pages that are not all nought. -/
def idxQ (q : List (List Int)) : List Int := ((List.range q.length).filter fun i => (q[i]?).elim false fun (x : List Int) => decide (x ≠ Zp)).map (fun (i : Nat) => (i : Int))
def encQ (q : List (List Int)) (k : Int) : List Int := uvar k ++ (q[k.toNat]?).elim [] id
theorem idx_Q (ps : List PgM) : idx ps = idxQ (ps.map (fun p => p.2)) := by
  unfold idx idxTo idxQ
  rw [List.length_map]
  congr 2
  funext i
  rw [List.getElem?_map]
  cases ps[i]? <;> rfl
theorem encK_Q (ps : List PgM) : encK ps = encQ (ps.map (fun p => p.2)) := by
  funext k
  unfold encK encQ
  rw [List.getElem?_map]
  cases ps[k.toNat]? <;> rfl
theorem encP_Q (ps : List PgM) : encP ps = uvar (ps.map (fun p => p.2)).length ++ uvar (idxQ (ps.map (fun p => p.2))).length ++ (idxQ (ps.map (fun p => p.2))).flatMap (encQ (ps.map (fun p => p.2))) := by
  unfold encP
  rw [idx_Q, encK_Q, List.length_map]
theorem idxQ_mem {q : List (List Int)} {k : Int} (h : k ∈ idxQ q) : ∃ i x, k = (i : Nat) ∧ q[i]? = some x ∧ x ≠ Zp := by
  unfold idxQ at h
  obtain ⟨i, hi, rfl⟩ := List.mem_map.1 h
  have h2 := (List.mem_filter.1 hi).2
  cases hx : q[i]? with
  | none => rw [hx] at h2; cases h2
  | some x => rw [hx] at h2; exact ⟨i, x, rfl, hx, by simpa using h2⟩
theorem idxQ_set {q : List (List Int)} {k : Nat} {x : List Int} (hk : k < q.length) (hx : x ≠ Zp) (ha : ∀ (i : Nat) l, q[i]? = some l → k ≤ i → l = Zp) : idxQ (q.set k x) = idxQ q ++ [(k : Int)] := by
  unfold idxQ
  rw [List.length_set]
  have hr : List.range q.length = List.range k ++ (List.range' k (q.length - k)) := by
    have e : q.length = k + (q.length - k) := by omega
    conv => lhs; rw [e]
    rw [List.range_eq_range', List.range_eq_range', ← List.range'_append_1, Nat.zero_add]
  have hr2 : List.range' k (q.length - k) = k :: List.range' (k + 1) (q.length - k - 1) := by
    have : q.length - k = (q.length - k - 1) + 1 := by omega
    rw [this, List.range'_succ]
    simp
  rw [hr, hr2, List.filter_append, List.filter_append, List.filter_cons, List.filter_cons]
  have e1 : (List.range k).filter (fun i => ((q.set k x)[i]?).elim false fun (x : List Int) => decide (x ≠ Zp)) = (List.range k).filter (fun i => (q[i]?).elim false fun (x : List Int) => decide (x ≠ Zp)) := by
    refine List.filter_congr (fun i hi => ?_)
    rw [List.getElem?_set_ne (by have := List.mem_range.1 hi; omega)]
  have e2 : (List.range' (k + 1) (q.length - k - 1)).filter (fun i => ((q.set k x)[i]?).elim false fun (x : List Int) => decide (x ≠ Zp)) = [] := by
    refine List.filter_eq_nil_iff.2 (fun i hi => ?_)
    have h1 := List.mem_range'_1.1 hi
    rw [List.getElem?_set_ne (by omega)]
    cases hq : q[i]? with
    | none => simp
    | some l => simp [ha i l hq (by omega)]
  have e3 : (List.range' (k + 1) (q.length - k - 1)).filter (fun i => (q[i]?).elim false fun (x : List Int) => decide (x ≠ Zp)) = [] := by
    refine List.filter_eq_nil_iff.2 (fun i hi => ?_)
    have h1 := List.mem_range'_1.1 hi
    cases hq : q[i]? with
    | none => simp
    | some l => simp [ha i l hq (by omega)]
  rw [e1, e2, e3, List.getElem?_set_self hk]
  have e4 : ((q[k]?).elim false fun (x : List Int) => decide (x ≠ Zp)) = false := by
    cases hq : q[k]? with
    | none => rfl
    | some l => simp [ha k l hq (Nat.le_refl _)]
  have e5 : ((some x).elim false fun (x : List Int) => decide (x ≠ Zp)) = true := by simpa using hx
  rw [e4, e5]
  simp
theorem pn_err {zs : List Int} {least count : Int} {st : RS} (h : (pnR zs least count st).2.2 = 0) : st.2 = 0 := (tkR_err h).1
theorem pn_got {zs : List Int} {least count : Int} {p : Nat} (hz : ∀ z ∈ zs, 0 ≤ z ∧ z ≤ 255) (h : (pnR zs least count (at0 p)).2.2 = 0) :
    0 ≤ (pnR zs least count (at0 p)).1 ∧ least ≤ (pnR zs least count (at0 p)).1 ∧ (pnR zs least count (at0 p)).1 < count ∧ Got zs p (uvar (pnR zs least count (at0 p)).1) (pnR zs least count (at0 p)).2 := by
  obtain ⟨_, he, hq⟩ := tkR_err h
  have hn : pnR zs least count (at0 p) = ((ruAt zs (p : Int)).1, ((ruAt zs (p : Int)).2.1, 0)) := hq
  rw [hn]
  have he1 : pnE zs least count (p : Int) = 0 := he
  unfold pnE at he1
  obtain ⟨v, q, c, hv⟩ : ∃ v q c, ruAt zs (p : Int) = (v, q, c) := ⟨_, _, _, rfl⟩
  rw [hv] at he1 ⊢
  simp only at he1 ⊢
  by_cases hc : c = 0
  · subst hc
    rw [if_neg (by simp)] at he1
    by_cases h1 : count ≤ v
    · rw [if_pos h1] at he1; omega
    · rw [if_neg h1] at he1
      by_cases h2 : v < least
      · rw [if_pos h2] at he1; omega
      · obtain ⟨g1, g2, g3⟩ := same_got hz hv
        exact ⟨g1, by omega, by omega, g3⟩
  · rw [if_pos hc] at he1; exact absurd he1 hc
theorem pg_err {zs : List Int} {st : RS} (h : (pgR zs st).2 = 0) : st.2 = 0 := (tkR_err h).1
theorem pg_got {zs : List Int} {p : Nat} (h : (pgR zs (at0 p)).2 = 0) : pgL zs p ≠ Zp ∧ Got zs p (pgL zs p) (pgR zs (at0 p)) := by
  have h' : (tkR 0 ((at0 p).1 + (pgT zs (at0 p).1.toNat).length) (pgX zs (at0 p).1.toNat) (at0 p)).2.2 = 0 := h
  obtain ⟨_, he, hq⟩ := tkR_err h'
  have e : (at0 p).1.toNat = p := Int.toNat_natCast p
  rw [e] at he hq
  have hr : pgR zs (at0 p) = ((p : Int) + (pgT zs p).length, 0) := by
    unfold pgR
    rw [e, hq]
  unfold pgX at he
  by_cases h1 : (pgT zs p).length < 4096
  · rw [if_pos h1] at he; omega
  · rw [if_neg h1] at he
    by_cases h2 : pgL zs p = Zp
    · rw [if_pos h2] at he; omega
    · have hl := pgT_len zs p
      have hl4 : (pgT zs p).length = 4096 := by
        have : Nat.min (zs.length - p) 4096 ≤ 4096 := Nat.min_le_right _ _
        omega
      have hle : 4096 ≤ zs.length - p := by
        have : Nat.min (zs.length - p) 4096 ≤ zs.length - p := Nat.min_le_left _ _
        omega
      have ep : pgL zs p = pgT zs p := by
        unfold pgL
        rw [hl4, List.drop_eq_nil_of_le (by rw [Zp_len]; exact Nat.le_refl _), List.append_nil]
      refine ⟨h2, ?_, ?_, ?_⟩
      · rw [hr, ep, hl4]; simp
      · rw [ep, hl4]; omega
      · rw [ep, hl4]
        unfold pgT
        have := List.take_append_drop 4096 (zs.drop p)
        rw [List.drop_drop] at this
        exact this.symm
/-- The pages that were read so far. -/
structure PgJ (zs : List Int) (n p j : Nat) (x : List (List Int) × Int × RS) : Prop where
  len : x.1.length = n
  lo : 0 ≤ x.2.1
  ab : ∀ (i : Nat) l, x.1[i]? = some l → x.2.1 ≤ i → l = Zp
  cnt : (idxQ x.1).length = j
  got : Got zs p ((idxQ x.1).flatMap (encQ x.1)) x.2.2
theorem pgS_err {zs : List Int} {n : Int} {x : List (List Int) × Int × RS} (h : (pgS zs n x).2.2.2 = 0) : x.2.2.2 = 0 := pn_err (pg_err h)
theorem pgI_err {zs : List Int} {n : Int} {x : List (List Int) × Int × RS} : ∀ k : Nat, (pgI zs n k x).2.2.2 = 0 → x.2.2.2 = 0
  | 0, h => h
  | k + 1, h => pgI_err k (pgS_err h)
theorem pgJ_next {zs : List Int} {n p j : Nat} {x : List (List Int) × Int × RS} (hz : ∀ z ∈ zs, 0 ≤ z ∧ z ≤ 255) (h : PgJ zs n p j x) (he : (pgS zs n x).2.2.2 = 0) : PgJ zs n p (j + 1) (pgS zs n x) := by
  have h1 : (pgR zs (pnR zs x.2.1 n x.2.2).2).2 = 0 := he
  have h2 := pg_err h1
  unfold pgS
  rw [h.got.st] at h1 h2 ⊢
  obtain ⟨a1, a2, a3, a4⟩ := pn_got hz h2
  generalize pnR zs x.2.1 n (at0 (p + ((idxQ x.1).flatMap (encQ x.1)).length)) = y at *
  rw [a4.st] at h1 ⊢
  obtain ⟨b1, b2⟩ := pg_got h1
  obtain ⟨k, hk⟩ := Int.eq_ofNat_of_zero_le a1
  have hkn : k < x.1.length := by rw [h.len]; omega
  have ek : y.1.toNat = k := by rw [hk]; rfl
  have e0 : (at0 (p + ((idxQ x.1).flatMap (encQ x.1)).length + (uvar y.1).length)).1.toNat = p + ((idxQ x.1).flatMap (encQ x.1)).length + (uvar y.1).length := Int.toNat_natCast _
  have hs := idxQ_set (x := pgL zs (p + ((idxQ x.1).flatMap (encQ x.1)).length + (uvar y.1).length)) hkn b1 (fun i l hl hi => h.ab i l hl (by omega))
  rw [e0, ek]
  refine ⟨?_, ?_, ?_, ?_, ?_⟩
  · simp only [List.length_set]; exact h.len
  · simp only; omega
  · intro i l hl hi
    simp only at hl hi
    rw [List.getElem?_set_ne (by omega)] at hl
    exact h.ab i l hl (by omega)
  · simp only
    rw [hs, List.length_append, h.cnt]
    rfl
  · simp only
    rw [hs, List.flatMap_append]
    have e1 : (idxQ x.1).flatMap (encQ (x.1.set k (pgL zs (p + ((idxQ x.1).flatMap (encQ x.1)).length + (uvar y.1).length)))) = (idxQ x.1).flatMap (encQ x.1) := by
      refine flat_congr (fun i hi => ?_)
      obtain ⟨i', l, rfl, hl, hne⟩ := idxQ_mem hi
      have hlt : i' ≠ k := fun hc => hne (h.ab i' l hl (by rw [hc]; omega))
      unfold encQ
      rw [Int.toNat_natCast, List.getElem?_set_ne (by omega)]
    have e2 : [(k : Int)].flatMap (encQ (x.1.set k (pgL zs (p + ((idxQ x.1).flatMap (encQ x.1)).length + (uvar y.1).length)))) = uvar y.1 ++ pgL zs (p + ((idxQ x.1).flatMap (encQ x.1)).length + (uvar y.1).length) := by
      rw [List.flatMap_cons, List.flatMap_nil, List.append_nil]
      unfold encQ
      rw [Int.toNat_natCast, List.getElem?_set_self hkn, hk]
      rfl
    rw [e1, e2]
    have g1 := Got.app (s1 := at0 (p + ((idxQ x.1).flatMap (encQ x.1)).length)) ⟨rfl, h.got.le, h.got.eq⟩ a4
    rw [← List.append_assoc]
    refine g1.app ?_
    rw [List.length_append, ← Nat.add_assoc]
    exact b2
theorem pgI_got {zs : List Int} {n p : Nat} (hz : ∀ z ∈ zs, 0 ≤ z ∧ z ≤ 255) (hp : p ≤ zs.length) : ∀ k : Nat, (pgI zs n k (List.replicate n Zp, 0, at0 p)).2.2.2 = 0 → PgJ zs n p k (pgI zs n k (List.replicate n Zp, 0, at0 p))
  | 0, h => by
    have hid : idxQ (List.replicate n Zp) = [] := by
      refine List.eq_nil_iff_forall_not_mem.2 (fun k hk => ?_)
      obtain ⟨i, x, _, hx, hne⟩ := idxQ_mem hk
      exact hne (List.eq_of_mem_replicate (List.mem_of_getElem? hx))
    refine ⟨by show (List.replicate n Zp).length = n; simp, Int.le_refl _, fun i l hl _ => List.eq_of_mem_replicate (List.mem_of_getElem? hl), ?_, ?_⟩
    · show (idxQ (List.replicate n Zp)).length = 0
      rw [hid]; rfl
    · show Got zs p ((idxQ (List.replicate n Zp)).flatMap _) (at0 p)
      rw [hid]
      exact Got.nil hp
  | k + 1, h => pgJ_next hz (pgI_got hz hp k (pgS_err h)) h
def encPq (q : List (List Int)) : List Int := uvar q.length ++ uvar (idxQ q).length ++ (idxQ q).flatMap (encQ q)
theorem pgs_err {zs : List Int} {st : RS} (h : (pgsR zs st).2.2 = 0) : st.2 = 0 := nm_err (nm_err (pgI_err _ h))
theorem pgs_got {zs : List Int} {p : Nat} (hz : ∀ z ∈ zs, 0 ≤ z ∧ z ≤ 255) (h : (pgsR zs (at0 p)).2.2 = 0) : (pgsR zs (at0 p)).1.length ≤ 64 ∧ Got zs p (encPq (pgsR zs (at0 p)).1) (pgsR zs (at0 p)).2 := by
  have h3 : (pgI zs (nmR zs 64 20 (at0 p)).1 (nmR zs (nmR zs 64 20 (at0 p)).1 20 (nmR zs 64 20 (at0 p)).2).1.toNat (List.replicate (nmR zs 64 20 (at0 p)).1.toNat Zp, 0, (nmR zs (nmR zs 64 20 (at0 p)).1 20 (nmR zs 64 20 (at0 p)).2).2)).2.2.2 = 0 := h
  have h2 : (nmR zs (nmR zs 64 20 (at0 p)).1 20 (nmR zs 64 20 (at0 p)).2).2.2 = 0 := pgI_err _ h3
  have h1 : (nmR zs 64 20 (at0 p)).2.2 = 0 := nm_err h2
  obtain ⟨a1, a2, a3, a4⟩ := nm_got hz (.inl (by decide)) h1
  unfold pgsR
  generalize nmR zs 64 20 (at0 p) = x1 at *
  rw [a4.st] at h2 h3 ⊢
  obtain ⟨b1, b2, b3, b4⟩ := nm_got hz (.inl (by decide)) h2
  generalize nmR zs x1.1 20 (at0 (p + (uvar x1.1).length)) = x2 at *
  rw [b4.st] at h3 ⊢
  obtain ⟨n, hn⟩ := Int.eq_ofNat_of_zero_le a1
  obtain ⟨k, hk⟩ := Int.eq_ofNat_of_zero_le b1
  have en : x1.1.toNat = n := by rw [hn]; rfl
  have ek : x2.1.toNat = k := by rw [hk]; rfl
  rw [en, ek] at h3 ⊢
  have ez : (x1.1 : Int) = ((n : Nat) : Int) := hn
  have g := pgI_got (n := n) hz b4.le k (by rw [← ez]; exact h3)
  rw [← ez] at g
  generalize pgI zs x1.1 k (List.replicate n Zp, 0, at0 (p + (uvar x1.1).length + (uvar x2.1).length)) = y at *
  refine ⟨by rw [show (y.1, y.2.2).1 = y.1 from rfl, g.len]; omega, ?_⟩
  unfold encPq
  have g2 := Got.app ⟨rfl, a4.le, a4.eq⟩ b4
  have g3 := g2.app (by rw [List.length_append, ← Nat.add_assoc]; exact g.got)
  simp only
  rw [g.len, g.cnt, ← hn, ← hk]
  exact g3
end Go.Proofs.YtbdjghokedfkfaaDoor

/-
  Plain facts: a state that was read without an error is written as the same bytes; a beginning of what was written is refused.
-/
namespace Go.Proofs.YtbdjghokedfkfaaDoor
open Go.RowKit
set_option linter.unusedVariables false
set_option maxRecDepth 100000

/-- What is so of a state that was read. -/
structure OkP (p : StP) : Prop where
  en : 1 ≤ p.en ∧ p.en ≤ 3
  tr : 0 ≤ p.tr ∧ p.tr ≤ 6
  us : 0 ≤ p.us ∧ p.us ≤ 4611686018427387904
  rep : 0 ≤ p.rep ∧ p.rep ≤ 9223372036854775807
  rs : p.rs.length ≤ 8
  gs : p.gs.length ≤ 64
  rr : ∀ v ∈ p.rs, U64 v
  gr : ∀ v ∈ p.gs, U64 v
  ps : p.ps.length ≤ 64
  fs : p.fs.length ≤ 64
  fl : ∀ f ∈ p.fs, OkF f
def encSp (p : StP) : List Int := [p.en] ++ [p.tr] ++ uvar p.us ++ uvar p.rep ++ encL p.rs ++ encL p.gs ++ encPq p.ps ++ (uvar p.fs.length ++ p.fs.flatMap encFp)
theorem fs_got {zs : List Int} {p : Nat} (hz : ∀ z ∈ zs, 0 ≤ z ∧ z ≤ 255) (h : (fsR zs 64 (at0 p)).2.2 = 0) :
    (fsR zs 64 (at0 p)).1.length ≤ 64 ∧ (∀ f ∈ (fsR zs 64 (at0 p)).1, OkF f) ∧ Got zs p (uvar (fsR zs 64 (at0 p)).1.length ++ (fsR zs 64 (at0 p)).1.flatMap encFp) (fsR zs 64 (at0 p)).2 := by
  have h1 : (nmR zs 64 20 (at0 p)).2.2 = 0 := rl_err (fun _ h => fr_err h) _ _ h
  obtain ⟨a1, a2, a3, a4⟩ := nm_got hz (.inl (by decide)) h1
  have hl : ((fsR zs 64 (at0 p)).1.length : Int) = (nmR zs 64 20 (at0 p)).1 := by
    unfold fsR
    rw [rlR_len]
    omega
  have e : fsR zs 64 (at0 p) = rlR (frR zs) (nmR zs 64 20 (at0 p)).1.toNat (nmR zs 64 20 (at0 p)).2 := rfl
  have e2 := e
  rw [a4.st] at e2
  rw [e2] at h
  obtain ⟨b1, b2⟩ := rl_got (f := frR zs) (enc := encFp) (G := OkF) (fun _ h => fr_err h) (fun q hq hh => fr_got hz hh) _ a4.le _ h
  rw [← e2] at b1 b2
  refine ⟨by omega, b1, ?_⟩
  rw [hl]
  exact a4.app b2
theorem fs_err {zs : List Int} {st : RS} (h : (fsR zs 64 st).2.2 = 0) : st.2 = 0 := nm_err (rl_err (fun _ h => fr_err h) _ _ h)
theorem st_got {zs : List Int} {p : Nat} (hz : ∀ z ∈ zs, 0 ≤ z ∧ z ≤ 255) (hp : p ≤ zs.length) (h : (r8 zs (at0 p)).2.2 = 0) : OkP (stP zs (at0 p)) ∧ Got zs p (encSp (stP zs (at0 p))) (r8 zs (at0 p)).2 := by
  have h8 : (fsR zs 64 (r7 zs (at0 p)).2).2.2 = 0 := h
  have h7 : (pgsR zs (r6 zs (at0 p)).2).2.2 = 0 := fs_err h8
  have h6 : (lsR zs 64 (r5 zs (at0 p)).2).2.2 = 0 := pgs_err h7
  have h5 : (lsR zs 8 (r4 zs (at0 p)).2).2.2 = 0 := ls_err h6
  have h4 : (nmR zs 9223372036854775807 17 (r3 zs (at0 p)).2).2.2 = 0 := ls_err h5
  have h3 : (nmR zs 4611686018427387904 17 (r2 zs (at0 p)).2).2.2 = 0 := nm_err h4
  have h2 : (ocR zs 0 6 (r1 zs (at0 p)).2).2.2 = 0 := nm_err h3
  have h1 : (ocR zs 1 3 (at0 p)).2.2 = 0 := oc_err h2
  have e1 : r1 zs (at0 p) = ocR zs 1 3 (at0 p) := rfl
  have e2 : r2 zs (at0 p) = ocR zs 0 6 (r1 zs (at0 p)).2 := rfl
  have e3 : r3 zs (at0 p) = nmR zs 4611686018427387904 17 (r2 zs (at0 p)).2 := rfl
  have e4 : r4 zs (at0 p) = nmR zs 9223372036854775807 17 (r3 zs (at0 p)).2 := rfl
  have e5 : r5 zs (at0 p) = lsR zs 8 (r4 zs (at0 p)).2 := rfl
  have e6 : r6 zs (at0 p) = lsR zs 64 (r5 zs (at0 p)).2 := rfl
  have e7 : r7 zs (at0 p) = pgsR zs (r6 zs (at0 p)).2 := rfl
  have e8 : r8 zs (at0 p) = fsR zs 64 (r7 zs (at0 p)).2 := rfl
  unfold stP
  generalize r8 zs (at0 p) = x8 at *
  generalize r7 zs (at0 p) = x7 at *
  generalize r6 zs (at0 p) = x6 at *
  generalize r5 zs (at0 p) = x5 at *
  generalize r4 zs (at0 p) = x4 at *
  generalize r3 zs (at0 p) = x3 at *
  generalize r2 zs (at0 p) = x2 at *
  generalize r1 zs (at0 p) = x1 at *
  obtain ⟨a1, a2, a3⟩ := oc_got hp h1
  rw [← e1] at a1 a2 a3
  rw [a3.st] at h2 e2
  obtain ⟨b1, b2, b3⟩ := oc_got a3.le h2
  rw [← e2] at b1 b2 b3
  rw [b3.st] at h3 e3
  obtain ⟨c1, c2, _, c3⟩ := nm_got hz (.inl (by decide)) h3
  rw [← e3] at c1 c2 c3
  rw [c3.st] at h4 e4
  obtain ⟨d1, d2, _, d3⟩ := nm_got hz (.inl (by decide)) h4
  rw [← e4] at d1 d2 d3
  rw [d3.st] at h5 e5
  obtain ⟨f1, f2, f3⟩ := ls_got hz (by decide) h5
  rw [← e5] at f1 f2 f3
  rw [f3.st] at h6 e6
  obtain ⟨g1, g2, g3⟩ := ls_got hz (by decide) h6
  rw [← e6] at g1 g2 g3
  rw [g3.st] at h7 e7
  obtain ⟨i1, i3⟩ := pgs_got hz h7
  rw [← e7] at i1 i3
  rw [i3.st] at h8 e8
  obtain ⟨j1, j2, j3⟩ := fs_got hz h8
  rw [← e8] at j1 j2 j3
  refine ⟨⟨⟨a1, a2⟩, ⟨b1, b2⟩, ⟨c1, c2⟩, ⟨d1, d2⟩, by simp only; omega, by simp only; omega, f2, g2, i1, j1, j2⟩, ?_⟩
  have k2 := a3.app b3
  have k3 := k2.app (by rw [List.length_append, ← Nat.add_assoc]; exact c3)
  have k4 := k3.app (by simp only [List.length_append, ← Nat.add_assoc]; exact d3)
  have k5 := k4.app (by simp only [List.length_append, ← Nat.add_assoc]; exact f3)
  have k6 := k5.app (by simp only [List.length_append, ← Nat.add_assoc]; exact g3)
  have k7 := k6.app (by simp only [List.length_append, ← Nat.add_assoc]; exact i3)
  exact k7.app (by simp only [List.length_append, ← Nat.add_assoc]; exact j3)
theorem u64_id {v : Int} (h : U64 v) : u64 v = v := by
  obtain ⟨h1, h2⟩ := h
  simp only [u64, IntKind.wrap_u64]
  omega
theorem encF_p {x : FrM} (h : OkF (plF x)) : encF x = encFp (plF x) := by
  have h1 : u64 x.1 = x.1 := u64_id (show U64 (plF x).1 from ⟨h.f.1, by have := h.f.2; omega⟩)
  have h2 : u64 x.2.1 = x.2.1 := u64_id (show U64 (plF x).2.1 from ⟨h.p.1, by have := h.p.2; omega⟩)
  unfold encF encFp
  rw [h1, h2]
  rfl
theorem encS_p {x : StM} {p : StP} (e : plS x = p) (h : OkP p) : encS x = encSp p := by
  subst e
  have h1 : u64 x.us = x.us := u64_id (show U64 (plS x).us from ⟨h.us.1, by have := h.us.2; omega⟩)
  have h2 : u64 x.rep = x.rep := u64_id (show U64 (plS x).rep from ⟨h.rep.1, by have := h.rep.2; omega⟩)
  have h3 : x.fs.flatMap encF = (x.fs.map plF).flatMap encFp := by
    rw [List.flatMap_map]
    exact flat_congr (fun f hf => encF_p (h.fl _ (List.mem_map_of_mem hf)))
  unfold encS encSp encFs
  rw [h1, h2, h3, encP_Q]
  show _ = [x.en] ++ [x.tr] ++ uvar x.us ++ uvar x.rep ++ encL x.rs ++ encL x.gs ++ encPq (x.ps.map (fun p => p.2)) ++ (uvar (x.fs.map plF).length ++ (x.fs.map plF).flatMap encFp)
  unfold encPq
  rw [List.length_map, List.length_map]
theorem okS_p {x : StM} (h : OkP (plS x)) (hp : ∀ p ∈ x.ps, p.1.2.1 = 4096) : OkS x := by
  have h1 : u64 x.us = x.us := u64_id (show U64 (plS x).us from ⟨h.us.1, by have := h.us.2; omega⟩)
  have h2 : u64 x.rep = x.rep := u64_id (show U64 (plS x).rep from ⟨h.rep.1, by have := h.rep.2; omega⟩)
  refine ⟨h.en, h.tr, by rw [h1]; exact h.us.2, by rw [h2]; exact h.rep.2, h.rs, h.gs, by simpa [plS] using h.ps, hp, by simpa [plS] using h.fs, fun f hf => ?_⟩
  have hk := h.fl _ (List.mem_map_of_mem (f := plF) hf)
  have g1 : u64 f.1 = f.1 := u64_id (show U64 (plF f).1 from ⟨hk.f.1, by have := hk.f.2; omega⟩)
  have g2 : u64 f.2.1 = f.2.1 := u64_id (show U64 (plF f).2.1 from ⟨hk.p.1, by have := hk.p.2; omega⟩)
  exact ⟨by rw [g1]; exact hk.f.2, by rw [g2]; exact hk.p.2, hk.l, hk.s⟩
theorem rgS_p {x : StM} (h : OkP (plS x)) (hp : ∀ p ∈ x.ps, p.2.length = p.1.2.1) : RgS x := by
  refine ⟨⟨by have := h.us.1; have e : (plS x).us = x.us := rfl; omega, by have := h.us.2; have e : (plS x).us = x.us := rfl; omega⟩, ⟨by have := h.rep.1; have e : (plS x).rep = x.rep := rfl; omega, by have := h.rep.2; have e : (plS x).rep = x.rep := rfl; omega⟩, h.rr, h.gr, fun f hf => ?_, hp⟩
  have hk := h.fl _ (List.mem_map_of_mem (f := plF) hf)
  have e1 : (plF f).1 = f.1 := rfl
  have e2 : (plF f).2.1 = f.2.1 := rfl
  have := hk.f
  have := hk.p
  exact ⟨⟨hk.lr, hk.sr⟩, ⟨by omega, by omega⟩, ⟨by omega, by omega⟩⟩
/-- The other way: what may be written is. -/
theorem numW_do {v most : Int} (bs : List Int) (h : v ≤ most) : numW v most (bs, false) = (bs ++ uvar v, false) := by unfold numW askW; simp [h, putW]
theorem octW_do {v least most : Int} (bs : List Int) (h : least ≤ v ∧ v ≤ most) : octW v least most (bs, false) = (bs ++ [v], false) := by unfold octW askW; simp [h.1, h.2, putW]
theorem foldW_do {α : Type} {f : α → WS → WS} {enc : α → List Int} : ∀ (l : List α) (bs : List Int), (∀ x ∈ l, ∀ bs, f x (bs, false) = (bs ++ enc x, false)) → foldW f l (bs, false) = (bs ++ l.flatMap enc, false)
  | [], bs, _ => by simp [foldW]
  | x :: l, bs, h => by
    show foldW f l (f x (bs, false)) = _
    rw [h x (by simp), foldW_do l _ (fun y hy => h y (by simp [hy]))]
    simp
theorem listW_do {α : Type} {f : α → WS → WS} {enc : α → List Int} (l : List α) (most : Int) (bs : List Int) (hl : (l.length : Int) ≤ most) (h : ∀ x ∈ l, ∀ bs, f x (bs, false) = (bs ++ enc x, false)) : listW f l most (bs, false) = (bs ++ (uvar l.length ++ l.flatMap enc), false) := by
  unfold listW
  rw [numW_do bs hl, foldW_do l _ h, List.append_assoc]
theorem valW_do (l : List Int) (h : ∀ v ∈ l, 0 ≤ v ∧ v < 18446744073709551616) : ∀ x ∈ l, ∀ bs, valW x (bs, false) = (bs ++ uvar x, false) := fun x hx bs => numW_do bs (by have := (h x hx).2; omega)
theorem frW_do {x : FrM} (bs : List Int) (h : u64 x.1 ≤ 127 ∧ u64 x.2.1 ≤ 2047 ∧ x.2.2.1.2.length ≤ 64 ∧ x.2.2.2.2.length ≤ 256) (hr : FrR x) : frW x (bs, false) = (bs ++ encF x, false) := by
  unfold frW
  rw [numW_do bs h.1, numW_do _ h.2.1, listW_do (enc := uvar) _ 64 _ (by omega) (valW_do _ hr.1), listW_do (enc := uvar) _ 256 _ (by omega) (valW_do _ hr.2)]
  simp [encF, encL]
theorem foldA_do {ps : List PgM} (h : ∀ p ∈ ps, p.1.2.1 = 4096) (bs : List Int) : foldW pgA ps (bs, false) = (bs, false) := by
  have := foldW_do (f := pgA) (enc := fun _ => []) ps bs (fun x hx b => by unfold pgA askW; simp [h x hx])
  rw [this]
  simp
theorem pagesW_do {ps : List PgM} (hn : ps.length ≤ 64) (h : ∀ p ∈ ps, p.1.2.1 = 4096) (bs : List Int) : pagesW ps (bs, false) = (bs ++ encP ps, false) := by
  unfold pagesW
  rw [numW_do bs (by omega), foldA_do h, listW_do (enc := encK ps) (idx ps) _ _ (by have := idxTo_len ps ps.length; unfold idx; omega) (fun k hk b => by
    obtain ⟨i, y, rfl, hi, hy, _⟩ := idx_mem hk
    unfold pgK
    rw [numW_do b (by omega)]
    simp [putW, encK])]
  simp [encP]
theorem wr_of {x : StM} (h : OkS x) (hr : RgS x) : wrV x = (mgc ++ encS x, false) := by
  unfold wrV stW
  rw [octW_do _ h.en, octW_do _ h.tr, numW_do _ h.us, numW_do _ h.rep, listW_do (enc := uvar) _ 8 _ (by have := h.rs; omega) (valW_do _ hr.rs), listW_do (enc := uvar) _ 64 _ (by have := h.gs; omega) (valW_do _ hr.gs), pagesW_do h.ps h.pl, listW_do (enc := encF) _ 64 _ (by have := h.fs; omega) (fun f hf b => frW_do b (h.fl f hf) (hr.fs f hf).1)]
  simp [encS, encL, encFs]
/-- A state with no place in memory. -/
def canS (p : StP) : StM := mkS p 0 0 0 (List.replicate p.ps.length 0) 0 (p.fs.map (fun f => frN f 0 0))
theorem zip_snd : ∀ (bl : List Nat) (ps : List (List Int)), bl.length = ps.length → (List.zipWith (fun b l => (((some ⟨b, 0, none⟩, 4096, 4096), l) : PgM)) bl ps).map (fun p => p.2) = ps
  | [], [], _ => rfl
  | b :: bl, l :: ps, h => by
    rw [List.zipWith_cons_cons, List.map_cons, zip_snd bl ps (by simpa using h)]
  | [], l :: ps, h => by simp at h
  | b :: bl, [], h => by simp at h
theorem mkS_pl {p : StP} {B5 B6 B7 : Nat} {bl : List Nat} {B8 : Nat} {ys : List FrM} (h1 : bl.length = p.ps.length) (h2 : ys.map plF = p.fs) : plS (mkS p B5 B6 B7 bl B8 ys) = p := by
  unfold plS
  show (⟨p.en, p.tr, p.us, p.rep, p.rs, p.gs, (List.zipWith (fun b l => (((some ⟨b, 0, none⟩, 4096, 4096), l) : PgM)) bl p.ps).map (fun p => p.2), ys.map plF⟩ : StP) = p
  rw [zip_snd bl p.ps h1, h2]
theorem canS_pl (p : StP) : plS (canS p) = p := mkS_pl (by simp) (by
  rw [List.map_map]
  have : (plF ∘ fun f : FrP => frN f 0 0) = id := by funext f; rfl
  rw [this, List.map_id])
theorem mkS_4 {p : StP} {B5 B6 B7 : Nat} {bl : List Nat} {B8 : Nat} {ys : List FrM} : ∀ x ∈ (mkS p B5 B6 B7 bl B8 ys).ps, x.1.2.1 = 4096 ∧ x.2 ∈ p.ps := fun x hx => by
  obtain ⟨j, hj⟩ := List.getElem?_of_mem hx
  obtain ⟨b, l, hb, hl, rfl⟩ := zip_get bl p.ps j x hj
  exact ⟨rfl, List.mem_of_getElem? hl⟩
theorem pgs_all (zs : List Int) (st : RS) : ∀ l ∈ (pgsR zs st).1, l.length = 4096 := fun l hl => pgI_all zs _ _ (fun q hq => by
  rw [List.eq_of_mem_replicate hq]; exact Zp_len) _ l hl
theorem pgL_rng {zs : List Int} {p : Nat} (hz : ∀ z ∈ zs, 0 ≤ z ∧ z ≤ 255) : ∀ z ∈ pgL zs p, 0 ≤ z ∧ z ≤ 255 := fun z h => by
  unfold pgL pgT at h
  rcases List.mem_append.1 h with h | h
  · exact hz z (List.mem_of_mem_drop (List.mem_of_mem_take h))
  · have := List.eq_of_mem_replicate (List.mem_of_mem_drop h)
    omega
theorem pgI_by {zs : List Int} (hz : ∀ z ∈ zs, 0 ≤ z ∧ z ≤ 255) (n : Int) (x : List (List Int) × Int × RS) (h : ∀ l ∈ x.1, ∀ z ∈ l, 0 ≤ z ∧ z ≤ 255) : ∀ k, ∀ l ∈ (pgI zs n k x).1, ∀ z ∈ l, 0 ≤ z ∧ z ≤ 255
  | 0 => h
  | k + 1 => fun l hl => by
    have hl' : l ∈ (pgI zs n k x).1.set (pnR zs (pgI zs n k x).2.1 n (pgI zs n k x).2.2).1.toNat (pgL zs (pnR zs (pgI zs n k x).2.1 n (pgI zs n k x).2.2).2.1.toNat) := hl
    rcases List.mem_or_eq_of_mem_set hl' with h1 | h1
    · exact pgI_by hz n x h k l h1
    · rw [h1]; exact pgL_rng hz
theorem pgs_rng {zs : List Int} (hz : ∀ z ∈ zs, 0 ≤ z ∧ z ≤ 255) (st : RS) : ∀ l ∈ (pgsR zs st).1, ∀ z ∈ l, 0 ≤ z ∧ z ≤ 255 := fun l hl => pgI_by hz _ _ (fun q hq z hzz => by
  rw [List.eq_of_mem_replicate hq] at hzz
  have := List.eq_of_mem_replicate hzz
  omega) _ l hl
theorem szP_of {zs : List Int} {p : Nat} (hz : ∀ z ∈ zs, 0 ≤ z ∧ z ≤ 255) (h : OkP (stP zs (at0 p))) : SzP (stP zs (at0 p)) :=
  ⟨h.rs, h.gs, h.ps, fun l hl => ⟨pgs_all zs _ l hl, pgs_rng hz _ l hl⟩, h.fs, fun f hf => ⟨(h.fl f hf).l, (h.fl f hf).s⟩⟩
/-- What is read without an error is what is written of it. -/
theorem rd_same {zs : List Int} (hz : ∀ z ∈ zs, 0 ≤ z ∧ z ≤ 255) (h : (rdE zs).1 = 0) : OkP (stP zs (5, 0)) ∧ SzP (stP zs (5, 0)) ∧ zs = mgc ++ encSp (stP zs (5, 0)) := by
  unfold rdE at h
  by_cases h1 : 524288 < zs.length
  · rw [if_pos h1] at h; cases h
  rw [if_neg h1] at h
  by_cases h2 : pfx zs = false
  · rw [if_pos h2] at h; cases h
  rw [if_neg h2] at h
  have h3 : (fnR zs (r8 zs (5, 0)).2).2 = 0 := h
  have hp : zs.take 5 = mgc := by
    have : pfx zs = true := by simpa using h2
    exact of_decide_eq_true this
  have hl : 5 ≤ zs.length := by
    have := congrArg List.length hp
    rw [List.length_take] at this
    have e : mgc.length = 5 := rfl
    omega
  have h4 : (r8 zs (5, 0)).2.2 = 0 ∧ (zs.length : Int) ≤ (r8 zs (5, 0)).2.1 := by
    unfold fnR at h3
    by_cases h5 : (r8 zs (5, 0)).2.1 < zs.length
    · rw [if_pos h5] at h3
      have := (tkR_err h3).2.1
      omega
    · rw [if_neg h5] at h3
      exact ⟨h3, by omega⟩
  obtain ⟨g1, g2⟩ := st_got (p := 5) hz hl h4.1
  refine ⟨g1, szP_of (p := 5) hz g1, ?_⟩
  have e5 : (at0 5 : RS) = (5, 0) := rfl
  have h6 : (zs.length : Int) ≤ (r8 zs (at0 5)).2.1 := h4.2
  rw [g2.st] at h6
  have h7 : 5 + (encSp (stP zs (at0 5))).length = zs.length := by
    have a := g2.le
    have b : (zs.length : Int) ≤ ((5 + (encSp (stP zs (at0 5))).length : Nat) : Int) := h6
    omega
  have h8 := g2.eq
  rw [h7, List.drop_eq_nil_of_le (Nat.le_refl _), List.append_nil] at h8
  rw [← hp]
  show zs = List.take 5 zs ++ encSp (stP zs (at0 5))
  rw [← h8]
  exact (List.take_append_drop 5 zs).symm
theorem can_ok {p : StP} (h : OkP p) (hs : SzP p) : OkS (canS p) ∧ RgS (canS p) ∧ encS (canS p) = encSp p := by
  have e := canS_pl p
  refine ⟨okS_p (by rw [e]; exact h) (fun x hx => (mkS_4 x hx).1), rgS_p (by rw [e]; exact h) (fun x hx => ?_), encS_p e h⟩
  have := mkS_4 x hx
  rw [this.1]
  exact (hs.pl _ this.2).1
/-- Read, then written: the same bytes. -/
theorem back_same {zs : List Int} (hz : ∀ z ∈ zs, 0 ≤ z ∧ z ≤ 255) (h : (rdE zs).1 = 0) {x : StM} (hx : plS x = stP zs (5, 0)) (h4 : ∀ p ∈ x.ps, p.1.2.1 = 4096 ∧ p.2.length = 4096) : wrV x = (zs, false) := by
  obtain ⟨g1, g2, g3⟩ := rd_same hz h
  have hr : RgS x := rgS_p (by rw [hx]; exact g1) (fun p hp => by rw [(h4 p hp).1, (h4 p hp).2])
  rw [wr_of (okS_p (by rw [hx]; exact g1) (fun p hp => (h4 p hp).1)) hr, encS_p hx g1, ← g3]
/-- A beginning of what was written is refused. -/
theorem cut_no {s : StM} (hs : (wrV s).2 = false) (rs : RgS s) (hz : ∀ z ∈ (wrV s).1, 0 ≤ z ∧ z ≤ 255) (n : Nat) (hn : n < (wrV s).1.length) : (rdE ((wrV s).1.take n)).1 ≠ 0 := by
  intro h
  obtain ⟨g1, g2, g3⟩ := rd_same (fun z hh => hz z (List.mem_of_mem_take hh)) h
  obtain ⟨k1, k2, k3⟩ := can_ok g1 g2
  rw [← k3] at g3
  have a := stW_is hs
  have e1 : (wrV s).1 = mgc ++ encS s ++ [] := by show (stW s (mgc, false)).1 = _; rw [a.2]; simp
  have b1 := (st_back mgc [] s a.1 rs).2
  rw [← e1] at b1
  have e2 : (wrV s).1 = mgc ++ encS (canS (stP ((wrV s).1.take n) (5, 0))) ++ (wrV s).1.drop n := by
    rw [← g3]
    exact (List.take_append_drop n _).symm
  have b2 := (st_back mgc ((wrV s).1.drop n) (canS (stP ((wrV s).1.take n) (5, 0))) k1 k2).2
  rw [← e2] at b2
  have e3 := b1.symm.trans b2
  have e4 : mgc.length + (encS s).length = mgc.length + (encS (canS (stP ((wrV s).1.take n) (5, 0)))).length := by
    have := congrArg (fun x : RS => x.1) e3
    have q : ((mgc.length + (encS s).length : Nat) : Int) = ((mgc.length + (encS (canS (stP ((wrV s).1.take n) (5, 0)))).length : Nat) : Int) := this
    omega
  have l1 : (wrV s).1.length = mgc.length + (encS s).length := by rw [e1]; simp
  have l2 : ((wrV s).1.take n).length = mgc.length + (encS (canS (stP ((wrV s).1.take n) (5, 0)))).length := by
    conv => lhs; rw [g3]
    simp
  rw [List.length_take] at l2
  omega
end Go.Proofs.YtbdjghokedfkfaaDoor
