/-
  Plain facts: what is read without an error is written as the same bytes.
-/
import Derived.Test.YtbdjghokedfkfaaDoorPd
namespace Go.Proofs.YtbdjghokedfkfaaDoor
open Go.RowKit
set_option linter.unusedVariables false
set_option maxRecDepth 100000

/-- From a place on stand these bytes, and the reader is behind them. -/
structure Got (zs : List Int) (p : Nat) (bs : List Int) (st : RS) : Prop where
  st : st = at0 (p + bs.length)
  le : p + bs.length ≤ zs.length
  eq : zs.drop p = bs ++ zs.drop (p + bs.length)
theorem Got.app {zs : List Int} {p : Nat} {b1 b2 : List Int} {s1 s2 : RS} (h1 : Got zs p b1 s1) (h2 : Got zs (p + b1.length) b2 s2) : Got zs p (b1 ++ b2) s2 := by
  have e : p + (b1 ++ b2).length = p + b1.length + b2.length := by rw [List.length_append]; omega
  refine ⟨?_, ?_, ?_⟩
  · rw [e]; exact h2.st
  · rw [e]; exact h2.le
  · rw [e, h1.eq, h2.eq, List.append_assoc]
theorem Got.nil {zs : List Int} {p : Nat} (h : p ≤ zs.length) : Got zs p [] (at0 p) := ⟨rfl, by simpa using h, by simp⟩
theorem tkR_err {v next e : Int} {st : RS} (h : (tkR v next e st).2.2 = 0) : st.2 = 0 ∧ e = 0 ∧ tkR v next e st = (v, (next, 0)) := by
  unfold tkR at h ⊢
  by_cases h1 : st.2 = 0
  · rw [if_pos h1] at h ⊢
    by_cases h2 : e = 0
    · rw [if_pos h2]; exact ⟨h1, h2, rfl⟩
    · rw [if_neg h2] at h; exact absurd h h2
  · rw [if_neg h1] at h; exact absurd h h1
theorem nm_err {zs : List Int} {most above : Int} {st : RS} (h : (nmR zs most above st).2.2 = 0) : st.2 = 0 := (tkR_err h).1
theorem same_got {zs : List Int} {p : Nat} {v q : Int} (hz : ∀ z ∈ zs, 0 ≤ z ∧ z ≤ 255) (h : ruAt zs (p : Int) = (v, q, 0)) : 0 ≤ v ∧ v < 18446744073709551616 ∧ Got zs p (uvar v) (q, 0) := by
  obtain ⟨h1, h2, h3, h4, h5, h6⟩ := read_same zs p v q hz h
  rw [Int.toNat_natCast] at h1
  have hl : (uvar v).length = (q - p).toNat := by rw [← h1, List.length_take, List.length_drop]; omega
  refine ⟨h2, h3, ?_, ?_, ?_⟩
  · show (q, (0 : Int)) = (((p + (uvar v).length : Nat) : Int), 0)
    rw [hl]
    congr 1
    omega
  · rw [hl]; omega
  · have := List.take_append_drop (q - p).toNat (zs.drop p)
    rw [h1, List.drop_drop] at this
    rw [hl]
    exact this.symm
theorem nm_got {zs : List Int} {most above : Int} {p : Nat} (hz : ∀ z ∈ zs, 0 ≤ z ∧ z ≤ 255) (ha : above ≠ 0 ∨ most = 18446744073709551615) (h : (nmR zs most above (at0 p)).2.2 = 0) :
    0 ≤ (nmR zs most above (at0 p)).1 ∧ (nmR zs most above (at0 p)).1 ≤ most ∧ (nmR zs most above (at0 p)).1 < 18446744073709551616 ∧ Got zs p (uvar (nmR zs most above (at0 p)).1) (nmR zs most above (at0 p)).2 := by
  obtain ⟨_, he, hq⟩ := tkR_err h
  have hn : nmR zs most above (at0 p) = ((ruAt zs (p : Int)).1, ((ruAt zs (p : Int)).2.1, 0)) := hq
  rw [hn]
  have hr := ruAt_range zs p hz
  unfold nmE at he
  obtain ⟨v, q, c, hv⟩ : ∃ v q c, ruAt zs (p : Int) = (v, q, c) := ⟨_, _, _, rfl⟩
  rw [hv] at hr
  have he2 : (if c = 0 ∧ most < v then above else c) = 0 := by
    have : (ruAt zs (at0 p).1) = (v, q, c) := hv
    rw [this] at he
    exact he
  rw [hv]
  simp only at hr ⊢
  have hc : c = 0 ∧ v ≤ most := by
    by_cases hb : c = 0 ∧ most < v
    · rw [if_pos hb] at he2
      omega
    · rw [if_neg hb] at he2
      exact ⟨he2, by omega⟩
  rw [hc.1] at hv
  obtain ⟨g1, g2, g3⟩ := same_got hz hv
  exact ⟨g1, hc.2, g2, g3⟩
theorem oc_err {zs : List Int} {least most : Int} {st : RS} (h : (ocR zs least most st).2.2 = 0) : st.2 = 0 := by
  unfold ocR at h
  split at h
  · exact (tkR_err h).1
  · split at h
    · exact (tkR_err h).1
    · exact (tkR_err h).1
theorem oc_got {zs : List Int} {least most : Int} {p : Nat} (hp : p ≤ zs.length) (h : (ocR zs least most (at0 p)).2.2 = 0) :
    least ≤ (ocR zs least most (at0 p)).1 ∧ (ocR zs least most (at0 p)).1 ≤ most ∧ Got zs p [(ocR zs least most (at0 p)).1] (ocR zs least most (at0 p)).2 := by
  unfold ocR at h ⊢
  by_cases h1 : (at0 p).1 = (zs.length : Int)
  · rw [if_pos h1] at h; have := (tkR_err h).2.1; omega
  · rw [if_neg h1] at h ⊢
    by_cases h2 : zs.getD (at0 p).1.toNat 0 < least ∨ most < zs.getD (at0 p).1.toNat 0
    · rw [if_pos h2] at h; have := (tkR_err h).2.1; omega
    · rw [if_neg h2] at h ⊢
      rw [(tkR_err h).2.2]
      have h3 : p < zs.length := by
        have : ¬ ((p : Int) = (zs.length : Int)) := h1
        omega
      have e : (at0 p).1.toNat = p := Int.toNat_natCast p
      rw [e] at h2 ⊢
      refine ⟨by simp only; omega, by simp only; omega, ?_, ?_, ?_⟩
      · simp
      · show p + 1 ≤ zs.length; omega
      · rw [List.drop_eq_getElem_cons h3]
        simp [List.getD, h3]
theorem rl_err {α : Type} {f : RS → α × RS} (hf : ∀ st, (f st).2.2 = 0 → st.2 = 0) : ∀ (k : Nat) (st : RS), (rlR f k st).2.2 = 0 → st.2 = 0
  | 0, st, h => h
  | k + 1, st, h => rl_err hf k st (hf _ h)
theorem rl_got {α : Type} {f : RS → α × RS} {enc : α → List Int} {G : α → Prop} {zs : List Int} (hf : ∀ st, (f st).2.2 = 0 → st.2 = 0)
    (hg : ∀ p : Nat, p ≤ zs.length → (f (at0 p)).2.2 = 0 → G (f (at0 p)).1 ∧ Got zs p (enc (f (at0 p)).1) (f (at0 p)).2) (p : Nat) (hp : p ≤ zs.length) :
    ∀ k : Nat, (rlR f k (at0 p)).2.2 = 0 → (∀ x ∈ (rlR f k (at0 p)).1, G x) ∧ Got zs p ((rlR f k (at0 p)).1.flatMap enc) (rlR f k (at0 p)).2
  | 0, h => ⟨fun x hx => (by cases hx), Got.nil hp⟩
  | k + 1, h => by
    have h0 : (f (rlR f k (at0 p)).2).2.2 = 0 := h
    obtain ⟨i1, i2⟩ := rl_got hf hg p hp k (hf _ h0)
    rw [i2.st] at h0
    obtain ⟨j1, j2⟩ := hg _ i2.le h0
    have e : rlR f (k + 1) (at0 p) = ((rlR f k (at0 p)).1 ++ [(f (at0 (p + ((rlR f k (at0 p)).1.flatMap enc).length))).1], (f (at0 (p + ((rlR f k (at0 p)).1.flatMap enc).length))).2) := by
      show ((rlR f k (at0 p)).1 ++ [(f (rlR f k (at0 p)).2).1], (f (rlR f k (at0 p)).2).2) = _
      rw [i2.st]
    rw [e]
    refine ⟨fun x hx => ?_, ?_⟩
    · rcases List.mem_append.1 hx with hx | hx
      · exact i1 x hx
      · rw [List.mem_singleton.1 hx]; exact j1
    · simp only
      rw [List.flatMap_append]
      have := i2.app j2
      simpa using this
def U64 (v : Int) : Prop := 0 ≤ v ∧ v < 18446744073709551616
theorem ls_err {zs : List Int} {most : Int} {st : RS} (h : (lsR zs most st).2.2 = 0) : st.2 = 0 := nm_err (rl_err (fun _ h => nm_err h) _ _ h)
theorem ls_got {zs : List Int} {most : Int} {p : Nat} (hz : ∀ z ∈ zs, 0 ≤ z ∧ z ≤ 255) (hm : 0 ≤ most) (h : (lsR zs most (at0 p)).2.2 = 0) :
    ((lsR zs most (at0 p)).1.length : Int) ≤ most ∧ (∀ v ∈ (lsR zs most (at0 p)).1, U64 v) ∧ Got zs p (encL (lsR zs most (at0 p)).1) (lsR zs most (at0 p)).2 := by
  have h1 : (nmR zs most 20 (at0 p)).2.2 = 0 := rl_err (fun _ h => nm_err h) _ _ h
  obtain ⟨a1, a2, a3, a4⟩ := nm_got hz (.inl (by decide)) h1
  have hl : ((lsR zs most (at0 p)).1.length : Int) = (nmR zs most 20 (at0 p)).1 := by
    unfold lsR
    rw [rlR_len]
    omega
  have e : lsR zs most (at0 p) = rlR (vlR zs) (nmR zs most 20 (at0 p)).1.toNat (nmR zs most 20 (at0 p)).2 := rfl
  have e2 := e
  rw [a4.st] at e2
  rw [e2] at h
  obtain ⟨b1, b2⟩ := rl_got (f := vlR zs) (enc := uvar) (G := U64) (fun _ h => nm_err h) (fun q hq hh => by
    obtain ⟨c1, c2, c3, c4⟩ := nm_got (most := 18446744073709551615) (above := 0) hz (.inr rfl) hh
    exact ⟨⟨c1, c3⟩, c4⟩) _ a4.le _ h
  rw [← e2] at b1 b2
  refine ⟨by omega, b1, ?_⟩
  unfold encL
  rw [hl]
  exact a4.app b2
/-- A frame as it was read. -/
def encFp (x : FrP) : List Int := uvar x.1 ++ uvar x.2.1 ++ encL x.2.2.1 ++ encL x.2.2.2
structure OkF (x : FrP) : Prop where
  f : 0 ≤ x.1 ∧ x.1 ≤ 127
  p : 0 ≤ x.2.1 ∧ x.2.1 ≤ 2047
  l : x.2.2.1.length ≤ 64
  s : x.2.2.2.length ≤ 256
  lr : ∀ v ∈ x.2.2.1, U64 v
  sr : ∀ v ∈ x.2.2.2, U64 v
theorem fr_err {zs : List Int} {st : RS} (h : (frR zs st).2.2 = 0) : st.2 = 0 := nm_err (nm_err (ls_err (ls_err h)))
theorem fr_got {zs : List Int} {p : Nat} (hz : ∀ z ∈ zs, 0 ≤ z ∧ z ≤ 255) (h : (frR zs (at0 p)).2.2 = 0) : OkF (frR zs (at0 p)).1 ∧ Got zs p (encFp (frR zs (at0 p)).1) (frR zs (at0 p)).2 := by
  have h4 : (lsR zs 256 (lsR zs 64 (nmR zs 2047 17 (nmR zs 127 17 (at0 p)).2).2).2).2.2 = 0 := h
  have h3 : (lsR zs 64 (nmR zs 2047 17 (nmR zs 127 17 (at0 p)).2).2).2.2 = 0 := ls_err h4
  have h2 : (nmR zs 2047 17 (nmR zs 127 17 (at0 p)).2).2.2 = 0 := ls_err h3
  have h1 : (nmR zs 127 17 (at0 p)).2.2 = 0 := nm_err h2
  obtain ⟨a1, a2, a3, a4⟩ := nm_got hz (.inl (by decide)) h1
  unfold frR
  generalize nmR zs 127 17 (at0 p) = x1 at *
  rw [a4.st] at h2 h3 h4 ⊢
  obtain ⟨b1, b2, b3, b4⟩ := nm_got hz (.inl (by decide)) h2
  generalize nmR zs 2047 17 (at0 (p + (uvar x1.1).length)) = x2 at *
  rw [b4.st] at h3 h4 ⊢
  obtain ⟨c1, c2, c3⟩ := ls_got hz (by decide) h3
  generalize lsR zs 64 (at0 (p + (uvar x1.1).length + (uvar x2.1).length)) = x3 at *
  rw [c3.st] at h4 ⊢
  obtain ⟨d1, d2, d3⟩ := ls_got hz (by decide) h4
  generalize lsR zs 256 (at0 (p + (uvar x1.1).length + (uvar x2.1).length + (encL x3.1).length)) = x4 at *
  refine ⟨⟨⟨a1, a2⟩, ⟨b1, b2⟩, by simp only; omega, by simp only; omega, c2, d2⟩, ?_⟩
  have g2 := Got.app ⟨rfl, a4.le, a4.eq⟩ b4
  have g3 := g2.app (by rw [List.length_append, ← Nat.add_assoc]; exact c3)
  have g4 := g3.app (by rw [List.length_append, List.length_append, ← Nat.add_assoc, ← Nat.add_assoc]; exact d3)
  exact g4
end Go.Proofs.YtbdjghokedfkfaaDoor
