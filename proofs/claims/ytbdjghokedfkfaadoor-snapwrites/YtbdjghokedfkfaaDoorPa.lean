/-
  Plain facts: what the writer wrote is read as itself: numbers, bytes, lists of numbers, frames.
-/
import Derived.Test.YtbdjghokedfkfaaDoorRj
namespace Go.Proofs.YtbdjghokedfkfaaDoor
open Go.RowKit
set_option linter.unusedVariables false
set_option maxRecDepth 100000

/-- At a place, with no error. -/
abbrev at0 (n : Nat) : RS := ((n : Int), (0 : Int))
theorem putW_ok (zs bs : List Int) : putW zs (bs, false) = (bs ++ zs, false) := rfl
theorem numW_is {v most : Int} {bs : List Int} (h : (numW v most (bs, false)).2 = false) : v ≤ most ∧ numW v most (bs, false) = (bs ++ uvar v, false) := by
  have h1 := (numW_ok h).1
  refine ⟨h1, ?_⟩
  unfold numW askW
  simp [h1, putW]
theorem octW_is {v least most : Int} {bs : List Int} (h : (octW v least most (bs, false)).2 = false) : least ≤ v ∧ v ≤ most ∧ octW v least most (bs, false) = (bs ++ [v], false) := by
  unfold octW putW at h
  split at h
  · rename_i hb; rw [hb] at h; cases h
  · simp [askW] at h
    refine ⟨h.1, h.2, ?_⟩
    unfold octW askW putW
    simp [h.1, h.2]
/-- A number that was written is read. -/
theorem nm_back (A R : List Int) (v most above : Int) (h0 : 0 ≤ v) (h1 : v < 18446744073709551616) (hm : v ≤ most) : nmR (A ++ uvar v ++ R) most above (at0 A.length) = (v, at0 (A.length + (uvar v).length)) := by
  unfold nmR nmE
  rw [read_back A R v h0 h1]
  simp only
  rw [if_neg (by omega)]
  simp [tkR]
theorem oc_back (A R : List Int) (v least most : Int) (h : least ≤ v ∧ v ≤ most) : ocR (A ++ [v] ++ R) least most (at0 A.length) = (v, at0 (A.length + 1)) := by
  unfold ocR
  rw [if_neg (by simp; omega)]
  have e : (A ++ [v] ++ R).getD (Int.toNat ((A.length : Int))) 0 = v := by simp
  simp only
  rw [e, if_neg (by omega)]
  simp [tkR]
/-- Things written one after the other are read one after the other. -/
theorem rl_back {α β : Type} (f : RS → β × RS) (enc : α → List Int) (val : α → β) (zs : List Int) :
    ∀ (l : List α) (A R : List Int), zs = A ++ l.flatMap enc ++ R →
      (∀ x ∈ l, ∀ A' R', zs = A' ++ enc x ++ R' → f (at0 A'.length) = (val x, at0 (A'.length + (enc x).length))) →
      ∀ k, k ≤ l.length → rlR f k (at0 A.length) = ((l.take k).map val, at0 (A.length + ((l.take k).flatMap enc).length)) := by
  intro l A R hz hf k
  induction k with
  | zero => intro _; simp [rlR]
  | succ k ih =>
    intro hk
    have ih := ih (by omega)
    have hx : k < l.length := by omega
    have ht : l.take (k + 1) = l.take k ++ [l[k]] := by rw [List.take_add_one, List.getElem?_eq_getElem hx]; rfl
    have hd : l = l.take k ++ [l[k]] ++ l.drop (k + 1) := by rw [← ht]; exact (List.take_append_drop _ _).symm
    have hzz : zs = (A ++ (l.take k).flatMap enc) ++ enc l[k] ++ ((l.drop (k + 1)).flatMap enc ++ R) := by
      rw [hz]
      have e : l.flatMap enc = (l.take k).flatMap enc ++ enc l[k] ++ (l.drop (k + 1)).flatMap enc := by
        conv => lhs; rw [hd]
        simp only [List.flatMap_append, List.flatMap_cons, List.flatMap_nil, List.append_nil]
      rw [e]
      simp only [List.append_assoc]
    have hq := hf l[k] (List.getElem_mem hx) _ _ hzz
    rw [List.length_append] at hq
    unfold rlR
    simp only [ih, hq]
    rw [ht, List.flatMap_append, List.length_append, List.map_append]
    simp [Nat.add_assoc]
theorem foldW_num {l : List Int} {bs : List Int} (h : (foldW valW l (bs, false)).2 = false) : foldW valW l (bs, false) = (bs ++ l.flatMap uvar, false) := by
  induction l generalizing bs with
  | nil => simp [foldW]
  | cons v l ih =>
    have h1 : (foldW valW l (valW v (bs, false))).2 = false := h
    have h2 := numW_is (foldW_ok valW_bad h1 : (numW v 18446744073709551615 (bs, false)).2 = false)
    have e : valW v (bs, false) = (bs ++ uvar v, false) := h2.2
    show foldW valW l (valW v (bs, false)) = _
    rw [e] at h1 ⊢
    rw [ih h1]
    simp
def encL (l : List Int) : List Int := uvar l.length ++ l.flatMap uvar
theorem listW_num {l : List Int} {most : Int} {bs : List Int} (h : (listW valW l most (bs, false)).2 = false) : (l.length : Int) ≤ most ∧ listW valW l most (bs, false) = (bs ++ encL l, false) := by
  unfold listW at h ⊢
  have h1 := numW_is (foldW_ok valW_bad h)
  rw [h1.2] at h ⊢
  refine ⟨h1.1, ?_⟩
  rw [foldW_num h]
  simp [encL]
theorem ls_back (A R : List Int) (l : List Int) (most : Int) (hl : (l.length : Int) ≤ most) (hb : l.length < 1099511627776) (hr : ∀ v ∈ l, 0 ≤ v ∧ v < 18446744073709551616) :
    lsR (A ++ encL l ++ R) most (at0 A.length) = (l, at0 (A.length + (encL l).length)) := by
  have hz : A ++ encL l ++ R = A ++ uvar l.length ++ (l.flatMap uvar ++ R) := by simp [encL]
  have h1 := nm_back A (l.flatMap uvar ++ R) l.length most 20 (by omega) (by omega) hl
  rw [← hz] at h1
  unfold lsR
  rw [h1]
  simp only [Int.toNat_natCast]
  have hz2 : A ++ encL l ++ R = (A ++ uvar l.length) ++ l.flatMap uvar ++ R := by simp [encL]
  have h2 := rl_back (vlR (A ++ encL l ++ R)) uvar id (A ++ encL l ++ R) l (A ++ uvar l.length) R hz2 (fun x hx A' R' hh => by
    unfold vlR
    rw [hh]
    exact nm_back A' R' x _ _ (hr x hx).1 (hr x hx).2 (by have := (hr x hx).2; omega)) l.length (Nat.le_refl _)
  rw [List.length_append] at h2
  rw [h2]
  simp [encL]
  omega
/-- A frame. -/
def encF (x : FrM) : List Int := uvar (u64 x.1) ++ uvar (u64 x.2.1) ++ encL x.2.2.1.2 ++ encL x.2.2.2.2
theorem frW_is {x : FrM} {bs : List Int} (h : (frW x (bs, false)).2 = false) : u64 x.1 ≤ 127 ∧ u64 x.2.1 ≤ 2047 ∧ x.2.2.1.2.length ≤ 64 ∧ x.2.2.2.2.length ≤ 256 ∧ frW x (bs, false) = (bs ++ encF x, false) := by
  unfold frW at h ⊢
  have g4 : (listW valW x.2.2.1.2 64 (numW (u64 x.2.1) 2047 (numW (u64 x.1) 127 (bs, false)))).2 = false := by
    cases hb : (listW valW x.2.2.1.2 64 (numW (u64 x.2.1) 2047 (numW (u64 x.1) 127 (bs, false)))).2 with
    | false => rfl
    | true => rw [listW_bad valW_bad _ _ _ hb, hb] at h; cases h
  have g3 : (numW (u64 x.2.1) 2047 (numW (u64 x.1) 127 (bs, false))).2 = false := by
    cases hb : (numW (u64 x.2.1) 2047 (numW (u64 x.1) 127 (bs, false))).2 with
    | false => rfl
    | true => rw [listW_bad valW_bad _ _ _ hb, hb] at g4; cases g4
  have g2 : (numW (u64 x.1) 127 (bs, false)).2 = false := (numW_ok g3).2
  have a1 := numW_is g2
  rw [a1.2] at g3 g4 h ⊢
  have a2 := numW_is g3
  rw [a2.2] at g4 h ⊢
  have a3 := listW_num g4
  rw [a3.2] at h ⊢
  have a4 := listW_num h
  exact ⟨a1.1, a2.1, by omega, by omega, by rw [a4.2]; simp [encF]⟩
theorem u64_small {v m : Int} (h : -9223372036854775808 ≤ v ∧ v < 9223372036854775808) (hm : m < 9223372036854775808) (hu : u64 v ≤ m) : u64 v = v ∧ 0 ≤ v := by
  simp only [u64, IntKind.wrap_u64] at hu ⊢
  omega
theorem fr_back (A R : List Int) (x : FrM) (h1 : u64 x.1 ≤ 127) (h2 : u64 x.2.1 ≤ 2047) (h3 : x.2.2.1.2.length ≤ 64) (h4 : x.2.2.2.2.length ≤ 256) (hr : FrR x) (g1 : -9223372036854775808 ≤ x.1 ∧ x.1 < 9223372036854775808) (g2 : -9223372036854775808 ≤ x.2.1 ∧ x.2.1 < 9223372036854775808) :
    frR (A ++ encF x ++ R) (at0 A.length) = (plF x, at0 (A.length + (encF x).length)) := by
  have z1 : A ++ encF x ++ R = A ++ uvar (u64 x.1) ++ (uvar (u64 x.2.1) ++ encL x.2.2.1.2 ++ encL x.2.2.2.2 ++ R) := by simp [encF]
  have z2 : A ++ encF x ++ R = (A ++ uvar (u64 x.1)) ++ uvar (u64 x.2.1) ++ (encL x.2.2.1.2 ++ encL x.2.2.2.2 ++ R) := by simp [encF]
  have z3 : A ++ encF x ++ R = (A ++ uvar (u64 x.1) ++ uvar (u64 x.2.1)) ++ encL x.2.2.1.2 ++ (encL x.2.2.2.2 ++ R) := by simp [encF]
  have z4 : A ++ encF x ++ R = (A ++ uvar (u64 x.1) ++ uvar (u64 x.2.1) ++ encL x.2.2.1.2) ++ encL x.2.2.2.2 ++ R := by simp [encF]
  have b1 := nm_back A (uvar (u64 x.2.1) ++ encL x.2.2.1.2 ++ encL x.2.2.2.2 ++ R) (u64 x.1) 127 17 (u64_rng _).1 (u64_rng _).2 h1
  have b2 := nm_back (A ++ uvar (u64 x.1)) (encL x.2.2.1.2 ++ encL x.2.2.2.2 ++ R) (u64 x.2.1) 2047 17 (u64_rng _).1 (u64_rng _).2 h2
  have b3 := ls_back (A ++ uvar (u64 x.1) ++ uvar (u64 x.2.1)) (encL x.2.2.2.2 ++ R) x.2.2.1.2 64 (by omega) (by omega) hr.1
  have b4 := ls_back (A ++ uvar (u64 x.1) ++ uvar (u64 x.2.1) ++ encL x.2.2.1.2) R x.2.2.2.2 256 (by omega) (by omega) hr.2
  rw [← z1] at b1
  rw [← z2] at b2
  rw [← z3] at b3
  rw [← z4] at b4
  have u1 := (u64_small g1 (by decide) h1).1
  have u2 := (u64_small g2 (by decide) h2).1
  simp only [List.length_append] at b2 b3 b4
  unfold frR
  rw [b1]
  simp only
  rw [b2]
  simp only
  rw [b3]
  simp only
  rw [b4]
  simp only
  rw [u1, u2]
  simp [plF, encF, u1, u2]
  omega
end Go.Proofs.YtbdjghokedfkfaaDoor
