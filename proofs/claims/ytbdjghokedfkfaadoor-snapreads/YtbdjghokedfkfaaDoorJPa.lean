/-
  Plain facts: what the writer wrote is read as itself: numbers, bytes, lists of numbers, frames.
-/
import Derived.Test.YtbdjghokedfkfaaDoorRj
namespace Go.Proofs.YtbdjghokedfkfaaDoor
open Go.RowKit
set_option linter.unusedVariables false
set_option maxRecDepth 100000

/-- At a place, with no error. -/
abbrev at0 (n : Nat) : RS := ((n : Int), (0 : Int))
theorem putW_ok (zs bs : List Int) : putW zs (bs, false) = (bs ++ zs, false) := rfl
theorem numW_is {v most : Int} {bs : List Int} (h : (numW v most (bs, false)).2 = false) : v ≤ most ∧ numW v most (bs, false) = (bs ++ uvar v, false) := by
  have h1 := (numW_ok h).1
  refine ⟨h1, ?_⟩
  unfold numW askW
  simp [h1, putW]
theorem octW_is {v least most : Int} {bs : List Int} (h : (octW v least most (bs, false)).2 = false) : least ≤ v ∧ v ≤ most ∧ octW v least most (bs, false) = (bs ++ [v], false) := by
  unfold octW putW at h
  split at h
  · rename_i hb; rw [hb] at h; cases h
  · simp [askW] at h
    refine ⟨h.1, h.2, ?_⟩
    unfold octW askW putW
    simp [h.1, h.2]
/-- A number that was written is read. -/
theorem nm_back (A R : List Int) (v most above : Int) (h0 : 0 ≤ v) (h1 : v < 18446744073709551616) (hm : v ≤ most) : nmR (A ++ uvar v ++ R) most above (at0 A.length) = (v, at0 (A.length + (uvar v).length)) := by
  unfold nmR nmE
  rw [read_back A R v h0 h1]
  simp only
  rw [if_neg (by omega)]
  simp [tkR]
theorem oc_back (A R : List Int) (v least most : Int) (h : least ≤ v ∧ v ≤ most) : ocR (A ++ [v] ++ R) least most (at0 A.length) = (v, at0 (A.length + 1)) := by
  unfold ocR
  rw [if_neg (by simp; omega)]
  have e : (A ++ [v] ++ R).getD (Int.toNat ((A.length : Int))) 0 = v := by simp
  simp only
  rw [e, if_neg (by omega)]
  simp [tkR]
/-- Things written one after the other are read one after the other. -/
theorem rl_back {α β : Type} (f : RS → β × RS) (enc : α → List Int) (val : α → β) (zs : List Int) :
    ∀ (l : List α) (A R : List Int), zs = A ++ l.flatMap enc ++ R →
      (∀ x ∈ l, ∀ A' R', zs = A' ++ enc x ++ R' → f (at0 A'.length) = (val x, at0 (A'.length + (enc x).length))) →
      ∀ k, k ≤ l.length → rlR f k (at0 A.length) = ((l.take k).map val, at0 (A.length + ((l.take k).flatMap enc).length)) := by
  intro l A R hz hf k
  induction k with
  | zero => intro _; simp [rlR]
  | succ k ih =>
    intro hk
    have ih := ih (by omega)
    have hx : k < l.length := by omega
    have ht : l.take (k + 1) = l.take k ++ [l[k]] := by rw [List.take_add_one, List.getElem?_eq_getElem hx]; rfl
    have hd : l = l.take k ++ [l[k]] ++ l.drop (k + 1) := by rw [← ht]; exact (List.take_append_drop _ _).symm
    have hzz : zs = (A ++ (l.take k).flatMap enc) ++ enc l[k] ++ ((l.drop (k + 1)).flatMap enc ++ R) := by
      rw [hz]
      have e : l.flatMap enc = (l.take k).flatMap enc ++ enc l[k] ++ (l.drop (k + 1)).flatMap enc := by
        conv => lhs; rw [hd]
        simp only [List.flatMap_append, List.flatMap_cons, List.flatMap_nil, List.append_nil]
      rw [e]
      simp only [List.append_assoc]
    have hq := hf l[k] (List.getElem_mem hx) _ _ hzz
    rw [List.length_append] at hq
    unfold rlR
    simp only [ih, hq]
    rw [ht, List.flatMap_append, List.length_append, List.map_append]
    simp [Nat.add_assoc]
theorem foldW_num {l : List Int} {bs : List Int} (h : (foldW valW l (bs, false)).2 = false) : foldW valW l (bs, false) = (bs ++ l.flatMap uvar, false) := by
  induction l generalizing bs with
  | nil => simp [foldW]
  | cons v l ih =>
    have h1 : (foldW valW l (valW v (bs, false))).2 = false := h
    have h2 := numW_is (foldW_ok valW_bad h1 : (numW v 18446744073709551615 (bs, false)).2 = false)
    have e : valW v (bs, false) = (bs ++ uvar v, false) := h2.2
    show foldW valW l (valW v (bs, false)) = _
    rw [e] at h1 ⊢
    rw [ih h1]
    simp
def encL (l : List Int) : List Int := uvar l.length ++ l.flatMap uvar
theorem listW_num {l : List Int} {most : Int} {bs : List Int} (h : (listW valW l most (bs, false)).2 = false) : (l.length : Int) ≤ most ∧ listW valW l most (bs, false) = (bs ++ encL l, false) := by
  unfold listW at h ⊢
  have h1 := numW_is (foldW_ok valW_bad h)
  rw [h1.2] at h ⊢
  refine ⟨h1.1, ?_⟩
  rw [foldW_num h]
  simp [encL]
theorem ls_back (A R : List Int) (l : List Int) (most : Int) (hl : (l.length : Int) ≤ most) (hb : l.length < 1099511627776) (hr : ∀ v ∈ l, 0 ≤ v ∧ v < 18446744073709551616) :
    lsR (A ++ encL l ++ R) most (at0 A.length) = (l, at0 (A.length + (encL l).length)) := by
  have hz : A ++ encL l ++ R = A ++ uvar l.length ++ (l.flatMap uvar ++ R) := by simp [encL]
  have h1 := nm_back A (l.flatMap uvar ++ R) l.length most 20 (by omega) (by omega) hl
  rw [← hz] at h1
  unfold lsR
  rw [h1]
  simp only [Int.toNat_natCast]
  have hz2 : A ++ encL l ++ R = (A ++ uvar l.length) ++ l.flatMap uvar ++ R := by simp [encL]
  have h2 := rl_back (vlR (A ++ encL l ++ R)) uvar id (A ++ encL l ++ R) l (A ++ uvar l.length) R hz2 (fun x hx A' R' hh => by
    unfold vlR
    rw [hh]
    exact nm_back A' R' x _ _ (hr x hx).1 (hr x hx).2 (by have := (hr x hx).2; omega)) l.length (Nat.le_refl _)
  rw [List.length_append] at h2
  rw [h2]
  simp [encL]
  omega
/-- A frame. -/
def encF (x : FrM) : List Int := uvar (u64 x.1) ++ uvar (u64 x.2.1) ++ encL x.2.2.1.2 ++ encL x.2.2.2.2
theorem frW_is {x : FrM} {bs : List Int} (h : (frW x (bs, false)).2 = false) : u64 x.1 ≤ 127 ∧ u64 x.2.1 ≤ 2047 ∧ x.2.2.1.2.length ≤ 64 ∧ x.2.2.2.2.length ≤ 256 ∧ frW x (bs, false) = (bs ++ encF x, false) := by
  unfold frW at h ⊢
  have g4 : (listW valW x.2.2.1.2 64 (numW (u64 x.2.1) 2047 (numW (u64 x.1) 127 (bs, false)))).2 = false := by
    cases hb : (listW valW x.2.2.1.2 64 (numW (u64 x.2.1) 2047 (numW (u64 x.1) 127 (bs, false)))).2 with
    | false => rfl
    | true => rw [listW_bad valW_bad _ _ _ hb, hb] at h; cases h
  have g3 : (numW (u64 x.2.1) 2047 (numW (u64 x.1) 127 (bs, false))).2 = false := by
    cases hb : (numW (u64 x.2.1) 2047 (numW (u64 x.1) 127 (bs, false))).2 with
    | false => rfl
    | true => rw [listW_bad valW_bad _ _ _ hb, hb] at g4; cases g4
  have g2 : (numW (u64 x.1) 127 (bs, false)).2 = false := (numW_ok g3).2
  have a1 := numW_is g2
  rw [a1.2] at g3 g4 h ⊢
  have a2 := numW_is g3
  rw [a2.2] at g4 h ⊢
  have a3 := listW_num g4
  rw [a3.2] at h ⊢
  have a4 := listW_num h
  exact ⟨a1.1, a2.1, by omega, by omega, by rw [a4.2]; simp [encF]⟩
theorem u64_small {v m : Int} (h : -9223372036854775808 ≤ v ∧ v < 9223372036854775808) (hm : m < 9223372036854775808) (hu : u64 v ≤ m) : u64 v = v ∧ 0 ≤ v := by
  simp only [u64, IntKind.wrap_u64] at hu ⊢
  omega
theorem fr_back (A R : List Int) (x : FrM) (h1 : u64 x.1 ≤ 127) (h2 : u64 x.2.1 ≤ 2047) (h3 : x.2.2.1.2.length ≤ 64) (h4 : x.2.2.2.2.length ≤ 256) (hr : FrR x) (g1 : -9223372036854775808 ≤ x.1 ∧ x.1 < 9223372036854775808) (g2 : -9223372036854775808 ≤ x.2.1 ∧ x.2.1 < 9223372036854775808) :
    frR (A ++ encF x ++ R) (at0 A.length) = (plF x, at0 (A.length + (encF x).length)) := by
  have z1 : A ++ encF x ++ R = A ++ uvar (u64 x.1) ++ (uvar (u64 x.2.1) ++ encL x.2.2.1.2 ++ encL x.2.2.2.2 ++ R) := by simp [encF]
  have z2 : A ++ encF x ++ R = (A ++ uvar (u64 x.1)) ++ uvar (u64 x.2.1) ++ (encL x.2.2.1.2 ++ encL x.2.2.2.2 ++ R) := by simp [encF]
  have z3 : A ++ encF x ++ R = (A ++ uvar (u64 x.1) ++ uvar (u64 x.2.1)) ++ encL x.2.2.1.2 ++ (encL x.2.2.2.2 ++ R) := by simp [encF]
  have z4 : A ++ encF x ++ R = (A ++ uvar (u64 x.1) ++ uvar (u64 x.2.1) ++ encL x.2.2.1.2) ++ encL x.2.2.2.2 ++ R := by simp [encF]
  have b1 := nm_back A (uvar (u64 x.2.1) ++ encL x.2.2.1.2 ++ encL x.2.2.2.2 ++ R) (u64 x.1) 127 17 (u64_rng _).1 (u64_rng _).2 h1
  have b2 := nm_back (A ++ uvar (u64 x.1)) (encL x.2.2.1.2 ++ encL x.2.2.2.2 ++ R) (u64 x.2.1) 2047 17 (u64_rng _).1 (u64_rng _).2 h2
  have b3 := ls_back (A ++ uvar (u64 x.1) ++ uvar (u64 x.2.1)) (encL x.2.2.2.2 ++ R) x.2.2.1.2 64 (by omega) (by omega) hr.1
  have b4 := ls_back (A ++ uvar (u64 x.1) ++ uvar (u64 x.2.1) ++ encL x.2.2.1.2) R x.2.2.2.2 256 (by omega) (by omega) hr.2
  rw [← z1] at b1
  rw [← z2] at b2
  rw [← z3] at b3
  rw [← z4] at b4
  have u1 := (u64_small g1 (by decide) h1).1
  have u2 := (u64_small g2 (by decide) h2).1
  simp only [List.length_append] at b2 b3 b4
  unfold frR
  rw [b1]
  simp only
  rw [b2]
  simp only
  rw [b3]
  simp only
  rw [b4]
  simp only
  rw [u1, u2]
  simp [plF, encF, u1, u2]
  omega
end Go.Proofs.YtbdjghokedfkfaaDoor

/-
  Plain facts: the pages that were written are read.
-/
namespace Go.Proofs.YtbdjghokedfkfaaDoor
open Go.RowKit
set_option linter.unusedVariables false
set_option maxRecDepth 100000

/-- A page's bytes in the text. -/
def encK (ps : List PgM) (k : Int) : List Int := uvar k ++ (ps[k.toNat]?).elim [] (fun x => x.2)
theorem foldW_pgK {ps : List PgM} : ∀ {l : List Int} {bs : List Int}, (foldW (pgK ps) l (bs, false)).2 = false → (∀ k ∈ l, k ≤ 64) ∧ foldW (pgK ps) l (bs, false) = (bs ++ l.flatMap (encK ps), false)
  | [], bs, _ => ⟨fun k hk => (by cases hk), by simp [foldW]⟩
  | k :: l, bs, h => by
    have h1 : (foldW (pgK ps) l (pgK ps k (bs, false))).2 = false := h
    have h2 := foldW_ok (pgK_bad ps) h1
    have h3 : (numW k 64 (bs, false)).2 = false := by
      cases hb : (numW k 64 (bs, false)).2 with
      | false => rfl
      | true => unfold pgK at h2; rw [putW_bad _ _ hb, hb] at h2; cases h2
    have h4 := numW_is h3
    have e : pgK ps k (bs, false) = (bs ++ encK ps k, false) := by
      unfold pgK
      rw [h4.2]
      simp [putW, encK]
    rw [e] at h1
    have ih := foldW_pgK h1
    refine ⟨fun q hq => ?_, ?_⟩
    · rcases List.mem_cons.1 hq with rfl | hq
      · exact h4.1
      · exact ih.1 q hq
    · show foldW (pgK ps) l (pgK ps k (bs, false)) = _
      rw [e, ih.2]
      simp
def encP (ps : List PgM) : List Int := uvar ps.length ++ uvar (idx ps).length ++ (idx ps).flatMap (encK ps)
theorem foldA_is {ps : List PgM} {s : WS} (h : (foldW pgA ps s).2 = false) : foldW pgA ps s = s := by
  have h1 := foldW_ok pgA_bad h
  have h2 := foldW_same (ps := ps) (s := s)
  obtain ⟨bs, bad⟩ := s
  dsimp only at h1
  subst h1
  exact Prod.ext h2 h
theorem pagesW_is {ps : List PgM} {bs : List Int} (h : (pagesW ps (bs, false)).2 = false) : ps.length ≤ 64 ∧ (∀ x ∈ ps, x.1.2.1 = 4096) ∧ pagesW ps (bs, false) = (bs ++ encP ps, false) := by
  unfold pagesW at h ⊢
  have g2 : (foldW pgA ps (numW ps.length 64 (bs, false))).2 = false := by
    cases hb : (foldW pgA ps (numW ps.length 64 (bs, false))).2 with
    | false => rfl
    | true => rw [listW_bad (pgK_bad ps) _ _ _ hb, hb] at h; cases h
  have a1 := numW_is (foldW_ok pgA_bad g2)
  have ha := pgA_all g2
  rw [foldA_is g2, a1.2] at h ⊢
  unfold listW at h ⊢
  have a2 := numW_is (foldW_ok (pgK_bad ps) h)
  rw [a2.2] at h ⊢
  have a3 := foldW_pgK h
  refine ⟨by have := a1.1; omega, ha, ?_⟩
  rw [a3.2]
  simp [encP]
/-- Pages set up to the j-th of those that are written. -/
def pgUp (ps : List PgM) (l : List Int) : List (List Int) := l.foldl (fun q k => q.set k.toNat ((ps[k.toNat]?).elim [] (fun x => x.2))) (List.replicate ps.length Zp)
theorem pn_back (A R : List Int) (v least count : Int) (h0 : 0 ≤ v) (h1 : v < 18446744073709551616) (hl : least ≤ v) (hc : v < count) : pnR (A ++ uvar v ++ R) least count (at0 A.length) = (v, at0 (A.length + (uvar v).length)) := by
  unfold pnR pnE
  rw [read_back A R v h0 h1]
  simp only
  rw [if_neg (by simp), if_neg (by omega), if_neg (by omega)]
  simp [tkR]
theorem pg_back (A R l : List Int) (hl : l.length = 4096) (hz : l ≠ Zp) : pgL (A ++ l ++ R) (at0 A.length).1.toNat = l ∧ pgR (A ++ l ++ R) (at0 A.length) = at0 (A.length + 4096) := by
  have e : pgT (A ++ l ++ R) A.length = l := by
    unfold pgT
    rw [List.append_assoc, List.drop_left, List.take_append_of_le_length (by omega), List.take_of_length_le (by omega)]
  have e2 : pgL (A ++ l ++ R) A.length = l := by
    unfold pgL
    rw [e, hl, List.drop_eq_nil_of_le (by rw [Zp_len]; omega), List.append_nil]
  refine ⟨by simpa using e2, ?_⟩
  have hx : pgX (A ++ l ++ R) A.length = 0 := by
    unfold pgX
    rw [if_neg (by rw [e]; omega), if_neg (by rw [e2]; exact hz)]
  unfold pgR
  simp only [Int.toNat_natCast]
  rw [hx, e, hl]
  simp [tkR]
/-- The least that the next one's number may be. -/
def leA (l : List Int) : Int := (l.getLast?).elim 0 (fun k => k + 1)
theorem idx_asc (ps : List PgM) : (idx ps).Pairwise (· < ·) := by
  unfold idx idxTo
  rw [List.pairwise_map]
  refine List.Pairwise.filter _ ?_
  exact (List.pairwise_lt_range).imp (fun h => by omega)
theorem asc_le {l : List Int} (h : l.Pairwise (· < ·)) (h0 : ∀ k ∈ l, 0 ≤ k) (j : Nat) (hj : j < l.length) : leA (l.take j) ≤ l[j] := by
  unfold leA
  cases hq : (l.take j).getLast? with
  | none => exact h0 _ (List.getElem_mem hj)
  | some k =>
    show k + 1 ≤ l[j]
    have hm := List.mem_of_getLast? hq
    obtain ⟨i, hi, e⟩ := List.getElem_of_mem hm
    rw [List.length_take] at hi
    rw [List.getElem_take] at e
    have := List.pairwise_iff_getElem.1 h i j (by omega) hj (by omega)
    omega
theorem pgI_back (ps : List PgM) (hp : ∀ x ∈ ps, x.2.length = 4096) (hn : ps.length ≤ 64) (A R zs : List Int) (hz : zs = A ++ (idx ps).flatMap (encK ps) ++ R) :
    ∀ j, j ≤ (idx ps).length → pgI zs ps.length j (List.replicate ps.length Zp, 0, at0 A.length) = (pgUp ps ((idx ps).take j), leA ((idx ps).take j), at0 (A.length + (((idx ps).take j).flatMap (encK ps)).length)) := by
  intro j
  induction j with
  | zero => intro _; simp [pgI, pgUp, leA]
  | succ j ih =>
    intro hj
    have ih := ih (by omega)
    have hx : j < (idx ps).length := by omega
    have ht : (idx ps).take (j + 1) = (idx ps).take j ++ [(idx ps)[j]] := by rw [List.take_add_one, List.getElem?_eq_getElem hx]; rfl
    have hd : idx ps = (idx ps).take j ++ [(idx ps)[j]] ++ (idx ps).drop (j + 1) := by rw [← ht]; exact (List.take_append_drop _ _).symm
    obtain ⟨i, y, hk, hi, hy, hne⟩ := idx_mem (List.getElem_mem hx)
    have hle := asc_le (idx_asc ps) (fun k hk => by obtain ⟨i, _, e, _⟩ := idx_mem hk; omega) j hx
    have hyl := hp y (List.mem_of_getElem? hy)
    have he : encK ps (idx ps)[j] = uvar (idx ps)[j] ++ y.2 := by unfold encK; rw [hk, Int.toNat_natCast, hy]; rfl
    have hzz : zs = (A ++ ((idx ps).take j).flatMap (encK ps)) ++ uvar (idx ps)[j] ++ (y.2 ++ (((idx ps).drop (j + 1)).flatMap (encK ps) ++ R)) := by
      rw [hz]
      have e : (idx ps).flatMap (encK ps) = ((idx ps).take j).flatMap (encK ps) ++ encK ps (idx ps)[j] ++ ((idx ps).drop (j + 1)).flatMap (encK ps) := by
        conv => lhs; rw [hd]
        simp only [List.flatMap_append, List.flatMap_cons, List.flatMap_nil, List.append_nil]
      rw [e, he]
      simp only [List.append_assoc]
    have hzz2 : zs = (A ++ ((idx ps).take j).flatMap (encK ps) ++ uvar (idx ps)[j]) ++ y.2 ++ (((idx ps).drop (j + 1)).flatMap (encK ps) ++ R) := by rw [hzz]; simp only [List.append_assoc]
    have b1 := pn_back (A ++ ((idx ps).take j).flatMap (encK ps)) (y.2 ++ (((idx ps).drop (j + 1)).flatMap (encK ps) ++ R)) (idx ps)[j] (leA ((idx ps).take j)) ps.length (by omega) (by omega) hle (by omega)
    rw [← hzz, List.length_append] at b1
    have b2 := pg_back (A ++ ((idx ps).take j).flatMap (encK ps) ++ uvar (idx ps)[j]) (((idx ps).drop (j + 1)).flatMap (encK ps) ++ R) y.2 hyl hne
    rw [← hzz2, List.length_append, List.length_append] at b2
    show pgS zs ps.length (pgI zs ps.length j _) = _
    rw [ih]
    unfold pgS
    simp only [b1]
    rw [b2.1, b2.2, ht]
    refine Prod.ext ?_ (Prod.ext ?_ ?_)
    · simp only [pgUp, List.foldl_append, List.foldl_cons, List.foldl_nil]
      rw [hk, Int.toNat_natCast, hy]
      rfl
    · unfold leA
      rw [List.getLast?_concat]
      rfl
    · simp only [List.flatMap_append, List.flatMap_cons, List.flatMap_nil, List.append_nil, List.length_append, he, hyl, Nat.add_assoc]
abbrev pgOf (ps : List PgM) (k : Int) : List Int := (ps[k.toNat]?).elim [] (fun x => x.2)
theorem up_get (ps : List PgM) : ∀ (l : List Int) (q : List (List Int)) (i : Nat), (∀ k ∈ l, 0 ≤ k) → i < q.length →
    (l.foldl (fun q k => q.set k.toNat (pgOf ps k)) q)[i]? = if (i : Int) ∈ l then some (pgOf ps i) else q[i]?
  | [], q, i, _, _ => by simp
  | k :: l, q, i, h, hi => by
    rw [List.foldl_cons, up_get ps l _ i (fun k hk => h k (by simp [hk])) (by rw [List.length_set]; exact hi)]
    have h0 := h k (by simp)
    by_cases hm : (i : Int) ∈ l
    · rw [if_pos hm, if_pos (by simp [hm])]
    · rw [if_neg hm, List.getElem?_set]
      by_cases hk : k = (i : Int)
      · subst hk
        rw [if_pos (by simp), if_pos (by simpa using hi), if_pos (by simp)]
      · rw [if_neg (by omega), if_neg (by simp [hm]; omega)]
theorem up_len (ps : List PgM) : ∀ (l : List Int) (q : List (List Int)), (l.foldl (fun q k => q.set k.toNat (pgOf ps k)) q).length = q.length
  | [], q => rfl
  | k :: l, q => by rw [List.foldl_cons, up_len ps l, List.length_set]
theorem pgUp_all (ps : List PgM) : pgUp ps (idx ps) = ps.map (fun x => x.2) := by
  apply List.ext_getElem?
  intro i
  unfold pgUp
  by_cases hi : i < ps.length
  · rw [up_get ps (idx ps) _ i (fun k hk => by obtain ⟨i, _, e, _⟩ := idx_mem hk; omega) (by simpa using hi)]
    rw [List.getElem?_map, List.getElem?_eq_getElem hi, List.getElem?_replicate, if_pos hi]
    have hpg : pgOf ps (i : Int) = ps[i].2 := by
      unfold pgOf
      rw [Int.toNat_natCast, List.getElem?_eq_getElem hi]
      rfl
    by_cases hm : (i : Int) ∈ idx ps
    · rw [if_pos hm, hpg]; rfl
    · rw [if_neg hm]
      have : ps[i].2 = Zp := by
        refine Classical.byContradiction (fun hne => hm ?_)
        unfold idx idxTo
        rw [List.mem_map]
        exact ⟨i, by rw [List.mem_filter, List.mem_range]; exact ⟨hi, by rw [List.getElem?_eq_getElem hi]; simpa using hne⟩, rfl⟩
      rw [← this]; rfl
  · rw [List.getElem?_eq_none (by rw [up_len, List.length_replicate]; omega), List.getElem?_eq_none (by rw [List.length_map]; omega)]
/-- The pages that were written are read. -/
theorem pgs_back (ps : List PgM) (hp : ∀ x ∈ ps, x.2.length = 4096) (hn : ps.length ≤ 64) (A R : List Int) : pgsR (A ++ encP ps ++ R) (at0 A.length) = (ps.map (fun x => x.2), at0 (A.length + (encP ps).length)) := by
  have hil : (idx ps).length ≤ ps.length := idxTo_len ps _
  have z1 : A ++ encP ps ++ R = A ++ uvar ps.length ++ (uvar (idx ps).length ++ (idx ps).flatMap (encK ps) ++ R) := by simp [encP]
  have z2 : A ++ encP ps ++ R = (A ++ uvar ps.length) ++ uvar (idx ps).length ++ ((idx ps).flatMap (encK ps) ++ R) := by simp [encP]
  have z3 : A ++ encP ps ++ R = (A ++ uvar ps.length ++ uvar (idx ps).length) ++ (idx ps).flatMap (encK ps) ++ R := by simp [encP]
  have b1 := nm_back A (uvar (idx ps).length ++ (idx ps).flatMap (encK ps) ++ R) ps.length 64 20 (by omega) (by omega) (by omega)
  have b2 := nm_back (A ++ uvar ps.length) ((idx ps).flatMap (encK ps) ++ R) (idx ps).length ps.length 20 (by omega) (by omega) (by omega)
  have b3 := pgI_back ps hp hn (A ++ uvar ps.length ++ uvar (idx ps).length) R (A ++ encP ps ++ R) z3 (idx ps).length (Nat.le_refl _)
  rw [← z1] at b1
  rw [← z2] at b2
  rw [List.take_of_length_le (Nat.le_refl _), pgUp_all] at b3
  simp only [List.length_append] at b2 b3
  unfold pgsR
  rw [b1]
  simp only
  rw [b2]
  simp only [Int.toNat_natCast]
  rw [b3]
  simp [encP, Nat.add_assoc]
end Go.Proofs.YtbdjghokedfkfaaDoor

/-
  Plain facts: a state that was written is read as itself.
-/
namespace Go.Proofs.YtbdjghokedfkfaaDoor
open Go.RowKit
set_option linter.unusedVariables false
set_option maxRecDepth 100000

def i64R (v : Int) : Prop := -9223372036854775808 ≤ v ∧ v < 9223372036854775808
theorem foldW_fr : ∀ {l : List FrM} {bs : List Int}, (foldW frW l (bs, false)).2 = false → (∀ x ∈ l, u64 x.1 ≤ 127 ∧ u64 x.2.1 ≤ 2047 ∧ x.2.2.1.2.length ≤ 64 ∧ x.2.2.2.2.length ≤ 256) ∧ foldW frW l (bs, false) = (bs ++ l.flatMap encF, false)
  | [], bs, _ => ⟨fun k hk => (by cases hk), by simp [foldW]⟩
  | x :: l, bs, h => by
    have h1 : (foldW frW l (frW x (bs, false))).2 = false := h
    have h2 := frW_is (foldW_ok frW_bad h1)
    rw [h2.2.2.2.2] at h1
    have ih := foldW_fr h1
    refine ⟨fun q hq => ?_, ?_⟩
    · rcases List.mem_cons.1 hq with rfl | hq
      · exact ⟨h2.1, h2.2.1, h2.2.2.1, h2.2.2.2.1⟩
      · exact ih.1 q hq
    · show foldW frW l (frW x (bs, false)) = _
      rw [h2.2.2.2.2, ih.2]
      simp
def encFs (l : List FrM) : List Int := uvar l.length ++ l.flatMap encF
def encS (x : StM) : List Int := [x.en] ++ [x.tr] ++ uvar (u64 x.us) ++ uvar (u64 x.rep) ++ encL x.rs ++ encL x.gs ++ encP x.ps ++ encFs x.fs
/-- What was asked of a state that is written. -/
structure OkS (x : StM) : Prop where
  en : 1 ≤ x.en ∧ x.en ≤ 3
  tr : 0 ≤ x.tr ∧ x.tr ≤ 6
  us : u64 x.us ≤ 4611686018427387904
  rep : u64 x.rep ≤ 9223372036854775807
  rs : x.rs.length ≤ 8
  gs : x.gs.length ≤ 64
  ps : x.ps.length ≤ 64
  pl : ∀ p ∈ x.ps, p.1.2.1 = 4096
  fs : x.fs.length ≤ 64
  fl : ∀ f ∈ x.fs, u64 f.1 ≤ 127 ∧ u64 f.2.1 ≤ 2047 ∧ f.2.2.1.2.length ≤ 64 ∧ f.2.2.2.2.length ≤ 256
theorem stW_is {x : StM} {bs : List Int} (h : (stW x (bs, false)).2 = false) : OkS x ∧ stW x (bs, false) = (bs ++ encS x, false) := by
  unfold stW at h ⊢
  have k1 : ∀ {s : WS}, (listW frW x.fs 64 s).2 = false → s.2 = false := fun {s} hh => by
    cases hb : s.2 with
    | false => rfl
    | true => rw [listW_bad frW_bad _ _ _ hb, hb] at hh; cases hh
  have k2 : ∀ {s : WS}, (pagesW x.ps s).2 = false → s.2 = false := fun {s} hh => by
    cases hb : s.2 with
    | false => rfl
    | true => rw [pagesW_bad _ _ hb, hb] at hh; cases hh
  have k3 : ∀ {l : List Int} {m : Int} {s : WS}, (listW valW l m s).2 = false → s.2 = false := fun {l m s} hh => by
    cases hb : s.2 with
    | false => rfl
    | true => rw [listW_bad valW_bad _ _ _ hb, hb] at hh; cases hh
  have k4 : ∀ {v m : Int} {s : WS}, (numW v m s).2 = false → s.2 = false := fun {v m s} hh => (numW_ok hh).2
  have k5 : ∀ {v l m : Int} {s : WS}, (octW v l m s).2 = false → s.2 = false := fun {v l m s} hh => by
    cases hb : s.2 with
    | false => rfl
    | true => rw [octW_bad _ _ _ _ hb, hb] at hh; cases hh
  have g7 := k1 h
  have g6 := k2 g7
  have g5 := k3 g6
  have g4 := k3 g5
  have g3 := k4 g4
  have g2 := k4 g3
  have g1 := k5 g2
  have a1 := octW_is g1
  rw [a1.2.2] at g2 g3 g4 g5 g6 g7 h ⊢
  have a2 := octW_is g2
  rw [a2.2.2] at g3 g4 g5 g6 g7 h ⊢
  have a3 := numW_is g3
  rw [a3.2] at g4 g5 g6 g7 h ⊢
  have a4 := numW_is g4
  rw [a4.2] at g5 g6 g7 h ⊢
  have a5 := listW_num g5
  rw [a5.2] at g6 g7 h ⊢
  have a6 := listW_num g6
  rw [a6.2] at g7 h ⊢
  have a7 := pagesW_is g7
  rw [a7.2.2] at h ⊢
  unfold listW at h ⊢
  have a8 := numW_is (foldW_ok frW_bad h)
  rw [a8.2] at h ⊢
  have a9 := foldW_fr h
  refine ⟨⟨⟨a1.1, a1.2.1⟩, ⟨a2.1, a2.2.1⟩, a3.1, a4.1, by have := a5.1; omega, by have := a6.1; omega, a7.1, a7.2.1, by have := a8.1; omega, a9.1⟩, ?_⟩
  rw [a9.2]
  simp [encS, encFs]
/-- What a state's numbers are. -/
structure RgS (x : StM) : Prop where
  us : i64R x.us
  rep : i64R x.rep
  rs : ∀ v ∈ x.rs, 0 ≤ v ∧ v < 18446744073709551616
  gs : ∀ v ∈ x.gs, 0 ≤ v ∧ v < 18446744073709551616
  fs : ∀ f ∈ x.fs, FrR f ∧ i64R f.1 ∧ i64R f.2.1
  pl : ∀ p ∈ x.ps, p.2.length = p.1.2.1
def plS (x : StM) : StP := ⟨x.en, x.tr, x.us, x.rep, x.rs, x.gs, x.ps.map (fun p => p.2), x.fs.map plF⟩
theorem st_back (A R : List Int) (x : StM) (ho : OkS x) (hr : RgS x) : stP (A ++ encS x ++ R) (at0 A.length) = plS x ∧ (r8 (A ++ encS x ++ R) (at0 A.length)).2 = at0 (A.length + (encS x).length) := by
  obtain ⟨Z, hZ⟩ : ∃ Z, A ++ encS x ++ R = Z := ⟨_, rfl⟩
  have w1 : Z = A ++ [x.en] ++ ([x.tr] ++ uvar (u64 x.us) ++ uvar (u64 x.rep) ++ encL x.rs ++ encL x.gs ++ encP x.ps ++ encFs x.fs ++ R) := by rw [← hZ]; simp [encS]
  have w2 : Z = (A ++ [x.en]) ++ [x.tr] ++ (uvar (u64 x.us) ++ uvar (u64 x.rep) ++ encL x.rs ++ encL x.gs ++ encP x.ps ++ encFs x.fs ++ R) := by rw [← hZ]; simp [encS]
  have w3 : Z = (A ++ [x.en] ++ [x.tr]) ++ uvar (u64 x.us) ++ (uvar (u64 x.rep) ++ encL x.rs ++ encL x.gs ++ encP x.ps ++ encFs x.fs ++ R) := by rw [← hZ]; simp [encS]
  have w4 : Z = (A ++ [x.en] ++ [x.tr] ++ uvar (u64 x.us)) ++ uvar (u64 x.rep) ++ (encL x.rs ++ encL x.gs ++ encP x.ps ++ encFs x.fs ++ R) := by rw [← hZ]; simp [encS]
  have w5 : Z = (A ++ [x.en] ++ [x.tr] ++ uvar (u64 x.us) ++ uvar (u64 x.rep)) ++ encL x.rs ++ (encL x.gs ++ encP x.ps ++ encFs x.fs ++ R) := by rw [← hZ]; simp [encS]
  have w6 : Z = (A ++ [x.en] ++ [x.tr] ++ uvar (u64 x.us) ++ uvar (u64 x.rep) ++ encL x.rs) ++ encL x.gs ++ (encP x.ps ++ encFs x.fs ++ R) := by rw [← hZ]; simp [encS]
  have w7 : Z = (A ++ [x.en] ++ [x.tr] ++ uvar (u64 x.us) ++ uvar (u64 x.rep) ++ encL x.rs ++ encL x.gs) ++ encP x.ps ++ (encFs x.fs ++ R) := by rw [← hZ]; simp [encS]
  have w8 : Z = (A ++ [x.en] ++ [x.tr] ++ uvar (u64 x.us) ++ uvar (u64 x.rep) ++ encL x.rs ++ encL x.gs ++ encP x.ps) ++ uvar x.fs.length ++ (x.fs.flatMap encF ++ R) := by rw [← hZ]; simp [encS, encFs]
  have w9 : Z = (A ++ [x.en] ++ [x.tr] ++ uvar (u64 x.us) ++ uvar (u64 x.rep) ++ encL x.rs ++ encL x.gs ++ encP x.ps ++ uvar x.fs.length) ++ x.fs.flatMap encF ++ R := by rw [← hZ]; simp [encS, encFs]
  have b1 := oc_back A ([x.tr] ++ uvar (u64 x.us) ++ uvar (u64 x.rep) ++ encL x.rs ++ encL x.gs ++ encP x.ps ++ encFs x.fs ++ R) x.en 1 3 ho.en
  have b2 := oc_back (A ++ [x.en]) (uvar (u64 x.us) ++ uvar (u64 x.rep) ++ encL x.rs ++ encL x.gs ++ encP x.ps ++ encFs x.fs ++ R) x.tr 0 6 ho.tr
  have b3 := nm_back (A ++ [x.en] ++ [x.tr]) (uvar (u64 x.rep) ++ encL x.rs ++ encL x.gs ++ encP x.ps ++ encFs x.fs ++ R) (u64 x.us) 4611686018427387904 17 (u64_rng _).1 (u64_rng _).2 ho.us
  have b4 := nm_back (A ++ [x.en] ++ [x.tr] ++ uvar (u64 x.us)) (encL x.rs ++ encL x.gs ++ encP x.ps ++ encFs x.fs ++ R) (u64 x.rep) 9223372036854775807 17 (u64_rng _).1 (u64_rng _).2 ho.rep
  have b5 := ls_back (A ++ [x.en] ++ [x.tr] ++ uvar (u64 x.us) ++ uvar (u64 x.rep)) (encL x.gs ++ encP x.ps ++ encFs x.fs ++ R) x.rs 8 (by have := ho.rs; omega) (by have := ho.rs; omega) hr.rs
  have b6 := ls_back (A ++ [x.en] ++ [x.tr] ++ uvar (u64 x.us) ++ uvar (u64 x.rep) ++ encL x.rs) (encP x.ps ++ encFs x.fs ++ R) x.gs 64 (by have := ho.gs; omega) (by have := ho.gs; omega) hr.gs
  have b7 := pgs_back x.ps (fun p hp => by rw [hr.pl p hp, ho.pl p hp]) ho.ps (A ++ [x.en] ++ [x.tr] ++ uvar (u64 x.us) ++ uvar (u64 x.rep) ++ encL x.rs ++ encL x.gs) (encFs x.fs ++ R)
  have b8 := nm_back (A ++ [x.en] ++ [x.tr] ++ uvar (u64 x.us) ++ uvar (u64 x.rep) ++ encL x.rs ++ encL x.gs ++ encP x.ps) (x.fs.flatMap encF ++ R) x.fs.length 64 20 (by omega) (by have := ho.fs; omega) (by have := ho.fs; omega)
  rw [← w1] at b1
  rw [← w2] at b2
  rw [← w3] at b3
  rw [← w4] at b4
  rw [← w5] at b5
  rw [← w6] at b6
  rw [← w7] at b7
  rw [← w8] at b8
  have b9 := rl_back (frR Z) encF plF Z x.fs _ R w9 (fun f hf A' R' hh => by
    rw [hh]
    have h1 := ho.fl f hf
    have h2 := hr.fs f hf
    exact fr_back A' R' f h1.1 h1.2.1 h1.2.2.1 h1.2.2.2 h2.1 h2.2.1 h2.2.2) x.fs.length (Nat.le_refl _)
  rw [List.take_of_length_le (Nat.le_refl _)] at b9
  simp only [List.length_append, List.length_singleton] at b2 b3 b4 b5 b6 b7 b8 b9
  have u1 := (u64_small hr.us (by decide) ho.us).1
  have u2 := (u64_small hr.rep (by decide) ho.rep).1
  rw [hZ]
  have e1 : r1 Z (at0 A.length) = (x.en, at0 (A.length + 1)) := b1
  have e2 : r2 Z (at0 A.length) = ocR Z 0 6 (r1 Z (at0 A.length)).2 := rfl
  rw [e1] at e2
  simp only at e2
  rw [b2] at e2
  have e3 : r3 Z (at0 A.length) = nmR Z 4611686018427387904 17 (r2 Z (at0 A.length)).2 := rfl
  rw [e2] at e3
  simp only at e3
  rw [b3] at e3
  have e4 : r4 Z (at0 A.length) = nmR Z 9223372036854775807 17 (r3 Z (at0 A.length)).2 := rfl
  rw [e3] at e4
  simp only at e4
  rw [b4] at e4
  have e5 : r5 Z (at0 A.length) = lsR Z 8 (r4 Z (at0 A.length)).2 := rfl
  rw [e4] at e5
  simp only at e5
  rw [b5] at e5
  have e6 : r6 Z (at0 A.length) = lsR Z 64 (r5 Z (at0 A.length)).2 := rfl
  rw [e5] at e6
  simp only at e6
  rw [b6] at e6
  have e7 : r7 Z (at0 A.length) = pgsR Z (r6 Z (at0 A.length)).2 := rfl
  rw [e6] at e7
  simp only at e7
  rw [b7] at e7
  have e8 : r8 Z (at0 A.length) = rlR (frR Z) (nmR Z 64 20 (r7 Z (at0 A.length)).2).1.toNat (nmR Z 64 20 (r7 Z (at0 A.length)).2).2 := rfl
  rw [e7] at e8
  simp only at e8
  rw [b8] at e8
  simp only [Int.toNat_natCast] at e8
  rw [b9] at e8
  refine ⟨?_, ?_⟩
  · unfold stP plS
    rw [e1, e2, e3, e4, e5, e6, e7, e8]
    simp only
    rw [u1, u2]
  · rw [e8]
    show at0 _ = at0 _
    congr 1
    simp only [encS, encFs, List.length_append, List.length_singleton]
    omega
end Go.Proofs.YtbdjghokedfkfaaDoor
