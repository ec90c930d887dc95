/-
  Plain facts: the pages that were written are read.
-/
import Derived.Test.YtbdjghokedfkfaaDoorPa
namespace Go.Proofs.YtbdjghokedfkfaaDoor
open Go.RowKit
set_option linter.unusedVariables false
set_option maxRecDepth 100000

/-- A page's bytes in the text. -/
def encK (ps : List PgM) (k : Int) : List Int := uvar k ++ (ps[k.toNat]?).elim [] (fun x => x.2)
theorem foldW_pgK {ps : List PgM} : ∀ {l : List Int} {bs : List Int}, (foldW (pgK ps) l (bs, false)).2 = false → (∀ k ∈ l, k ≤ 64) ∧ foldW (pgK ps) l (bs, false) = (bs ++ l.flatMap (encK ps), false)
  | [], bs, _ => ⟨fun k hk => (by cases hk), by simp [foldW]⟩
  | k :: l, bs, h => by
    have h1 : (foldW (pgK ps) l (pgK ps k (bs, false))).2 = false := h
    have h2 := foldW_ok (pgK_bad ps) h1
    have h3 : (numW k 64 (bs, false)).2 = false := by
      cases hb : (numW k 64 (bs, false)).2 with
      | false => rfl
      | true => unfold pgK at h2; rw [putW_bad _ _ hb, hb] at h2; cases h2
    have h4 := numW_is h3
    have e : pgK ps k (bs, false) = (bs ++ encK ps k, false) := by
      unfold pgK
      rw [h4.2]
      simp [putW, encK]
    rw [e] at h1
    have ih := foldW_pgK h1
    refine ⟨fun q hq => ?_, ?_⟩
    · rcases List.mem_cons.1 hq with rfl | hq
      · exact h4.1
      · exact ih.1 q hq
    · show foldW (pgK ps) l (pgK ps k (bs, false)) = _
      rw [e, ih.2]
      simp
def encP (ps : List PgM) : List Int := uvar ps.length ++ uvar (idx ps).length ++ (idx ps).flatMap (encK ps)
theorem foldA_is {ps : List PgM} {s : WS} (h : (foldW pgA ps s).2 = false) : foldW pgA ps s = s := by
  have h1 := foldW_ok pgA_bad h
  have h2 := foldW_same (ps := ps) (s := s)
  obtain ⟨bs, bad⟩ := s
  dsimp only at h1
  subst h1
  exact Prod.ext h2 h
theorem pagesW_is {ps : List PgM} {bs : List Int} (h : (pagesW ps (bs, false)).2 = false) : ps.length ≤ 64 ∧ (∀ x ∈ ps, x.1.2.1 = 4096) ∧ pagesW ps (bs, false) = (bs ++ encP ps, false) := by
  unfold pagesW at h ⊢
  have g2 : (foldW pgA ps (numW ps.length 64 (bs, false))).2 = false := by
    cases hb : (foldW pgA ps (numW ps.length 64 (bs, false))).2 with
    | false => rfl
    | true => rw [listW_bad (pgK_bad ps) _ _ _ hb, hb] at h; cases h
  have a1 := numW_is (foldW_ok pgA_bad g2)
  have ha := pgA_all g2
  rw [foldA_is g2, a1.2] at h ⊢
  unfold listW at h ⊢
  have a2 := numW_is (foldW_ok (pgK_bad ps) h)
  rw [a2.2] at h ⊢
  have a3 := foldW_pgK h
  refine ⟨by have := a1.1; omega, ha, ?_⟩
  rw [a3.2]
  simp [encP]
/-- Pages set up to the j-th of those that are written. -/
def pgUp (ps : List PgM) (l : List Int) : List (List Int) := l.foldl (fun q k => q.set k.toNat ((ps[k.toNat]?).elim [] (fun x => x.2))) (List.replicate ps.length Zp)
theorem pn_back (A R : List Int) (v least count : Int) (h0 : 0 ≤ v) (h1 : v < 18446744073709551616) (hl : least ≤ v) (hc : v < count) : pnR (A ++ uvar v ++ R) least count (at0 A.length) = (v, at0 (A.length + (uvar v).length)) := by
  unfold pnR pnE
  rw [read_back A R v h0 h1]
  simp only
  rw [if_neg (by simp), if_neg (by omega), if_neg (by omega)]
  simp [tkR]
theorem pg_back (A R l : List Int) (hl : l.length = 4096) (hz : l ≠ Zp) : pgL (A ++ l ++ R) (at0 A.length).1.toNat = l ∧ pgR (A ++ l ++ R) (at0 A.length) = at0 (A.length + 4096) := by
  have e : pgT (A ++ l ++ R) A.length = l := by
    unfold pgT
    rw [List.append_assoc, List.drop_left, List.take_append_of_le_length (by omega), List.take_of_length_le (by omega)]
  have e2 : pgL (A ++ l ++ R) A.length = l := by
    unfold pgL
    rw [e, hl, List.drop_eq_nil_of_le (by rw [Zp_len]; omega), List.append_nil]
  refine ⟨by simpa using e2, ?_⟩
  have hx : pgX (A ++ l ++ R) A.length = 0 := by
    unfold pgX
    rw [if_neg (by rw [e]; omega), if_neg (by rw [e2]; exact hz)]
  unfold pgR
  simp only [Int.toNat_natCast]
  rw [hx, e, hl]
  simp [tkR]
/-- The least that the next one's number may be. -/
def leA (l : List Int) : Int := (l.getLast?).elim 0 (fun k => k + 1)
theorem idx_asc (ps : List PgM) : (idx ps).Pairwise (· < ·) := by
  unfold idx idxTo
  rw [List.pairwise_map]
  refine List.Pairwise.filter _ ?_
  exact (List.pairwise_lt_range).imp (fun h => by omega)
theorem asc_le {l : List Int} (h : l.Pairwise (· < ·)) (h0 : ∀ k ∈ l, 0 ≤ k) (j : Nat) (hj : j < l.length) : leA (l.take j) ≤ l[j] := by
  unfold leA
  cases hq : (l.take j).getLast? with
  | none => exact h0 _ (List.getElem_mem hj)
  | some k =>
    show k + 1 ≤ l[j]
    have hm := List.mem_of_getLast? hq
    obtain ⟨i, hi, e⟩ := List.getElem_of_mem hm
    rw [List.length_take] at hi
    rw [List.getElem_take] at e
    have := List.pairwise_iff_getElem.1 h i j (by omega) hj (by omega)
    omega
theorem pgI_back (ps : List PgM) (hp : ∀ x ∈ ps, x.2.length = 4096) (hn : ps.length ≤ 64) (A R zs : List Int) (hz : zs = A ++ (idx ps).flatMap (encK ps) ++ R) :
    ∀ j, j ≤ (idx ps).length → pgI zs ps.length j (List.replicate ps.length Zp, 0, at0 A.length) = (pgUp ps ((idx ps).take j), leA ((idx ps).take j), at0 (A.length + (((idx ps).take j).flatMap (encK ps)).length)) := by
  intro j
  induction j with
  | zero => intro _; simp [pgI, pgUp, leA]
  | succ j ih =>
    intro hj
    have ih := ih (by omega)
    have hx : j < (idx ps).length := by omega
    have ht : (idx ps).take (j + 1) = (idx ps).take j ++ [(idx ps)[j]] := by rw [List.take_add_one, List.getElem?_eq_getElem hx]; rfl
    have hd : idx ps = (idx ps).take j ++ [(idx ps)[j]] ++ (idx ps).drop (j + 1) := by rw [← ht]; exact (List.take_append_drop _ _).symm
    obtain ⟨i, y, hk, hi, hy, hne⟩ := idx_mem (List.getElem_mem hx)
    have hle := asc_le (idx_asc ps) (fun k hk => by obtain ⟨i, _, e, _⟩ := idx_mem hk; omega) j hx
    have hyl := hp y (List.mem_of_getElem? hy)
    have he : encK ps (idx ps)[j] = uvar (idx ps)[j] ++ y.2 := by unfold encK; rw [hk, Int.toNat_natCast, hy]; rfl
    have hzz : zs = (A ++ ((idx ps).take j).flatMap (encK ps)) ++ uvar (idx ps)[j] ++ (y.2 ++ (((idx ps).drop (j + 1)).flatMap (encK ps) ++ R)) := by
      rw [hz]
      have e : (idx ps).flatMap (encK ps) = ((idx ps).take j).flatMap (encK ps) ++ encK ps (idx ps)[j] ++ ((idx ps).drop (j + 1)).flatMap (encK ps) := by
        conv => lhs; rw [hd]
        simp only [List.flatMap_append, List.flatMap_cons, List.flatMap_nil, List.append_nil]
      rw [e, he]
      simp only [List.append_assoc]
    have hzz2 : zs = (A ++ ((idx ps).take j).flatMap (encK ps) ++ uvar (idx ps)[j]) ++ y.2 ++ (((idx ps).drop (j + 1)).flatMap (encK ps) ++ R) := by rw [hzz]; simp only [List.append_assoc]
    have b1 := pn_back (A ++ ((idx ps).take j).flatMap (encK ps)) (y.2 ++ (((idx ps).drop (j + 1)).flatMap (encK ps) ++ R)) (idx ps)[j] (leA ((idx ps).take j)) ps.length (by omega) (by omega) hle (by omega)
    rw [← hzz, List.length_append] at b1
    have b2 := pg_back (A ++ ((idx ps).take j).flatMap (encK ps) ++ uvar (idx ps)[j]) (((idx ps).drop (j + 1)).flatMap (encK ps) ++ R) y.2 hyl hne
    rw [← hzz2, List.length_append, List.length_append] at b2
    show pgS zs ps.length (pgI zs ps.length j _) = _
    rw [ih]
    unfold pgS
    simp only [b1]
    rw [b2.1, b2.2, ht]
    refine Prod.ext ?_ (Prod.ext ?_ ?_)
    · simp only [pgUp, List.foldl_append, List.foldl_cons, List.foldl_nil]
      rw [hk, Int.toNat_natCast, hy]
      rfl
    · unfold leA
      rw [List.getLast?_concat]
      rfl
    · simp only [List.flatMap_append, List.flatMap_cons, List.flatMap_nil, List.append_nil, List.length_append, he, hyl, Nat.add_assoc]
abbrev pgOf (ps : List PgM) (k : Int) : List Int := (ps[k.toNat]?).elim [] (fun x => x.2)
theorem up_get (ps : List PgM) : ∀ (l : List Int) (q : List (List Int)) (i : Nat), (∀ k ∈ l, 0 ≤ k) → i < q.length →
    (l.foldl (fun q k => q.set k.toNat (pgOf ps k)) q)[i]? = if (i : Int) ∈ l then some (pgOf ps i) else q[i]?
  | [], q, i, _, _ => by simp
  | k :: l, q, i, h, hi => by
    rw [List.foldl_cons, up_get ps l _ i (fun k hk => h k (by simp [hk])) (by rw [List.length_set]; exact hi)]
    have h0 := h k (by simp)
    by_cases hm : (i : Int) ∈ l
    · rw [if_pos hm, if_pos (by simp [hm])]
    · rw [if_neg hm, List.getElem?_set]
      by_cases hk : k = (i : Int)
      · subst hk
        rw [if_pos (by simp), if_pos (by simpa using hi), if_pos (by simp)]
      · rw [if_neg (by omega), if_neg (by simp [hm]; omega)]
theorem up_len (ps : List PgM) : ∀ (l : List Int) (q : List (List Int)), (l.foldl (fun q k => q.set k.toNat (pgOf ps k)) q).length = q.length
  | [], q => rfl
  | k :: l, q => by rw [List.foldl_cons, up_len ps l, List.length_set]
theorem pgUp_all (ps : List PgM) : pgUp ps (idx ps) = ps.map (fun x => x.2) := by
  apply List.ext_getElem?
  intro i
  unfold pgUp
  by_cases hi : i < ps.length
  · rw [up_get ps (idx ps) _ i (fun k hk => by obtain ⟨i, _, e, _⟩ := idx_mem hk; omega) (by simpa using hi)]
    rw [List.getElem?_map, List.getElem?_eq_getElem hi, List.getElem?_replicate, if_pos hi]
    have hpg : pgOf ps (i : Int) = ps[i].2 := by
      unfold pgOf
      rw [Int.toNat_natCast, List.getElem?_eq_getElem hi]
      rfl
    by_cases hm : (i : Int) ∈ idx ps
    · rw [if_pos hm, hpg]; rfl
    · rw [if_neg hm]
      have : ps[i].2 = Zp := by
        refine Classical.byContradiction (fun hne => hm ?_)
        unfold idx idxTo
        rw [List.mem_map]
        exact ⟨i, by rw [List.mem_filter, List.mem_range]; exact ⟨hi, by rw [List.getElem?_eq_getElem hi]; simpa using hne⟩, rfl⟩
      rw [← this]; rfl
  · rw [List.getElem?_eq_none (by rw [up_len, List.length_replicate]; omega), List.getElem?_eq_none (by rw [List.length_map]; omega)]
/-- The pages that were written are read. -/
theorem pgs_back (ps : List PgM) (hp : ∀ x ∈ ps, x.2.length = 4096) (hn : ps.length ≤ 64) (A R : List Int) : pgsR (A ++ encP ps ++ R) (at0 A.length) = (ps.map (fun x => x.2), at0 (A.length + (encP ps).length)) := by
  have hil : (idx ps).length ≤ ps.length := idxTo_len ps _
  have z1 : A ++ encP ps ++ R = A ++ uvar ps.length ++ (uvar (idx ps).length ++ (idx ps).flatMap (encK ps) ++ R) := by simp [encP]
  have z2 : A ++ encP ps ++ R = (A ++ uvar ps.length) ++ uvar (idx ps).length ++ ((idx ps).flatMap (encK ps) ++ R) := by simp [encP]
  have z3 : A ++ encP ps ++ R = (A ++ uvar ps.length ++ uvar (idx ps).length) ++ (idx ps).flatMap (encK ps) ++ R := by simp [encP]
  have b1 := nm_back A (uvar (idx ps).length ++ (idx ps).flatMap (encK ps) ++ R) ps.length 64 20 (by omega) (by omega) (by omega)
  have b2 := nm_back (A ++ uvar ps.length) ((idx ps).flatMap (encK ps) ++ R) (idx ps).length ps.length 20 (by omega) (by omega) (by omega)
  have b3 := pgI_back ps hp hn (A ++ uvar ps.length ++ uvar (idx ps).length) R (A ++ encP ps ++ R) z3 (idx ps).length (Nat.le_refl _)
  rw [← z1] at b1
  rw [← z2] at b2
  rw [List.take_of_length_le (Nat.le_refl _), pgUp_all] at b3
  simp only [List.length_append] at b2 b3
  unfold pgsR
  rw [b1]
  simp only
  rw [b2]
  simp only [Int.toNat_natCast]
  rw [b3]
  simp [encP, Nat.add_assoc]
end Go.Proofs.YtbdjghokedfkfaaDoor
