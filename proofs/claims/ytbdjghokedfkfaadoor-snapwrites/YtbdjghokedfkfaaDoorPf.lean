/-
  Plain facts: pages that are read without an error are written as the same bytes.
-/
import Derived.Test.YtbdjghokedfkfaaDoorPe
namespace Go.Proofs.YtbdjghokedfkfaaDoor
open Go.RowKit
set_option linter.unusedVariables false
set_option maxRecDepth 100000

theorem flat_congr {α β : Type} {f g : α → List β} : ∀ {l : List α}, (∀ x ∈ l, f x = g x) → l.flatMap f = l.flatMap g
  | [], _ => rfl
  | x :: l, h => by
    rw [List.flatMap_cons, List.flatMap_cons, h x (by simp), flat_congr (fun y hy => h y (by simp [hy]))]
/-- The numbers of the pages that are not all nought. -/
def idxQ (q : List (List Int)) : List Int := ((List.range q.length).filter fun i => (q[i]?).elim false fun (x : List Int) => decide (x ≠ Zp)).map (fun (i : Nat) => (i : Int))
def encQ (q : List (List Int)) (k : Int) : List Int := uvar k ++ (q[k.toNat]?).elim [] id
theorem idx_Q (ps : List PgM) : idx ps = idxQ (ps.map (fun p => p.2)) := by
  unfold idx idxTo idxQ
  rw [List.length_map]
  congr 2
  funext i
  rw [List.getElem?_map]
  cases ps[i]? <;> rfl
theorem encK_Q (ps : List PgM) : encK ps = encQ (ps.map (fun p => p.2)) := by
  funext k
  unfold encK encQ
  rw [List.getElem?_map]
  cases ps[k.toNat]? <;> rfl
theorem encP_Q (ps : List PgM) : encP ps = uvar (ps.map (fun p => p.2)).length ++ uvar (idxQ (ps.map (fun p => p.2))).length ++ (idxQ (ps.map (fun p => p.2))).flatMap (encQ (ps.map (fun p => p.2))) := by
  unfold encP
  rw [idx_Q, encK_Q, List.length_map]
theorem idxQ_mem {q : List (List Int)} {k : Int} (h : k ∈ idxQ q) : ∃ i x, k = (i : Nat) ∧ q[i]? = some x ∧ x ≠ Zp := by
  unfold idxQ at h
  obtain ⟨i, hi, rfl⟩ := List.mem_map.1 h
  have h2 := (List.mem_filter.1 hi).2
  cases hx : q[i]? with
  | none => rw [hx] at h2; cases h2
  | some x => rw [hx] at h2; exact ⟨i, x, rfl, hx, by simpa using h2⟩
theorem idxQ_set {q : List (List Int)} {k : Nat} {x : List Int} (hk : k < q.length) (hx : x ≠ Zp) (ha : ∀ (i : Nat) l, q[i]? = some l → k ≤ i → l = Zp) : idxQ (q.set k x) = idxQ q ++ [(k : Int)] := by
  unfold idxQ
  rw [List.length_set]
  have hr : List.range q.length = List.range k ++ (List.range' k (q.length - k)) := by
    have e : q.length = k + (q.length - k) := by omega
    conv => lhs; rw [e]
    rw [List.range_eq_range', List.range_eq_range', ← List.range'_append_1, Nat.zero_add]
  have hr2 : List.range' k (q.length - k) = k :: List.range' (k + 1) (q.length - k - 1) := by
    have : q.length - k = (q.length - k - 1) + 1 := by omega
    rw [this, List.range'_succ]
    simp
  rw [hr, hr2, List.filter_append, List.filter_append, List.filter_cons, List.filter_cons]
  have e1 : (List.range k).filter (fun i => ((q.set k x)[i]?).elim false fun (x : List Int) => decide (x ≠ Zp)) = (List.range k).filter (fun i => (q[i]?).elim false fun (x : List Int) => decide (x ≠ Zp)) := by
    refine List.filter_congr (fun i hi => ?_)
    rw [List.getElem?_set_ne (by have := List.mem_range.1 hi; omega)]
  have e2 : (List.range' (k + 1) (q.length - k - 1)).filter (fun i => ((q.set k x)[i]?).elim false fun (x : List Int) => decide (x ≠ Zp)) = [] := by
    refine List.filter_eq_nil_iff.2 (fun i hi => ?_)
    have h1 := List.mem_range'_1.1 hi
    rw [List.getElem?_set_ne (by omega)]
    cases hq : q[i]? with
    | none => simp
    | some l => simp [ha i l hq (by omega)]
  have e3 : (List.range' (k + 1) (q.length - k - 1)).filter (fun i => (q[i]?).elim false fun (x : List Int) => decide (x ≠ Zp)) = [] := by
    refine List.filter_eq_nil_iff.2 (fun i hi => ?_)
    have h1 := List.mem_range'_1.1 hi
    cases hq : q[i]? with
    | none => simp
    | some l => simp [ha i l hq (by omega)]
  rw [e1, e2, e3, List.getElem?_set_self hk]
  have e4 : ((q[k]?).elim false fun (x : List Int) => decide (x ≠ Zp)) = false := by
    cases hq : q[k]? with
    | none => rfl
    | some l => simp [ha k l hq (Nat.le_refl _)]
  have e5 : ((some x).elim false fun (x : List Int) => decide (x ≠ Zp)) = true := by simpa using hx
  rw [e4, e5]
  simp
theorem pn_err {zs : List Int} {least count : Int} {st : RS} (h : (pnR zs least count st).2.2 = 0) : st.2 = 0 := (tkR_err h).1
theorem pn_got {zs : List Int} {least count : Int} {p : Nat} (hz : ∀ z ∈ zs, 0 ≤ z ∧ z ≤ 255) (h : (pnR zs least count (at0 p)).2.2 = 0) :
    0 ≤ (pnR zs least count (at0 p)).1 ∧ least ≤ (pnR zs least count (at0 p)).1 ∧ (pnR zs least count (at0 p)).1 < count ∧ Got zs p (uvar (pnR zs least count (at0 p)).1) (pnR zs least count (at0 p)).2 := by
  obtain ⟨_, he, hq⟩ := tkR_err h
  have hn : pnR zs least count (at0 p) = ((ruAt zs (p : Int)).1, ((ruAt zs (p : Int)).2.1, 0)) := hq
  rw [hn]
  have he1 : pnE zs least count (p : Int) = 0 := he
  unfold pnE at he1
  obtain ⟨v, q, c, hv⟩ : ∃ v q c, ruAt zs (p : Int) = (v, q, c) := ⟨_, _, _, rfl⟩
  rw [hv] at he1 ⊢
  simp only at he1 ⊢
  by_cases hc : c = 0
  · subst hc
    rw [if_neg (by simp)] at he1
    by_cases h1 : count ≤ v
    · rw [if_pos h1] at he1; omega
    · rw [if_neg h1] at he1
      by_cases h2 : v < least
      · rw [if_pos h2] at he1; omega
      · obtain ⟨g1, g2, g3⟩ := same_got hz hv
        exact ⟨g1, by omega, by omega, g3⟩
  · rw [if_pos hc] at he1; exact absurd he1 hc
theorem pg_err {zs : List Int} {st : RS} (h : (pgR zs st).2 = 0) : st.2 = 0 := (tkR_err h).1
theorem pg_got {zs : List Int} {p : Nat} (h : (pgR zs (at0 p)).2 = 0) : pgL zs p ≠ Zp ∧ Got zs p (pgL zs p) (pgR zs (at0 p)) := by
  have h' : (tkR 0 ((at0 p).1 + (pgT zs (at0 p).1.toNat).length) (pgX zs (at0 p).1.toNat) (at0 p)).2.2 = 0 := h
  obtain ⟨_, he, hq⟩ := tkR_err h'
  have e : (at0 p).1.toNat = p := Int.toNat_natCast p
  rw [e] at he hq
  have hr : pgR zs (at0 p) = ((p : Int) + (pgT zs p).length, 0) := by
    unfold pgR
    rw [e, hq]
  unfold pgX at he
  by_cases h1 : (pgT zs p).length < 4096
  · rw [if_pos h1] at he; omega
  · rw [if_neg h1] at he
    by_cases h2 : pgL zs p = Zp
    · rw [if_pos h2] at he; omega
    · have hl := pgT_len zs p
      have hl4 : (pgT zs p).length = 4096 := by
        have : Nat.min (zs.length - p) 4096 ≤ 4096 := Nat.min_le_right _ _
        omega
      have hle : 4096 ≤ zs.length - p := by
        have : Nat.min (zs.length - p) 4096 ≤ zs.length - p := Nat.min_le_left _ _
        omega
      have ep : pgL zs p = pgT zs p := by
        unfold pgL
        rw [hl4, List.drop_eq_nil_of_le (by rw [Zp_len]; exact Nat.le_refl _), List.append_nil]
      refine ⟨h2, ?_, ?_, ?_⟩
      · rw [hr, ep, hl4]; simp
      · rw [ep, hl4]; omega
      · rw [ep, hl4]
        unfold pgT
        have := List.take_append_drop 4096 (zs.drop p)
        rw [List.drop_drop] at this
        exact this.symm
/-- The pages that were read so far. -/
structure PgJ (zs : List Int) (n p j : Nat) (x : List (List Int) × Int × RS) : Prop where
  len : x.1.length = n
  lo : 0 ≤ x.2.1
  ab : ∀ (i : Nat) l, x.1[i]? = some l → x.2.1 ≤ i → l = Zp
  cnt : (idxQ x.1).length = j
  got : Got zs p ((idxQ x.1).flatMap (encQ x.1)) x.2.2
theorem pgS_err {zs : List Int} {n : Int} {x : List (List Int) × Int × RS} (h : (pgS zs n x).2.2.2 = 0) : x.2.2.2 = 0 := pn_err (pg_err h)
theorem pgI_err {zs : List Int} {n : Int} {x : List (List Int) × Int × RS} : ∀ k : Nat, (pgI zs n k x).2.2.2 = 0 → x.2.2.2 = 0
  | 0, h => h
  | k + 1, h => pgI_err k (pgS_err h)
theorem pgJ_next {zs : List Int} {n p j : Nat} {x : List (List Int) × Int × RS} (hz : ∀ z ∈ zs, 0 ≤ z ∧ z ≤ 255) (h : PgJ zs n p j x) (he : (pgS zs n x).2.2.2 = 0) : PgJ zs n p (j + 1) (pgS zs n x) := by
  have h1 : (pgR zs (pnR zs x.2.1 n x.2.2).2).2 = 0 := he
  have h2 := pg_err h1
  unfold pgS
  rw [h.got.st] at h1 h2 ⊢
  obtain ⟨a1, a2, a3, a4⟩ := pn_got hz h2
  generalize pnR zs x.2.1 n (at0 (p + ((idxQ x.1).flatMap (encQ x.1)).length)) = y at *
  rw [a4.st] at h1 ⊢
  obtain ⟨b1, b2⟩ := pg_got h1
  obtain ⟨k, hk⟩ := Int.eq_ofNat_of_zero_le a1
  have hkn : k < x.1.length := by rw [h.len]; omega
  have ek : y.1.toNat = k := by rw [hk]; rfl
  have e0 : (at0 (p + ((idxQ x.1).flatMap (encQ x.1)).length + (uvar y.1).length)).1.toNat = p + ((idxQ x.1).flatMap (encQ x.1)).length + (uvar y.1).length := Int.toNat_natCast _
  have hs := idxQ_set (x := pgL zs (p + ((idxQ x.1).flatMap (encQ x.1)).length + (uvar y.1).length)) hkn b1 (fun i l hl hi => h.ab i l hl (by omega))
  rw [e0, ek]
  refine ⟨?_, ?_, ?_, ?_, ?_⟩
  · simp only [List.length_set]; exact h.len
  · simp only; omega
  · intro i l hl hi
    simp only at hl hi
    rw [List.getElem?_set_ne (by omega)] at hl
    exact h.ab i l hl (by omega)
  · simp only
    rw [hs, List.length_append, h.cnt]
    rfl
  · simp only
    rw [hs, List.flatMap_append]
    have e1 : (idxQ x.1).flatMap (encQ (x.1.set k (pgL zs (p + ((idxQ x.1).flatMap (encQ x.1)).length + (uvar y.1).length)))) = (idxQ x.1).flatMap (encQ x.1) := by
      refine flat_congr (fun i hi => ?_)
      obtain ⟨i', l, rfl, hl, hne⟩ := idxQ_mem hi
      have hlt : i' ≠ k := fun hc => hne (h.ab i' l hl (by rw [hc]; omega))
      unfold encQ
      rw [Int.toNat_natCast, List.getElem?_set_ne (by omega)]
    have e2 : [(k : Int)].flatMap (encQ (x.1.set k (pgL zs (p + ((idxQ x.1).flatMap (encQ x.1)).length + (uvar y.1).length)))) = uvar y.1 ++ pgL zs (p + ((idxQ x.1).flatMap (encQ x.1)).length + (uvar y.1).length) := by
      rw [List.flatMap_cons, List.flatMap_nil, List.append_nil]
      unfold encQ
      rw [Int.toNat_natCast, List.getElem?_set_self hkn, hk]
      rfl
    rw [e1, e2]
    have g1 := Got.app (s1 := at0 (p + ((idxQ x.1).flatMap (encQ x.1)).length)) ⟨rfl, h.got.le, h.got.eq⟩ a4
    rw [← List.append_assoc]
    refine g1.app ?_
    rw [List.length_append, ← Nat.add_assoc]
    exact b2
theorem pgI_got {zs : List Int} {n p : Nat} (hz : ∀ z ∈ zs, 0 ≤ z ∧ z ≤ 255) (hp : p ≤ zs.length) : ∀ k : Nat, (pgI zs n k (List.replicate n Zp, 0, at0 p)).2.2.2 = 0 → PgJ zs n p k (pgI zs n k (List.replicate n Zp, 0, at0 p))
  | 0, h => by
    have hid : idxQ (List.replicate n Zp) = [] := by
      refine List.eq_nil_iff_forall_not_mem.2 (fun k hk => ?_)
      obtain ⟨i, x, _, hx, hne⟩ := idxQ_mem hk
      exact hne (List.eq_of_mem_replicate (List.mem_of_getElem? hx))
    refine ⟨by show (List.replicate n Zp).length = n; simp, Int.le_refl _, fun i l hl _ => List.eq_of_mem_replicate (List.mem_of_getElem? hl), ?_, ?_⟩
    · show (idxQ (List.replicate n Zp)).length = 0
      rw [hid]; rfl
    · show Got zs p ((idxQ (List.replicate n Zp)).flatMap _) (at0 p)
      rw [hid]
      exact Got.nil hp
  | k + 1, h => pgJ_next hz (pgI_got hz hp k (pgS_err h)) h
def encPq (q : List (List Int)) : List Int := uvar q.length ++ uvar (idxQ q).length ++ (idxQ q).flatMap (encQ q)
theorem pgs_err {zs : List Int} {st : RS} (h : (pgsR zs st).2.2 = 0) : st.2 = 0 := nm_err (nm_err (pgI_err _ h))
theorem pgs_got {zs : List Int} {p : Nat} (hz : ∀ z ∈ zs, 0 ≤ z ∧ z ≤ 255) (h : (pgsR zs (at0 p)).2.2 = 0) : (pgsR zs (at0 p)).1.length ≤ 64 ∧ Got zs p (encPq (pgsR zs (at0 p)).1) (pgsR zs (at0 p)).2 := by
  have h3 : (pgI zs (nmR zs 64 20 (at0 p)).1 (nmR zs (nmR zs 64 20 (at0 p)).1 20 (nmR zs 64 20 (at0 p)).2).1.toNat (List.replicate (nmR zs 64 20 (at0 p)).1.toNat Zp, 0, (nmR zs (nmR zs 64 20 (at0 p)).1 20 (nmR zs 64 20 (at0 p)).2).2)).2.2.2 = 0 := h
  have h2 : (nmR zs (nmR zs 64 20 (at0 p)).1 20 (nmR zs 64 20 (at0 p)).2).2.2 = 0 := pgI_err _ h3
  have h1 : (nmR zs 64 20 (at0 p)).2.2 = 0 := nm_err h2
  obtain ⟨a1, a2, a3, a4⟩ := nm_got hz (.inl (by decide)) h1
  unfold pgsR
  generalize nmR zs 64 20 (at0 p) = x1 at *
  rw [a4.st] at h2 h3 ⊢
  obtain ⟨b1, b2, b3, b4⟩ := nm_got hz (.inl (by decide)) h2
  generalize nmR zs x1.1 20 (at0 (p + (uvar x1.1).length)) = x2 at *
  rw [b4.st] at h3 ⊢
  obtain ⟨n, hn⟩ := Int.eq_ofNat_of_zero_le a1
  obtain ⟨k, hk⟩ := Int.eq_ofNat_of_zero_le b1
  have en : x1.1.toNat = n := by rw [hn]; rfl
  have ek : x2.1.toNat = k := by rw [hk]; rfl
  rw [en, ek] at h3 ⊢
  have ez : (x1.1 : Int) = ((n : Nat) : Int) := hn
  have g := pgI_got (n := n) hz b4.le k (by rw [← ez]; exact h3)
  rw [← ez] at g
  generalize pgI zs x1.1 k (List.replicate n Zp, 0, at0 (p + (uvar x1.1).length + (uvar x2.1).length)) = y at *
  refine ⟨by rw [show (y.1, y.2.2).1 = y.1 from rfl, g.len]; omega, ?_⟩
  unfold encPq
  have g2 := Got.app ⟨rfl, a4.le, a4.eq⟩ b4
  have g3 := g2.app (by rw [List.length_append, ← Nat.add_assoc]; exact g.got)
  simp only
  rw [g.len, g.cnt, ← hn, ← hk]
  exact g3
end Go.Proofs.YtbdjghokedfkfaaDoor
