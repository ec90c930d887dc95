/-
  A block put around a code: where control goes, plainly.
-/
import Derived.Test.YtkcidabokgadcaaWrapP
import Derived.Test.YtkcidabokgadcaaGood
namespace Go.Proofs.Ytkcidabokgadcaa
open Go.RowKit
set_option linter.unusedVariables false

/-- A place one further on; behind the code: behind the block around it. -/
def mv (n : Nat) (r : Bool) (z : Int) : Int := if z = n ∧ r = true then (n : Int) + 2 else if z = -1 then -1 else z + 1
/-- Each number of a branch is below how many labels there are. -/
def nam (c a : Int) (l : List Int) (m : Nat) : Bool := if c = 7 ∨ c = 8 then decide (a < m) else if c = 9 then l.all (fun z => decide (z < m)) else true

theorem mv_false (n : Nat) (z : Int) : mv n false z = sh z := by unfold mv sh; rw [if_neg (fun h => by cases h.2)]
theorem sh_pos {z : Int} (h : 0 ≤ z) : sh z = z + 1 := by unfold sh; rw [if_neg (by omega)]

theorem labs_wrap {O U : Nat → Int} {n i : Nat} (h : Wf O U n) (hi : i < n) : labs U (i + 1) = (labs O i).map (· + 1) ++ [-1] := by
  unfold labs
  rw [h.stk i hi]
  simp [Function.comp_def]
theorem labs_wrap_len {O U : Nat → Int} {n i : Nat} (h : Wf O U n) (hi : i < n) : (labs U (i + 1)).length = (labs O i).length + 1 := by rw [labs_wrap h hi]; simp
theorem labs_wrap_get {O U : Nat → Int} {n i k : Nat} (h : Wf O U n) (hi : i < n) (hk : k < (labs O i).length) : (labs U (i + 1)).getD k (-1) = (labs O i).getD k (-1) + 1 := by
  rw [labs_wrap h hi, List.getD_eq_getElem?_getD, List.getElem?_append_left (by simpa using hk), List.getD_eq_getElem?_getD, List.getElem?_map, List.getElem?_eq_getElem hk]
  rfl

theorem plc_wrap {O U : Nat → Int} {n i : Nat} {q : Int} (hw : Wd O U n) (h : Wf O U n) (hg : Good O n) (hi : i < n) (hq : q ∈ labs O i) : plc U (n + 2) (q + 1) = plc O n q + 1 := by
  have hr := labs_mem q hq
  simp only [labs, List.mem_append, List.mem_map, List.mem_singleton] at hq
  rcases hq with ⟨t, ht, rfl⟩ | rfl
  · obtain ⟨hlt, hO⟩ := stk_mem O i t ht
    obtain ⟨j, h1, _⟩ := good_open hg (show t < n by omega) hO
    unfold plc
    rw [if_neg (show ¬ ((t : Int) + 1 = -1) by omega), if_neg (show ¬ ((t : Int) = -1) by omega)]
    have e : ((t : Int) + 1).toNat = t + 1 := by omega
    have e' : ((t : Int)).toNat = t := by omega
    rw [e, e', hw.mid t (by omega)]
    by_cases h3 : O t = 3
    · rw [if_pos h3, if_pos h3]
    · rw [if_neg h3, if_neg h3, h.ens, h1, sh_some]
  · unfold plc
    rw [if_neg (show ¬ ((-1 : Int) + 1 = -1) by omega), if_pos rfl]
    have e : ((-1 : Int) + 1).toNat = 0 := rfl
    rw [e, hw.first, if_neg (by decide), h.ens0]

theorem brn_wrap {O U : Nat → Int} {n i : Nat} {a : Int} (hw : Wd O U n) (h : Wf O U n) (hg : Good O n) (hi : i < n) (ha : a < (labs O i).length) : brn U (n + 2) (i + 1) a = (brn O n i a).map (· + 1) := by
  unfold brn
  rw [labs_wrap_len h hi]
  by_cases h0 : 0 ≤ a
  · rw [if_pos ⟨h0, by omega⟩, if_pos ⟨h0, ha⟩]
    have hk : a.toNat < (labs O i).length := by omega
    rw [labs_wrap_get h hi hk]
    have hm : (labs O i).getD a.toNat (-1) ∈ labs O i := by
      rw [List.getD_eq_getElem?_getD, List.getElem?_eq_getElem hk]; exact List.getElem_mem hk
    rw [plc_wrap hw h hg hi hm]
    rfl
  · rw [if_neg (fun x => h0 x.1), if_neg (fun x => h0 x.1)]
    rfl

theorem brn_wrap_all {O U : Nat → Int} {n i : Nat} (hw : Wd O U n) (h : Wf O U n) (hg : Good O n) (hi : i < n) : ∀ (l : List Int), (∀ z ∈ l, z < (labs O i).length) → l.flatMap (brn U (n + 2) (i + 1)) = (l.flatMap (brn O n i)).map (· + 1)
  | [], _ => rfl
  | a :: l, hl => by
    rw [List.flatMap_cons, List.flatMap_cons, List.map_append, brn_wrap_all hw h hg hi l (fun z hz => hl z (by simp [hz])), brn_wrap hw h hg hi (hl a (by simp))]

theorem pls_wrap {O U : Nat → Int} {n i : Nat} {a : Int} {l : List Int} (hw : Wd O U n) (h : Wf O U n) (hg : Good O n) (hi : i < n) (hn : nam (O i) a l (labs O i).length = true) (h10 : O i ≠ 10) :
    pls U (n + 2) (i + 1) (O i) a l = (pls O n i (O i) a l).map (· + 1) := by
  unfold nam at hn
  unfold pls
  by_cases c0 : O i = 0
  · rw [if_pos c0, if_pos c0]; rfl
  rw [if_neg c0, if_neg c0]
  by_cases c4 : O i = 4
  · rw [if_pos c4, if_pos c4]
    have hO : isO (O i) = true := isO_iff.2 (by omega)
    obtain ⟨j, h1, _⟩ := good_open hg hi hO
    unfold oth
    rw [h.els, h.ens, h1, sh_some]
    rcases good_els (i := i) hg with he | ⟨q, he, _⟩
    · rw [he, sh_none, if_pos rfl, if_pos rfl]; simp
    · rw [he, sh_some, if_neg (by omega), if_neg (by omega)]; simp
  rw [if_neg c4, if_neg c4]
  by_cases c5 : O i = 5
  · rw [if_pos c5, if_pos c5]
    obtain ⟨_, j, h1, _⟩ := good_else hg hi c5
    rw [h.ens, h1, sh_some]; rfl
  rw [if_neg c5, if_neg c5]
  by_cases c8 : O i = 8
  · rw [if_pos c8, if_pos c8]
    rw [if_pos (.inr c8)] at hn
    rw [List.map_cons, brn_wrap hw h hg hi (by simpa using hn)]
    simp
  rw [if_neg c8, if_neg c8]
  by_cases c7 : O i = 7
  · rw [if_pos c7, if_pos c7]
    rw [if_pos (.inl c7)] at hn
    exact brn_wrap hw h hg hi (by simpa using hn)
  rw [if_neg c7, if_neg c7]
  by_cases c9 : O i = 9
  · rw [if_pos c9, if_pos c9]
    rw [if_neg (fun x => x.elim c7 c8), if_pos c9] at hn
    refine brn_wrap_all hw h hg hi l (fun z hz => ?_)
    have := List.all_eq_true.1 hn z hz
    simpa using this
  rw [if_neg c9, if_neg c9, if_neg h10, if_neg h10]
  simp

theorem nub_succ (l : List Int) : nub (l.map (· + 1)) = (nub l).map (· + 1) := by
  obtain ⟨h1, h2⟩ := nub_facts (l.map (· + 1))
  obtain ⟨h3, h4⟩ := nub_facts l
  refine lt_ext h1 ?_ (fun x => ?_)
  · rw [List.pairwise_map]
    exact h3.imp (fun h => by omega)
  · rw [h2 x, List.mem_map, List.mem_map]
    constructor
    · rintro ⟨y, hy, e⟩; exact ⟨y, (h4 y).2 hy, e⟩
    · rintro ⟨y, hy, e⟩; exact ⟨y, (h4 y).1 hy, e⟩
theorem nub_one (x : Int) : nub [x] = [x] := lt_ext (nub_facts [x]).1 (List.pairwise_singleton _ _) (fun y => (nub_facts [x]).2 y)

/-- Where control goes, one further on. -/
theorem nxt_wrap {O U : Nat → Int} {n i : Nat} {a : Int} {l : List Int} (hw : Wd O U n) (hg : Good O n) (hi : i < n) (hn : nam (O i) a l (labs O i).length = true) :
    nub (pls U (n + 2) (i + 1) (O i) a l) = (nub (pls O n i (O i) a l)).map (mv n (decide (O i = 10))) := by
  have h := wf_of hw hg
  by_cases h10 : O i = 10
  · have e1 : ∀ (V : Nat → Int) (m k : Nat), pls V m k 10 a l = [(m : Int)] := fun V m k => by unfold pls; simp
    rw [h10, e1, e1, nub_one, nub_one]
    simp [mv]
  · rw [pls_wrap hw h hg hi hn h10, nub_succ, decide_eq_false h10]
    refine List.map_congr_left (fun z hz => ?_)
    have := pls_range hg hi z (((nub_facts _).2 z).1 hz)
    rw [mv_false, sh_pos this.1]
end Go.Proofs.Ytkcidabokgadcaa
