/-
  Where control comes into a segment, plainly. No Go in sight.
-/
import Derived.Test.YtfcklkmfdjjfoaaGood
import Derived.Test.YtfcklkmfdjjfoaaBp
namespace Go.Proofs.Ytfcklkmfdjjfoaa
set_option linter.unusedVariables false

theorem le_beg {O : Nat → Int} {n k : Nat} (h : cutB (O k) = true) : leB O n (k + 1) = true := by simp [leB, begB, h]
theorem le_if {O : Nat → Int} {n j q : Nat} (hj : j < n) (h4 : O j = 4) (he : enF O n j = q) : leB O n q = true := by
  have : ifB O n q n = true := ifB_iff.2 ⟨j, hj, h4, he⟩
  simp [leB, this]

theorem good_else_if {O : Nat → Int} {n i : Nat} (h : Good O n) (hi : i < n) (h5 : O i = 5) : ∃ t, t < n ∧ O t = 4 ∧ enF O n t = enF O n i := by
  have hiv := iv_of h.2.1
  obtain ⟨t, ht, hx⟩ := hiv.elp i (good_last h hi (by omega)) h5
  rcases hiv.els t with h1 | ⟨j, h1, h2, h3, h4, h5', _, h7⟩
  · omega
  · have e : j = i := by omega
    subst e
    exact ⟨t, by omega, h4, by rw [good_en h, good_en h, h7]⟩

theorem brn_lead {O : Nat → Int} {n i : Nat} {a z : Int} (h : Good O n) (hi : i < n) (hz : z ∈ brn O n i a) : z = n ∨ ∃ q : Nat, z = q ∧ leB O n q = true := by
  unfold brn at hz
  split at hz
  · next ha =>
    simp only [List.mem_singleton] at hz
    have hl : a.toNat < (labs O i).length := by omega
    have hm : (labs O i).getD a.toNat (-1) ∈ labs O i := by
      rw [List.getD_eq_getElem?_getD, List.getElem?_eq_getElem hl]; exact List.getElem_mem hl
    generalize (labs O i).getD a.toNat (-1) = lab at hz hm
    simp only [labs, List.mem_append, List.mem_map, List.mem_singleton] at hm
    rcases hm with ⟨t, ht, rfl⟩ | rfl
    · obtain ⟨h1, h2⟩ := stk_mem O i t ht
      obtain ⟨j, j1, j2, j3, j4, _⟩ := good_open h (show t < n by omega) h2
      right
      unfold plc at hz
      rw [if_neg (by omega), Int.toNat_natCast] at hz
      by_cases h3 : O t = 3
      · rw [if_pos h3] at hz
        exact ⟨t + 1, by omega, le_beg (by rw [h3]; rfl)⟩
      · rw [if_neg h3, j1] at hz
        exact ⟨j + 1, by omega, le_beg (by rw [j4]; rfl)⟩
    · left; rw [hz]; unfold plc; rw [if_pos rfl]
  · cases hz

/-- Every place to which control goes: the next pc, behind the code, or a leader. -/
theorem pls_lead {O : Nat → Int} {n i : Nat} {a z : Int} {l : List Int} (h : Good O n) (hi : i < n) (hz : z ∈ pls O n i (O i) a l) : z = (i : Int) + 1 ∨ z = n ∨ ∃ q : Nat, z = q ∧ leB O n q = true := by
  unfold pls at hz
  split at hz
  · cases hz
  split at hz
  · next h4 =>
    obtain ⟨j, h1, h2, h3, _⟩ := good_open h hi (isO_iff.2 (by omega))
    simp only [List.mem_cons, List.not_mem_nil, or_false] at hz
    rcases hz with rfl | rfl
    · exact .inl rfl
    · right; right
      unfold oth
      rcases good_els (i := i) h with he | ⟨t, t1, t2, t3, t4, t5, _⟩
      · rw [if_pos he, h1]; exact ⟨j, rfl, le_if hi h4 h1⟩
      · rw [if_neg (by omega), t1]; exact ⟨t + 1, by omega, le_beg (by rw [t5]; rfl)⟩
  split at hz
  · next h5 =>
    obtain ⟨_, j, h1, h2, h3, _⟩ := good_else h hi h5
    obtain ⟨t, t1, t2, t3⟩ := good_else_if h hi h5
    simp only [List.mem_singleton] at hz
    right; right
    exact ⟨j, by rw [hz, h1], le_if t1 t2 (by rw [t3, h1])⟩
  split at hz
  · rcases List.mem_cons.1 hz with rfl | hz
    · exact .inl rfl
    · exact .inr (brn_lead h hi hz)
  split at hz
  · exact .inr (brn_lead h hi hz)
  split at hz
  · obtain ⟨a', _, hz⟩ := List.mem_flatMap.1 hz
    exact .inr (brn_lead h hi hz)
  split at hz
  · simp only [List.mem_singleton] at hz; exact .inr (.inl hz)
  · simp only [List.mem_singleton] at hz; exact .inl hz

/-- What BlocksEnter asks at a pc. -/
structure EnterF (S F : Nat → Nat) (n pc : Nat) (N : List Int) : Prop where
  le : S pc ≤ pc
  one : 1 ≤ F pc
  in_ : pc + F pc ≤ n
  self : S (S pc) = S pc
  whole : pc - S pc + F pc = F (S pc)
  most : F (S pc) ≤ 16
  mid : S pc ≠ pc → 0 < pc ∧ S (pc - 1) = S pc ∧ F (pc - 1) = F pc + 1
  beg : S pc = pc → 0 < pc → F (pc - 1) = 1
  more : 1 < F pc → N = [(pc : Int) + 1]
  goes : ∀ z ∈ N, 0 ≤ z ∧ (z < n → (z ≠ (pc : Int) + 1 ∨ F pc = 1) → S z.toNat = z.toNat)

theorem enter_fact {O : Nat → Int} {n pc : Nat} {a : Int} {l : List Int} (h : Good O n) (hp : pc < n) : EnterF (stF (leB O n)) (lfF (stF (leB O n)) n) n pc (nub (pls O n pc (O pc) a l)) := by
  obtain ⟨c1, c2, c3, c4⟩ := lfF_spec (S := stF (leB O n)) hp
  have hle := st_le (leB O n) pc
  refine ⟨hle.1, c1, c3, st_self _ _, (lfF_whole hp).symm, by rw [lfF_whole hp]; exact lfF_sixteen hp, fun hne => ?_, fun he h0 => ?_, fun hm => ?_, fun z hz => ?_⟩
  · obtain ⟨k, rfl⟩ : ∃ k, pc = k + 1 := ⟨pc - 1, by
      have : pc ≠ 0 := fun e => hne (by subst e; rfl)
      omega⟩
    have e := (st_next hne).1
    rw [Nat.add_sub_cancel]
    exact ⟨by omega, e.symm, lfF_next hp e⟩
  · obtain ⟨k, rfl⟩ : ∃ k, pc = k + 1 := ⟨pc - 1, by omega⟩
    rw [Nat.add_sub_cancel]
    have := st_le (leB O n) k
    exact lfF_stop (by omega) (.inr (by omega))
  · have e := c2 1 hm
    have hne : stF (leB O n) (pc + 1) ≠ pc + 1 := by omega
    have hL := (st_next hne).2
    have hcut : ¬ cutB (O pc) = true := fun x => by rw [le_beg x] at hL; cases hL
    rw [cutB_iff] at hcut
    have hpl : pls O n pc (O pc) a l = [(pc : Int) + 1] := by
      unfold pls
      rw [if_neg (by omega), if_neg (by omega), if_neg (by omega), if_neg (by omega), if_neg (by omega), if_neg (by omega), if_neg (by omega)]
    rw [hpl]
    have hn := nub_facts [(pc : Int) + 1]
    exact lt_ext hn.1 (by simp) hn.2
  · have hz' := ((nub_facts _).2 z).1 hz
    have hr := pls_range h hp z hz'
    refine ⟨hr.1, fun hzn hc => ?_⟩
    rcases pls_lead h hp hz' with e | e | ⟨q, e, hq⟩
    · rcases hc with hc | hc
      · exact absurd e hc
      · have ez : z.toNat = pc + 1 := by omega
        rw [ez]
        rcases c4 with c4 | c4
        · omega
        · rw [hc] at c4
          rcases st_or (leB O n) pc with x | x
          · exact x
          · exact absurd x c4
    · omega
    · rw [e, Int.toNat_natCast]; exact st_lead hq
end Go.Proofs.Ytfcklkmfdjjfoaa
