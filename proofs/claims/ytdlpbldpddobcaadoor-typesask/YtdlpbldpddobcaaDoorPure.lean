/-
  Plain facts on texts of signatures: what is written is read, and nothing else is.
-/
import Derived.Test.YtdlpbldpddobcaaDoorWord
import Derived.Lib.CutLaws
namespace Go.Proofs.YtdlpbldpddobcaaDoor
open Go.RowKit
set_option linter.unusedVariables false

abbrev arrowL : List UInt8 := [32, 45, 62, 32]
def cutL (s : ByteArray) : ByteArray := ⟨(Lib.cut s.data.toList arrowL).1.toArray⟩
def cutR (s : ByteArray) : ByteArray := ⟨(Lib.cut s.data.toList arrowL).2.1.toArray⟩
def cutF (s : ByteArray) : Bool := (Lib.cut s.data.toList arrowL).2.2
/-- Is it a signature's text? -/
def rdB (s : ByteArray) : Bool := cutF s && rsB (cutL s) && rsB (cutR s)
def rdP (s : ByteArray) : ByteArray := if rdB s = true then rsV (cutL s) else ⟨#[]⟩
def rdR (s : ByteArray) : ByteArray := if rdB s = true then rsV (cutR s) else ⟨#[]⟩
def rdE (s : ByteArray) : Int := if rdB s = true then 0 else 15

theorem ba_ext {a b : ByteArray} (h : a.data.toList = b.data.toList) : a = b := by
  cases a; cases b; congr; exact Array.toList_inj.1 h
theorem ba_size (a : ByteArray) : a.size = a.data.toList.length := Array.length_toList.symm
theorem ba_toList (a : ByteArray) : a.toList = a.data.toList := ByteArray.toList_eq a
theorem ba_app (a b : ByteArray) : (a ++ b).data.toList = a.data.toList ++ b.data.toList := by simp [ByteArray.data_append]

theorem lett_mem (s : ByteArray) (most : Nat) : lett s most = true ↔ (∀ c ∈ s.data.toList, c = 119 ∨ c = 108) ∧ s.size ≤ most := by
  rw [lett_iff]
  constructor
  · intro ⟨h, hm⟩
    refine ⟨fun c hc => ?_, hm⟩
    obtain ⟨i, hi, rfl⟩ := List.getElem_of_mem hc
    have := h i (by rw [ba_size]; exact hi)
    rw [byteI, List.getElem?_eq_getElem hi, Option.getD_some] at this
    simp only [isL, Bool.or_eq_true, decide_eq_true_eq] at this
    rcases this with h | h
    · left; apply UInt8.toNat_inj.1; exact Int.ofNat_inj.1 h
    · right; apply UInt8.toNat_inj.1; exact Int.ofNat_inj.1 h
  · intro ⟨h, hm⟩
    refine ⟨fun i hi => ?_, hm⟩
    rw [ba_size] at hi
    rw [byteI, List.getElem?_eq_getElem hi, Option.getD_some]
    rcases h _ (List.getElem_mem hi) with h | h <;> rw [h] <;> rfl

theorem cut_sizes (s : ByteArray) : (cutL s).size ≤ s.size ∧ (cutR s).size ≤ s.size := by
  rw [ba_size, ba_size, ba_size]
  show (Lib.cut s.data.toList arrowL).1.length ≤ _ ∧ (Lib.cut s.data.toList arrowL).2.1.length ≤ _
  unfold Lib.cut
  split
  · simp only [List.length_take, List.length_drop]; omega
  · simp

theorem sideS_list (p : ByteArray) : (sideS p).data.toList = if p.data.toList = [] then [45] else p.data.toList := by
  unfold sideS
  rw [ba_toList]
  by_cases h : p.data.toList = []
  · simp [h]
  · rw [if_neg h, if_neg (by simpa using h)]

theorem wordS_list (p r : ByteArray) : (wordS p r).data.toList = (sideS p).data.toList ++ (arrowL ++ (sideS r).data.toList) := by
  unfold wordS
  rw [ba_app, ba_app, List.append_assoc]

theorem side_no32 {p : ByteArray} (h : lett p 8 = true) : ∀ c ∈ (sideS p).data.toList, c ≠ 32 := by
  intro c hc
  rw [sideS_list] at hc
  split at hc
  · simp at hc; subst hc; decide
  · rcases ((lett_mem p 8).1 h).1 c hc with rfl | rfl <;> decide

theorem cut_at (l r : List UInt8) (h : ∀ c ∈ l, c ≠ 32) : Lib.cut (l ++ (arrowL ++ r)) arrowL = (l, r, true) := by
  have hi : Lib.index (l ++ (arrowL ++ r)) arrowL = (l.length : Int) := by
    refine Lib.index_first (by simp) ?_ ?_
    · simp [Lib.occAt]
    · intro j hj
      cases ho : Lib.occAt (l ++ (arrowL ++ r)) arrowL j
      · rfl
      · have := Lib.occAt_head (c := 32) (t := [45, 62, 32]) rfl ho
        rw [List.getElem?_append_left hj, List.getElem?_eq_getElem hj] at this
        exact absurd (Option.some.inj this) (h _ (List.getElem_mem hj))
  unfold Lib.cut
  rw [hi, if_pos (by omega)]
  simp

theorem cut_word {p r : ByteArray} (h : lett p 8 = true) : cutL (wordS p r) = sideS p ∧ cutR (wordS p r) = sideS r ∧ cutF (wordS p r) = true := by
  have := cut_at (sideS p).data.toList (sideS r).data.toList (side_no32 h)
  rw [← wordS_list] at this
  refine ⟨ba_ext ?_, ba_ext ?_, ?_⟩
  · show (Lib.cut _ _).1 = _; rw [this]
  · show (Lib.cut _ _).2.1 = _; rw [this]
  · show (Lib.cut _ _).2.2 = _; rw [this]

theorem rs_side {p : ByteArray} (h : lett p 8 = true) : rsB (sideS p) = true ∧ rsV (sideS p) = p := by
  have hm := ((lett_mem p 8).1 h).1
  unfold rsB rsV
  rw [ba_toList, sideS_list]
  by_cases h0 : p.data.toList = []
  · rw [if_pos h0]
    refine ⟨by simp, ?_⟩
    simp only [List.isEmpty_cons]
    exact ba_ext (by simp [h0])
  · rw [if_neg h0]
    have hs : sideS p = p := ba_ext (by rw [sideS_list, if_neg h0])
    have h1 : p.data.toList.isEmpty = false := by simpa using h0
    have h2 : (p.data.toList == [45]) = false := by
      rw [beq_eq_false_iff_ne]
      intro e
      have := hm 45 (by rw [e]; simp)
      revert this; decide
    rw [h1, h2, hs]
    exact ⟨by simpa using h, by simp⟩

theorem rd_word {p r : ByteArray} (h : sigB p r = true) : rdB (wordS p r) = true ∧ rdP (wordS p r) = p ∧ rdR (wordS p r) = r ∧ rdE (wordS p r) = 0 := by
  simp only [sigB, Bool.and_eq_true] at h
  obtain ⟨c1, c2, c3⟩ := cut_word (r := r) h.1
  obtain ⟨p1, p2⟩ := rs_side h.1
  obtain ⟨r1, r2⟩ := rs_side h.2
  have hb : rdB (wordS p r) = true := by simp [rdB, c1, c2, c3, p1, r1]
  refine ⟨hb, ?_, ?_, ?_⟩
  · rw [rdP, if_pos hb, c1, p2]
  · rw [rdR, if_pos hb, c2, r2]
  · rw [rdE, if_pos hb]

theorem rs_back {l : ByteArray} (h : rsB l = true) : lett (rsV l) 8 = true ∧ sideS (rsV l) = l := by
  unfold rsB at h
  unfold rsV
  rw [ba_toList] at h ⊢
  cases h0 : l.data.toList.isEmpty
  · rw [h0] at h
    cases h1 : (l.data.toList == [45])
    · rw [h1] at h
      simp at h ⊢
      refine ⟨h, ba_ext ?_⟩
      rw [sideS_list, if_neg (by simpa using h0)]
    · simp
      refine ⟨by rfl, ba_ext ?_⟩
      rw [sideS_list, if_pos rfl]
      simpa using (beq_iff_eq.1 h1).symm
  · rw [h0] at h; simp at h

theorem cut_back {s : ByteArray} (h : cutF s = true) : s.data.toList = (cutL s).data.toList ++ (arrowL ++ (cutR s).data.toList) := by
  show _ = (Lib.cut s.data.toList arrowL).1 ++ (arrowL ++ (Lib.cut s.data.toList arrowL).2.1)
  have h' : (Lib.cut s.data.toList arrowL).2.2 = true := h
  unfold Lib.cut at h' ⊢
  rcases Lib.index_spec s.data.toList arrowL with ⟨e, _⟩ | ⟨i, e, hi, ho, _⟩
  · rw [e] at h'; simp at h'
  · rw [e, if_pos (by omega)]
    simp only [Int.toNat_natCast]
    have hp : arrowL <+: s.data.toList.drop i := List.isPrefixOf_iff_prefix.1 ho
    obtain ⟨t, ht⟩ := hp
    have hd : s.data.toList.drop (i + arrowL.length) = t := by
      rw [← List.drop_drop, ← ht]; simp
    rw [hd, ht, List.take_append_drop]

theorem word_rd {s : ByteArray} (h : rdB s = true) : sigB (rdP s) (rdR s) = true ∧ wordS (rdP s) (rdR s) = s := by
  have h' := h
  simp only [rdB, Bool.and_eq_true] at h'
  obtain ⟨⟨h1, h2⟩, h3⟩ := h'
  obtain ⟨l1, l2⟩ := rs_back h2
  obtain ⟨r1, r2⟩ := rs_back h3
  rw [rdP, rdR, if_pos h, if_pos h]
  refine ⟨by simp [sigB, l1, r1], ba_ext ?_⟩
  rw [wordS_list, l2, r2, ← cut_back h1]

/-- A dash stands for nothing. -/
def undash (s : ByteArray) : ByteArray := if (s.toList == [45]) = true then ⟨#[]⟩ else s
/-- The document's tries. -/
def candP (s : ByteArray) (i : Nat) : ByteArray := undash (s.extract 0 i)
def candR (s : ByteArray) (k : Nat) : ByteArray := if k ≤ s.size then undash (s.extract (s.size - k) s.size) else ⟨#[]⟩
def hit (s : ByteArray) (i k : Nat) : Bool := sigB (candP s i) (candR s k) && ((wordS (candP s i) (candR s k)).toList == s.toList)

theorem ext_list (s : ByteArray) (i j : Nat) : (s.extract i j).data.toList = (s.data.toList.drop i).take (j - i) := by
  rw [ByteArray.data_extract, Array.toList_extract, List.extract_eq_take_drop]

theorem undash_side {p : ByteArray} (h : lett p 8 = true) : undash (sideS p) = p := by
  have := (rs_side h).2
  have hne : (sideS p).toList.isEmpty = false := by
    rw [ba_toList, sideS_list]
    split
    · rfl
    · simpa using ‹¬ p.data.toList = []›
  unfold rsV at this
  rw [hne] at this
  exact this

theorem side_size {p : ByteArray} (h : lett p 8 = true) : 1 ≤ (sideS p).size ∧ (sideS p).size ≤ 8 := by
  have hm := ((lett_mem p 8).1 h).2
  rw [ba_size, sideS_list]
  split
  · simp
  · rw [ba_size] at hm
    have := List.length_pos_iff.2 ‹¬ p.data.toList = []›
    omega

/-- A hit is what ReadSig reads. -/
theorem hit_rd {s : ByteArray} {i k : Nat} (h : hit s i k = true) : rdP s = candP s i ∧ rdR s = candR s k ∧ rdE s = 0 := by
  simp only [hit, Bool.and_eq_true] at h
  have e : wordS (candP s i) (candR s k) = s := ba_ext (by have := beq_iff_eq.1 h.2; rw [ba_toList, ba_toList] at this; exact this)
  have := rd_word h.1
  rw [e] at this
  exact this.2

/-- What ReadSig reads is hit. -/
theorem rd_hit {s : ByteArray} (h : rdB s = true) : ∃ i k, i < s.size ∧ i ≤ 8 ∧ k ≤ 8 ∧ hit s i k = true := by
  obtain ⟨hs, hw⟩ := word_rd h
  generalize rdP s = p at hs hw
  generalize rdR s = r at hs hw
  have hs' := hs
  simp only [sigB, Bool.and_eq_true] at hs'
  have hl := wordS_list p r
  rw [hw] at hl
  have zp := side_size hs'.1
  have zr := side_size hs'.2
  have hz : s.size = (sideS p).size + 4 + (sideS r).size := by
    rw [ba_size, hl]
    simp only [List.length_append, ← ba_size]
    simp; omega
  have cp : candP s (sideS p).size = p := by
    have : s.extract 0 (sideS p).size = sideS p := ba_ext (by
      rw [ext_list, hl, ba_size (sideS p)]; simp)
    rw [candP, this, undash_side hs'.1]
  have cr : candR s (sideS r).size = r := by
    have : s.extract (s.size - (sideS r).size) s.size = sideS r := ba_ext (by
      have e : s.size - (sideS r).size = ((sideS p).data.toList ++ arrowL).length := by
        rw [List.length_append, ← ba_size]; simp; omega
      rw [ext_list, e, hl, ← List.append_assoc, List.drop_append_of_le_length (Nat.le_refl _), List.drop_length, List.nil_append]
      apply List.take_of_length_le
      rw [← e, ← ba_size]; omega)
    rw [candR, if_pos (by omega), this, undash_side hs'.2]
  refine ⟨(sideS p).size, (sideS r).size, by omega, zp.2, zr.2, ?_⟩
  rw [hit, cp, cr, hs, hw]; simp

theorem rd_none {s : ByteArray} (h : ∀ i k, i < s.size → i ≤ 8 → k ≤ 8 → hit s i k = false) : rdP s = ⟨#[]⟩ ∧ rdR s = ⟨#[]⟩ ∧ rdE s = 15 := by
  cases hb : rdB s
  · simp [rdP, rdR, rdE, hb]
  · obtain ⟨i, k, h1, h2, h3, h4⟩ := rd_hit hb
    rw [h i k h1 h2 h3] at h4; cases h4
theorem rd_range (s : ByteArray) : (rdP s).size ≤ s.size ∧ (rdR s).size ≤ s.size := by
  have := cut_sizes s
  have hv : ∀ l : ByteArray, (rsV l).size ≤ l.size := by
    intro l; unfold rsV
    split
    · exact Nat.zero_le _
    · split
      · exact Nat.zero_le _
      · exact Nat.le_refl _
  have h1 := hv (cutL s)
  have h2 := hv (cutR s)
  unfold rdP rdR
  cases rdB s
  · exact ⟨Nat.zero_le _, Nat.zero_le _⟩
  · simp only [if_true]; omega
end Go.Proofs.YtdlpbldpddobcaaDoor
