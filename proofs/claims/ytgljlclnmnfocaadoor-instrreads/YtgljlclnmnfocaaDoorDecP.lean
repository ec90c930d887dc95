/-
  There and back, of whole instructions, without a program.
-/
import Derived.Test.YtgljlclnmnfocaaDoorDec
namespace Go.Proofs.YtgljlclnmnfocaaDoor
set_option linter.unusedVariables false

/-- What is encoded is decoded as itself, whatever stands ahead and behind. -/
theorem decV_back (A R : List Int) (c a : Int) (l : List Int) (h : chk (tkV c) (lgV c) a l = 0) : decV (A ++ encV c a l ++ R) A.length = (c, a, l, ((A.length + (encV c a l).length : Nat) : Int), 0) := by
  have ht := (chk_ok h).1
  have hg : (A ++ encV c a l ++ R).getD A.length 0 = c := by simp [encV, List.getD_eq_getElem?_getD]
  have hl : (A ++ encV c a l ++ R).length = A.length + (encV c a l).length + R.length := by simp; omega
  have he : (encV c a l).length = 1 + (encB (tkV c) a l).length := by simp [encV]; omega
  have hd := dec_enc (A ++ [c]) R h
  rw [show A ++ [c] ++ encB (tkV c) a l ++ R = A ++ encV c a l ++ R by simp [encV]] at hd
  rw [show ((A ++ [c]).length : Int) = (A.length : Int) + 1 by simp] at hd
  unfold decV
  rw [if_neg (by omega), if_neg (by omega), Int.toNat_natCast, hg, if_neg ht, hd]
  simp only [ne_eq, not_true_eq_false, if_false]
  simp [encV]
  omega

/-- With an error all else is zero. -/
theorem decV_err (zs : List Int) (p : Int) (h : (decV zs p).2.2.2.2 ≠ 0) : decV zs p = (0, 0, [], 0, (decV zs p).2.2.2.2) := by
  unfold decV at h ⊢
  by_cases h1 : p < 0 ∨ (zs.length : Int) < p
  · rw [if_pos h1]
  rw [if_neg h1] at h ⊢
  by_cases h2 : p = zs.length
  · rw [if_pos h2]
  rw [if_neg h2] at h ⊢
  by_cases h3 : tkV (zs.getD p.toNat 0) = -1
  · rw [if_pos h3]
  rw [if_neg h3] at h ⊢
  by_cases h4 : (decR (tkV (zs.getD p.toNat 0)) (lgV (zs.getD p.toNat 0)) zs (p + 1)).2.2.2 ≠ 0
  · rw [if_pos h4]
  · rw [if_neg h4] at h; simp at h

/-- What is decoded may be, and is encoded as the same bytes. -/
theorem decV_same (zs : List Int) (p c a : Int) (l : List Int) (q : Int) (hz : ∀ z ∈ zs, 0 ≤ z ∧ z ≤ 255) (h : decV zs p = (c, a, l, q, 0)) :
    0 ≤ c ∧ c ≤ 255 ∧ chk (tkV c) (lgV c) a l = 0 ∧ 0 ≤ p ∧ p < q ∧ q ≤ zs.length ∧ (zs.drop p.toNat).take (q - p).toNat = encV c a l := by
  unfold decV at h
  by_cases h1 : p < 0 ∨ (zs.length : Int) < p
  · rw [if_pos h1] at h; simp at h
  rw [if_neg h1] at h
  by_cases h2 : p = zs.length
  · rw [if_pos h2] at h; simp at h
  rw [if_neg h2] at h
  have hp : p.toNat < zs.length := by omega
  have hr := getD_range zs hz p.toNat
  rw [← List.getD_eq_getElem?_getD] at hr
  have hcons : zs.drop p.toNat = zs.getD p.toNat 0 :: zs.drop (p.toNat + 1) := by rw [List.drop_eq_getElem_cons hp]; simp [hp]
  generalize zs.getD p.toNat 0 = y at *
  by_cases h3 : tkV y = -1
  · rw [if_pos h3] at h; simp at h
  rw [if_neg h3] at h
  cases hd : decR (tkV y) (lgV y) zs (p + 1) with
  | mk d r =>
    obtain ⟨l', q', x⟩ := r
    rw [hd] at h
    simp only at h
    by_cases h4 : x = 0
    · subst h4
      rw [if_neg (by simp)] at h
      simp only [Prod.mk.injEq] at h
      obtain ⟨rfl, rfl, rfl, rfl, _⟩ := h
      obtain ⟨e1, e2, e3, e4⟩ := enc_dec zs (p + 1) q' hz (by omega) (by omega) h3 hd
      refine ⟨hr.1, hr.2, e1, by omega, by omega, e3, ?_⟩
      rw [hcons, show (q' - p).toNat = (q' - (p + 1)).toNat + 1 by omega, List.take_succ_cons, encV]
      rw [show (p + 1).toNat = p.toNat + 1 by omega] at e4
      rw [e4]
    · rw [if_pos h4] at h
      simp only [Prod.mk.injEq] at h
      exact absurd h.2.2.2.2 h4

theorem encV_len {c a : Int} {l : List Int} (h : chk (tkV c) (lgV c) a l = 0) : 1 ≤ (encV c a l).length ∧ (encV c a l).length ≤ 171 := by
  obtain ⟨_, _, _, h4, h5⟩ := chk_ok h
  have : l.length ≤ 16 := by
    by_cases h3 : tkV c = 3
    · exact (h4 h3).2.1
    · rw [h5 h3]; simp
  have := encB_len (tkV c) a l this
  simp only [encV, List.length_cons]; omega
theorem encV_mem {c a : Int} {l : List Int} (h0 : 0 ≤ c) (h1 : c ≤ 255) (h : chk (tkV c) (lgV c) a l = 0) : ∀ z ∈ encV c a l, 0 ≤ z ∧ z ≤ 255 := by
  intro z hz
  simp only [encV, List.mem_cons] at hz
  rcases hz with rfl | hz
  · exact ⟨h0, h1⟩
  · exact encB_mem h z hz
theorem chk_list {t : Int} {g : Bool} {a : Int} {l : List Int} (h : chk t g a l = 0) : l.length ≤ 16 ∧ ∀ z ∈ l, -9223372036854775808 ≤ z ∧ z ≤ 9223372036854775807 := by
  obtain ⟨_, _, _, h4, h5⟩ := chk_ok h
  by_cases h3 : t = 3
  · refine ⟨(h4 h3).2.1, fun z hz => ?_⟩
    have := (okL_mem l).1 (h4 h3).2.2 z hz
    omega
  · rw [h5 h3]; simp

theorem wk_enc : chk (tkV 24) (lgV 24) (-3) [] = 0 ∧ encV 24 (-3) [] = [24, 5] := by decide +kernel
theorem wk_dec : decV [255, 18, 5] 1 = (18, 5, [], 3, 0) := by decide +kernel
theorem wk_chk : chk (tkV 48) (lgV 48) 1 [] = 17 := by decide +kernel
end Go.Proofs.YtgljlclnmnfocaaDoor
