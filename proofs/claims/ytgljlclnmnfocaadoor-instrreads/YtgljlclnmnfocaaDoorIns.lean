/-
  Instructions as bytes, plainly: what may be, what is written, what is read; there and back. No Go in sight.
-/
import Derived.Test.YtgljlclnmnfocaaDoorPlain
namespace Go.Proofs.YtgljlclnmnfocaaDoor
set_option linter.unusedVariables false

/-- What the number A of an instruction may be: the least, the greatest (t: what it takes; g: a constant of 64 bits). -/
def lo (t : Int) (g : Bool) : Int := if t = 8 then (if g = true then -9223372036854775808 else -2147483648) else 0
def hi (t : Int) (g : Bool) : Int :=
  if t = 0 ∨ t = 3 then 0 else if t = 9 then 4294967295 else if t = 8 then (if g = true then 9223372036854775807 else 2147483647) else 2147483647

theorem lo_range (t : Int) (g : Bool) : -9223372036854775808 ≤ lo t g ∧ lo t g ≤ 0 := by
  unfold lo; split
  · split <;> omega
  · omega
theorem hi_range (t : Int) (g : Bool) : 0 ≤ hi t g ∧ hi t g ≤ 9223372036854775807 ∧ (t ≠ 8 → hi t g ≤ 4294967295 ∧ lo t g = 0) := by
  unfold hi lo
  split
  · refine ⟨by omega, by omega, fun h => ?_⟩
    rw [if_neg h]; omega
  · split
    · refine ⟨by omega, by omega, fun h => ?_⟩
      rw [if_neg h]; omega
    · split
      · refine ⟨by split <;> omega, by split <;> omega, fun h => by omega⟩
      · refine ⟨by omega, by omega, fun h => ?_⟩
        omega

/-- Labels that may be. -/
def okL : List Int → Prop
  | [] => True
  | z :: l => (0 ≤ z ∧ z ≤ 2147483647) ∧ okL l

instance decOkL : (l : List Int) → Decidable (okL l)
  | [] => .isTrue trivial
  | z :: l => match decOkL l with
    | .isTrue h => if hz : 0 ≤ z ∧ z ≤ 2147483647 then .isTrue ⟨hz, h⟩ else .isFalse fun x => hz x.1
    | .isFalse h => .isFalse fun x => h x.2

theorem okL_mem : ∀ (l : List Int), okL l ↔ ∀ z ∈ l, 0 ≤ z ∧ z ≤ 2147483647
  | [] => by simp [okL]
  | z :: l => by simp [okL, okL_mem l]

/-- May the instruction be? The error, if not. -/
def chk (t : Int) (g : Bool) (a : Int) (l : List Int) : Int :=
  if t = -1 then 21
  else if a < lo t g ∨ hi t g < a then 17
  else if t = 3 then (if l.length < 1 ∨ 16 < l.length then 17 else if okL l then 0 else 17)
  else if l.length = 0 then 0 else 17

/-- The bytes behind the opcode. -/
def labB : List Int → List Int
  | [] => []
  | z :: l => uvar z ++ labB l
def encB (t a : Int) (l : List Int) : List Int :=
  if t = 0 then [] else if t = 8 then uvar (fo a) else if t = 3 then uvar l.length ++ labB l else uvar a

/-- Labels, read one by one: those, the place behind, the error. -/
def labs (zs : List Int) : Nat → Int → List Int → List Int × Int × Int
  | 0, p, acc => (acc, p, 0)
  | n + 1, p, acc =>
    if (ruAt zs p).2.2 ≠ 0 then ([], 0, (ruAt zs p).2.2)
    else if 2147483647 < (ruAt zs p).1 then ([], 0, 17)
    else labs zs n (ruAt zs p).2.1 (acc ++ [(ruAt zs p).1])

/-- What stands behind the opcode: A, L, the place behind, the error. -/
def decR (t : Int) (g : Bool) (zs : List Int) (p : Int) : Int × List Int × Int × Int :=
  if t = 0 then (0, [], p, 0)
  else if t = 3 then
    if (ruAt zs p).2.2 ≠ 0 then (0, [], 0, (ruAt zs p).2.2)
    else if (ruAt zs p).1 < 1 ∨ 16 < (ruAt zs p).1 then (0, [], 0, 17)
    else (0, labs zs (ruAt zs p).1.toNat (ruAt zs p).2.1 [])
  else if t = 8 then
    if (rsAt zs p).2.2 ≠ 0 then (0, [], 0, (rsAt zs p).2.2)
    else if (rsAt zs p).1 < lo t g ∨ hi t g < (rsAt zs p).1 then (0, [], 0, 17)
    else ((rsAt zs p).1, [], (rsAt zs p).2.1, 0)
  else if (ruAt zs p).2.2 ≠ 0 then (0, [], 0, (ruAt zs p).2.2)
  else if hi t g < (ruAt zs p).1 then (0, [], 0, 17)
  else ((ruAt zs p).1, [], (ruAt zs p).2.1, 0)

theorem labB_len : ∀ (l : List Int), (labB l).length ≤ 10 * l.length
  | [] => by simp [labB]
  | z :: l => by
    have := labB_len l
    have := uvar_len z
    simp only [labB, List.length_append, List.length_cons]; omega

theorem uv_mem (f : Nat) : ∀ (v : Int), 0 ≤ v → v < 128 ^ f * 256 → ∀ z ∈ uv f v, 0 ≤ z ∧ z ≤ 255 := by
  induction f with
  | zero => intro v h0 h1 z hz; simp [uv] at hz; simp at h1; omega
  | succ f ih =>
    intro v h0 h1 z hz
    by_cases h : v < 128
    · simp [uv, h] at hz; omega
    · simp only [uv, h, if_false, List.mem_cons] at hz
      rcases hz with rfl | hz
      · omega
      · refine ih (v / 128) (by omega) ?_ z hz
        have hs : (128 : Int) ^ (f + 1) = 128 ^ f * 128 := Int.pow_succ _ _
        rw [hs] at h1
        generalize (128 : Int) ^ f = X at h1 ⊢
        omega
theorem uvar_mem (v : Int) (h0 : 0 ≤ v) (h1 : v < 18446744073709551616) : ∀ z ∈ uvar v, 0 ≤ z ∧ z ≤ 255 := by
  have e : (128 : Int) ^ 9 = 9223372036854775808 := by decide
  refine uv_mem 9 v h0 ?_
  rw [e]; omega
theorem labB_mem : ∀ (l : List Int), okL l → ∀ z ∈ labB l, 0 ≤ z ∧ z ≤ 255
  | [], _, z, hz => by simp [labB] at hz
  | y :: l, h, z, hz => by
    simp only [labB, List.mem_append] at hz
    rcases hz with hz | hz
    · exact uvar_mem y h.1.1 (by have := h.1.2; omega) z hz
    · exact labB_mem l h.2 z hz

/-- Of an instruction that may be. -/
theorem chk_ok {t : Int} {g : Bool} {a : Int} {l : List Int} (h : chk t g a l = 0) :
    t ≠ -1 ∧ lo t g ≤ a ∧ a ≤ hi t g ∧ (t = 3 → 1 ≤ l.length ∧ l.length ≤ 16 ∧ okL l) ∧ (t ≠ 3 → l = []) := by
  unfold chk at h
  by_cases h1 : t = -1
  · rw [if_pos h1] at h; omega
  rw [if_neg h1] at h
  by_cases h2 : a < lo t g ∨ hi t g < a
  · rw [if_pos h2] at h; omega
  rw [if_neg h2] at h
  by_cases h3 : t = 3
  · rw [if_pos h3] at h
    by_cases h4 : l.length < 1 ∨ 16 < l.length
    · rw [if_pos h4] at h; omega
    rw [if_neg h4] at h
    by_cases h5 : okL l
    · exact ⟨h1, by omega, by omega, fun _ => ⟨by omega, by omega, h5⟩, fun h => absurd h3 h⟩
    · rw [if_neg h5] at h; omega
  · rw [if_neg h3] at h
    by_cases h4 : l.length = 0
    · exact ⟨h1, by omega, by omega, fun h => absurd h h3, fun _ => List.eq_nil_of_length_eq_zero h4⟩
    · rw [if_neg h4] at h; omega

theorem chk_mk {t : Int} {g : Bool} {a : Int} {l : List Int} (h1 : t ≠ -1) (h2 : lo t g ≤ a) (h3 : a ≤ hi t g) (h4 : t = 3 → 1 ≤ l.length ∧ l.length ≤ 16 ∧ okL l) (h5 : t ≠ 3 → l = []) : chk t g a l = 0 := by
  unfold chk
  rw [if_neg h1, if_neg (by omega)]
  by_cases h : t = 3
  · obtain ⟨a1, a2, a3⟩ := h4 h
    rw [if_pos h, if_neg (by omega), if_pos a3]
  · rw [if_neg h, h5 h]; rfl

theorem encB_len (t a : Int) (l : List Int) (h : l.length ≤ 16) : (encB t a l).length ≤ 170 := by
  unfold encB
  split
  · simp
  · split
    · have := uvar_len (fo a); omega
    · split
      · have := uvar_len l.length
        have := labB_len l
        rw [List.length_append]; omega
      · have := uvar_len a; omega

theorem encB_mem {t : Int} {g : Bool} {a : Int} {l : List Int} (h : chk t g a l = 0) : ∀ z ∈ encB t a l, 0 ≤ z ∧ z ≤ 255 := by
  obtain ⟨h1, h2, h3, h4, h5⟩ := chk_ok h
  have hl := lo_range t g
  have hh := hi_range t g
  intro z hz
  unfold encB at hz
  by_cases t0 : t = 0
  · rw [if_pos t0] at hz; simp at hz
  rw [if_neg t0] at hz
  by_cases t8 : t = 8
  · rw [if_pos t8] at hz
    have := fo_range a (by omega) (by omega)
    exact uvar_mem _ this.1 this.2 z hz
  rw [if_neg t8] at hz
  by_cases t3 : t = 3
  · rw [if_pos t3] at hz
    obtain ⟨a1, a2, a3⟩ := h4 t3
    rcases List.mem_append.1 hz with hz | hz
    · exact uvar_mem _ (by omega) (by omega) z hz
    · exact labB_mem l a3 z hz
  · rw [if_neg t3] at hz
    have := hh.2.2 t8
    exact uvar_mem _ (by omega) (by omega) z hz

theorem labs_back (R : List Int) : ∀ (l A acc : List Int), okL l → labs (A ++ labB l ++ R) l.length A.length acc = (acc ++ l, ((A.length + (labB l).length : Nat) : Int), 0)
  | [], A, acc, _ => by simp [labs, labB]
  | z :: l, A, acc, h => by
    have e : A ++ labB (z :: l) ++ R = A ++ uvar z ++ (labB l ++ R) := by simp [labB, List.append_assoc]
    have e2 : A ++ uvar z ++ (labB l ++ R) = (A ++ uvar z) ++ labB l ++ R := by simp [List.append_assoc]
    have rb := read_back A (labB l ++ R) z h.1.1 (by have := h.1.2; omega)
    have ih := labs_back R l (A ++ uvar z) (acc ++ [z]) h.2
    rw [e, List.length_cons, labs, rb]
    simp only [ne_eq, not_true_eq_false, if_false]
    rw [if_neg (by have := h.1.2; omega), e2]
    rw [show ((A.length : Int) + (uvar z).length) = ((A ++ uvar z).length : Nat) by rw [List.length_append]; omega]
    rw [ih]
    simp [labB]
    omega

theorem labs_same (zs : List Int) (hz : ∀ z ∈ zs, 0 ≤ z ∧ z ≤ 255) : ∀ (n : Nat) (p : Int) (acc l : List Int) (q : Int), 0 ≤ p → p ≤ zs.length → labs zs n p acc = (l, q, 0) →
    ∃ m, l = acc ++ m ∧ m.length = n ∧ okL m ∧ p ≤ q ∧ q ≤ zs.length ∧ (zs.drop p.toNat).take (q - p).toNat = labB m
  | 0, p, acc, l, q, h0, h1, h => by
    simp only [labs, Prod.mk.injEq] at h
    obtain ⟨rfl, rfl, _⟩ := h
    exact ⟨[], by simp, rfl, trivial, Int.le_refl _, h1, by simp [labB]⟩
  | n + 1, p, acc, l, q, h0, h1, h => by
    unfold labs at h
    have hrr := ruAt_range zs p hz
    cases hr : ruAt zs p with
    | mk u r =>
      obtain ⟨nx, x⟩ := r
      rw [hr] at h hrr
      simp only at h hrr
      by_cases hx : x = 0
      · subst hx
        rw [if_neg (by simp)] at h
        by_cases hu : 2147483647 < u
        · rw [if_pos hu] at h; simp at h
        rw [if_neg hu] at h
        obtain ⟨s1, s2, s3, s4, s5, s6⟩ := read_same zs p u nx hz hr
        obtain ⟨m, m1, m2, m3, m4, m5, m6⟩ := labs_same zs hz n nx (acc ++ [u]) l q (by omega) (by omega) h
        refine ⟨u :: m, by rw [m1]; simp, by simp [m2], ⟨⟨s2, by omega⟩, m3⟩, by omega, m5, ?_⟩
        have e : (q - p).toNat = (nx - p).toNat + (q - nx).toNat := by omega
        rw [labB, e, List.take_add, s1, List.drop_drop]
        congr 1
        rw [show p.toNat + (nx - p).toNat = nx.toNat by omega]
        exact m6
      · rw [if_pos hx] at h
        simp at h
        exact absurd h.2.2 hx

/-- What is written is read as itself, whatever stands ahead and behind. -/
theorem dec_enc {t : Int} {g : Bool} {a : Int} {l : List Int} (A R : List Int) (h : chk t g a l = 0) :
    decR t g (A ++ encB t a l ++ R) A.length = (a, l, ((A.length + (encB t a l).length : Nat) : Int), 0) := by
  obtain ⟨h1, h2, h3, h4, h5⟩ := chk_ok h
  have hl := lo_range t g
  have hh := hi_range t g
  unfold decR encB
  by_cases t0 : t = 0
  · rw [if_pos t0, if_pos t0]
    have hz := hh.2.2 (by omega)
    have hz0 : hi t g = 0 := by unfold hi; rw [if_pos (.inl t0)]
    have : a = 0 := by omega
    subst this
    rw [h5 (by omega)]
    simp
  rw [if_neg t0, if_neg t0]
  by_cases t8 : t = 8
  · rw [if_pos t8, if_neg (by omega), if_pos t8]
    have fr := fo_range a (by omega) (by omega)
    have rb := read_back A R (fo a) fr.1 fr.2
    unfold rsAt
    rw [rb]
    simp only [ne_eq, not_true_eq_false, if_false]
    rw [uf_fo, if_neg (by omega), h5 (by omega)]
    simp
  rw [if_neg t8]
  by_cases t3 : t = 3
  · obtain ⟨a1, a2, a3⟩ := h4 t3
    rw [if_pos t3, if_pos t3]
    have rb := read_back A (labB l ++ R) l.length (by omega) (by omega)
    have lb := labs_back R l (A ++ uvar l.length) [] a3
    rw [show A ++ (uvar l.length ++ labB l) ++ R = A ++ uvar l.length ++ (labB l ++ R) by simp [List.append_assoc], rb]
    simp only [ne_eq, not_true_eq_false, if_false]
    rw [if_neg (by omega), Int.toNat_natCast]
    rw [show A ++ uvar l.length ++ (labB l ++ R) = (A ++ uvar l.length) ++ labB l ++ R by simp [List.append_assoc]]
    rw [show ((A.length : Int) + (uvar l.length).length) = ((A ++ uvar l.length).length : Nat) by rw [List.length_append]; omega, lb]
    have hz0 : hi t g = 0 := by unfold hi; rw [if_pos (.inr t3)]
    have hz := hh.2.2 t8
    have : a = 0 := by omega
    subst this
    simp [Nat.add_assoc]
  · have hz := hh.2.2 t8
    rw [if_neg t3, if_neg t3, if_neg t8]
    have rb := read_back A R a (by omega) (by omega)
    rw [rb]
    simp only [ne_eq, not_true_eq_false, if_false]
    rw [if_neg (by omega), h5 t3]
    simp

/-- What is read may be, and is written so. -/
theorem enc_dec {t : Int} {g : Bool} {a : Int} {l : List Int} (zs : List Int) (p q : Int) (hz : ∀ z ∈ zs, 0 ≤ z ∧ z ≤ 255) (h0 : 0 ≤ p) (h1 : p ≤ zs.length) (ht : t ≠ -1) (h : decR t g zs p = (a, l, q, 0)) :
    chk t g a l = 0 ∧ p ≤ q ∧ q ≤ zs.length ∧ (zs.drop p.toNat).take (q - p).toNat = encB t a l := by
  have hl := lo_range t g
  have hh := hi_range t g
  have hrr := ruAt_range zs p hz
  have hsame := fun v q => read_same zs p v q hz
  have hlab := fun n p' acc l q => labs_same zs hz n p' acc l q
  unfold decR rsAt at h
  unfold encB
  by_cases t0 : t = 0
  · rw [if_pos t0] at h ⊢
    simp only [Prod.mk.injEq] at h
    obtain ⟨rfl, rfl, rfl, _⟩ := h
    refine ⟨chk_mk ht (by omega) (by omega) (fun h => by omega) (fun _ => rfl), Int.le_refl _, h1, by simp⟩
  rw [if_neg t0] at h ⊢
  cases hr : ruAt zs p with
  | mk u r =>
    obtain ⟨nx, x⟩ := r
    rw [hr] at h hrr hsame
    simp only at h hrr
    by_cases t3 : t = 3
    · rw [if_pos t3] at h
      rw [if_neg (by omega), if_pos t3]
      by_cases hx : x = 0
      · subst hx
        rw [if_neg (by simp)] at h
        by_cases hn : u < 1 ∨ 16 < u
        · rw [if_pos hn] at h; simp at h
        rw [if_neg hn] at h
        simp only [Prod.mk.injEq] at h
        obtain ⟨rfl, h⟩ := h
        obtain ⟨s1, s2, s3, s4, s5, s6⟩ := hsame u nx rfl
        obtain ⟨m, m1, m2, m3, m4, m5, m6⟩ := hlab u.toNat nx [] l q (by omega) (by omega) h
        simp only [List.nil_append] at m1
        subst m1
        have hu : (l.length : Int) = u := by omega
        refine ⟨chk_mk ht (by omega) (by omega) (fun _ => ⟨by omega, by omega, m3⟩) (fun h => absurd t3 h), by omega, m5, ?_⟩
        have e : (q - p).toNat = (nx - p).toNat + (q - nx).toNat := by omega
        rw [hu, e, List.take_add, s1, List.drop_drop]
        congr 1
        rw [show p.toNat + (nx - p).toNat = nx.toNat by omega]
        exact m6
      · rw [if_pos hx] at h
        simp only [Prod.mk.injEq] at h
        exact absurd h.2.2.2 hx
    rw [if_neg t3] at h
    by_cases t8 : t = 8
    · rw [if_pos t8] at h ⊢
      by_cases hx : x = 0
      · subst hx
        rw [if_neg (by simp)] at h
        by_cases hn : uf u < lo t g ∨ hi t g < uf u
        · rw [if_pos hn] at h; simp at h
        rw [if_neg hn] at h
        simp only [Prod.mk.injEq] at h
        obtain ⟨rfl, rfl, rfl, _⟩ := h
        obtain ⟨s1, s2, s3, s4, s5, s6⟩ := hsame u nx rfl
        rw [fo_uf u s2]
        exact ⟨chk_mk ht (by omega) (by omega) (fun h => by omega) (fun _ => rfl), by omega, s6, s1⟩
      · rw [if_pos hx] at h
        simp only [Prod.mk.injEq] at h
        exact absurd h.2.2.2 hx
    · rw [if_neg t8] at h
      rw [if_neg t8, if_neg t3]
      by_cases hx : x = 0
      · subst hx
        rw [if_neg (by simp)] at h
        by_cases hn : hi t g < u
        · rw [if_pos hn] at h; simp at h
        rw [if_neg hn] at h
        simp only [Prod.mk.injEq] at h
        obtain ⟨rfl, rfl, rfl, _⟩ := h
        obtain ⟨s1, s2, s3, s4, s5, s6⟩ := hsame u nx rfl
        have := hh.2.2 t8
        exact ⟨chk_mk ht (by omega) (by omega) (fun h => absurd h t3) (fun _ => rfl), by omega, s6, s1⟩
      · rw [if_pos hx] at h
        simp only [Prod.mk.injEq] at h
        exact absurd h.2.2.2 hx

/-- The place behind is zero where there is an error, and in the bytes where there is none. -/
theorem labs_err (zs : List Int) : ∀ (n : Nat) (p : Int) (acc : List Int), (labs zs n p acc).2.2 ≠ 0 → (labs zs n p acc).1 = [] ∧ (labs zs n p acc).2.1 = 0
  | 0, p, acc, h => by simp [labs] at h
  | n + 1, p, acc, h => by
    unfold labs at h ⊢
    by_cases h1 : (ruAt zs p).2.2 ≠ 0
    · rw [if_pos h1]; exact ⟨rfl, rfl⟩
    rw [if_neg h1] at h ⊢
    by_cases h2 : 2147483647 < (ruAt zs p).1
    · rw [if_pos h2]; exact ⟨rfl, rfl⟩
    rw [if_neg h2] at h ⊢
    exact labs_err zs n _ _ h
end Go.Proofs.YtgljlclnmnfocaaDoor
