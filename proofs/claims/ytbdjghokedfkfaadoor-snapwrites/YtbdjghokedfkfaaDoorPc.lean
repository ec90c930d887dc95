/-
  Plain facts: a state that was written is read as itself.
-/
import Derived.Test.YtbdjghokedfkfaaDoorPb
namespace Go.Proofs.YtbdjghokedfkfaaDoor
open Go.RowKit
set_option linter.unusedVariables false
set_option maxRecDepth 100000

def i64R (v : Int) : Prop := -9223372036854775808 ≤ v ∧ v < 9223372036854775808
theorem foldW_fr : ∀ {l : List FrM} {bs : List Int}, (foldW frW l (bs, false)).2 = false → (∀ x ∈ l, u64 x.1 ≤ 127 ∧ u64 x.2.1 ≤ 2047 ∧ x.2.2.1.2.length ≤ 64 ∧ x.2.2.2.2.length ≤ 256) ∧ foldW frW l (bs, false) = (bs ++ l.flatMap encF, false)
  | [], bs, _ => ⟨fun k hk => (by cases hk), by simp [foldW]⟩
  | x :: l, bs, h => by
    have h1 : (foldW frW l (frW x (bs, false))).2 = false := h
    have h2 := frW_is (foldW_ok frW_bad h1)
    rw [h2.2.2.2.2] at h1
    have ih := foldW_fr h1
    refine ⟨fun q hq => ?_, ?_⟩
    · rcases List.mem_cons.1 hq with rfl | hq
      · exact ⟨h2.1, h2.2.1, h2.2.2.1, h2.2.2.2.1⟩
      · exact ih.1 q hq
    · show foldW frW l (frW x (bs, false)) = _
      rw [h2.2.2.2.2, ih.2]
      simp
def encFs (l : List FrM) : List Int := uvar l.length ++ l.flatMap encF
def encS (x : StM) : List Int := [x.en] ++ [x.tr] ++ uvar (u64 x.us) ++ uvar (u64 x.rep) ++ encL x.rs ++ encL x.gs ++ encP x.ps ++ encFs x.fs
/-- What was asked of a state that is written. -/
structure OkS (x : StM) : Prop where
  en : 1 ≤ x.en ∧ x.en ≤ 3
  tr : 0 ≤ x.tr ∧ x.tr ≤ 6
  us : u64 x.us ≤ 4611686018427387904
  rep : u64 x.rep ≤ 9223372036854775807
  rs : x.rs.length ≤ 8
  gs : x.gs.length ≤ 64
  ps : x.ps.length ≤ 64
  pl : ∀ p ∈ x.ps, p.1.2.1 = 4096
  fs : x.fs.length ≤ 64
  fl : ∀ f ∈ x.fs, u64 f.1 ≤ 127 ∧ u64 f.2.1 ≤ 2047 ∧ f.2.2.1.2.length ≤ 64 ∧ f.2.2.2.2.length ≤ 256
theorem stW_is {x : StM} {bs : List Int} (h : (stW x (bs, false)).2 = false) : OkS x ∧ stW x (bs, false) = (bs ++ encS x, false) := by
  unfold stW at h ⊢
  have k1 : ∀ {s : WS}, (listW frW x.fs 64 s).2 = false → s.2 = false := fun {s} hh => by
    cases hb : s.2 with
    | false => rfl
    | true => rw [listW_bad frW_bad _ _ _ hb, hb] at hh; cases hh
  have k2 : ∀ {s : WS}, (pagesW x.ps s).2 = false → s.2 = false := fun {s} hh => by
    cases hb : s.2 with
    | false => rfl
    | true => rw [pagesW_bad _ _ hb, hb] at hh; cases hh
  have k3 : ∀ {l : List Int} {m : Int} {s : WS}, (listW valW l m s).2 = false → s.2 = false := fun {l m s} hh => by
    cases hb : s.2 with
    | false => rfl
    | true => rw [listW_bad valW_bad _ _ _ hb, hb] at hh; cases hh
  have k4 : ∀ {v m : Int} {s : WS}, (numW v m s).2 = false → s.2 = false := fun {v m s} hh => (numW_ok hh).2
  have k5 : ∀ {v l m : Int} {s : WS}, (octW v l m s).2 = false → s.2 = false := fun {v l m s} hh => by
    cases hb : s.2 with
    | false => rfl
    | true => rw [octW_bad _ _ _ _ hb, hb] at hh; cases hh
  have g7 := k1 h
  have g6 := k2 g7
  have g5 := k3 g6
  have g4 := k3 g5
  have g3 := k4 g4
  have g2 := k4 g3
  have g1 := k5 g2
  have a1 := octW_is g1
  rw [a1.2.2] at g2 g3 g4 g5 g6 g7 h ⊢
  have a2 := octW_is g2
  rw [a2.2.2] at g3 g4 g5 g6 g7 h ⊢
  have a3 := numW_is g3
  rw [a3.2] at g4 g5 g6 g7 h ⊢
  have a4 := numW_is g4
  rw [a4.2] at g5 g6 g7 h ⊢
  have a5 := listW_num g5
  rw [a5.2] at g6 g7 h ⊢
  have a6 := listW_num g6
  rw [a6.2] at g7 h ⊢
  have a7 := pagesW_is g7
  rw [a7.2.2] at h ⊢
  unfold listW at h ⊢
  have a8 := numW_is (foldW_ok frW_bad h)
  rw [a8.2] at h ⊢
  have a9 := foldW_fr h
  refine ⟨⟨⟨a1.1, a1.2.1⟩, ⟨a2.1, a2.2.1⟩, a3.1, a4.1, by have := a5.1; omega, by have := a6.1; omega, a7.1, a7.2.1, by have := a8.1; omega, a9.1⟩, ?_⟩
  rw [a9.2]
  simp [encS, encFs]
/-- What a state's numbers are. -/
structure RgS (x : StM) : Prop where
  us : i64R x.us
  rep : i64R x.rep
  rs : ∀ v ∈ x.rs, 0 ≤ v ∧ v < 18446744073709551616
  gs : ∀ v ∈ x.gs, 0 ≤ v ∧ v < 18446744073709551616
  fs : ∀ f ∈ x.fs, FrR f ∧ i64R f.1 ∧ i64R f.2.1
  pl : ∀ p ∈ x.ps, p.2.length = p.1.2.1
def plS (x : StM) : StP := ⟨x.en, x.tr, x.us, x.rep, x.rs, x.gs, x.ps.map (fun p => p.2), x.fs.map plF⟩
theorem st_back (A R : List Int) (x : StM) (ho : OkS x) (hr : RgS x) : stP (A ++ encS x ++ R) (at0 A.length) = plS x ∧ (r8 (A ++ encS x ++ R) (at0 A.length)).2 = at0 (A.length + (encS x).length) := by
  obtain ⟨Z, hZ⟩ : ∃ Z, A ++ encS x ++ R = Z := ⟨_, rfl⟩
  have w1 : Z = A ++ [x.en] ++ ([x.tr] ++ uvar (u64 x.us) ++ uvar (u64 x.rep) ++ encL x.rs ++ encL x.gs ++ encP x.ps ++ encFs x.fs ++ R) := by rw [← hZ]; simp [encS]
  have w2 : Z = (A ++ [x.en]) ++ [x.tr] ++ (uvar (u64 x.us) ++ uvar (u64 x.rep) ++ encL x.rs ++ encL x.gs ++ encP x.ps ++ encFs x.fs ++ R) := by rw [← hZ]; simp [encS]
  have w3 : Z = (A ++ [x.en] ++ [x.tr]) ++ uvar (u64 x.us) ++ (uvar (u64 x.rep) ++ encL x.rs ++ encL x.gs ++ encP x.ps ++ encFs x.fs ++ R) := by rw [← hZ]; simp [encS]
  have w4 : Z = (A ++ [x.en] ++ [x.tr] ++ uvar (u64 x.us)) ++ uvar (u64 x.rep) ++ (encL x.rs ++ encL x.gs ++ encP x.ps ++ encFs x.fs ++ R) := by rw [← hZ]; simp [encS]
  have w5 : Z = (A ++ [x.en] ++ [x.tr] ++ uvar (u64 x.us) ++ uvar (u64 x.rep)) ++ encL x.rs ++ (encL x.gs ++ encP x.ps ++ encFs x.fs ++ R) := by rw [← hZ]; simp [encS]
  have w6 : Z = (A ++ [x.en] ++ [x.tr] ++ uvar (u64 x.us) ++ uvar (u64 x.rep) ++ encL x.rs) ++ encL x.gs ++ (encP x.ps ++ encFs x.fs ++ R) := by rw [← hZ]; simp [encS]
  have w7 : Z = (A ++ [x.en] ++ [x.tr] ++ uvar (u64 x.us) ++ uvar (u64 x.rep) ++ encL x.rs ++ encL x.gs) ++ encP x.ps ++ (encFs x.fs ++ R) := by rw [← hZ]; simp [encS]
  have w8 : Z = (A ++ [x.en] ++ [x.tr] ++ uvar (u64 x.us) ++ uvar (u64 x.rep) ++ encL x.rs ++ encL x.gs ++ encP x.ps) ++ uvar x.fs.length ++ (x.fs.flatMap encF ++ R) := by rw [← hZ]; simp [encS, encFs]
  have w9 : Z = (A ++ [x.en] ++ [x.tr] ++ uvar (u64 x.us) ++ uvar (u64 x.rep) ++ encL x.rs ++ encL x.gs ++ encP x.ps ++ uvar x.fs.length) ++ x.fs.flatMap encF ++ R := by rw [← hZ]; simp [encS, encFs]
  have b1 := oc_back A ([x.tr] ++ uvar (u64 x.us) ++ uvar (u64 x.rep) ++ encL x.rs ++ encL x.gs ++ encP x.ps ++ encFs x.fs ++ R) x.en 1 3 ho.en
  have b2 := oc_back (A ++ [x.en]) (uvar (u64 x.us) ++ uvar (u64 x.rep) ++ encL x.rs ++ encL x.gs ++ encP x.ps ++ encFs x.fs ++ R) x.tr 0 6 ho.tr
  have b3 := nm_back (A ++ [x.en] ++ [x.tr]) (uvar (u64 x.rep) ++ encL x.rs ++ encL x.gs ++ encP x.ps ++ encFs x.fs ++ R) (u64 x.us) 4611686018427387904 17 (u64_rng _).1 (u64_rng _).2 ho.us
  have b4 := nm_back (A ++ [x.en] ++ [x.tr] ++ uvar (u64 x.us)) (encL x.rs ++ encL x.gs ++ encP x.ps ++ encFs x.fs ++ R) (u64 x.rep) 9223372036854775807 17 (u64_rng _).1 (u64_rng _).2 ho.rep
  have b5 := ls_back (A ++ [x.en] ++ [x.tr] ++ uvar (u64 x.us) ++ uvar (u64 x.rep)) (encL x.gs ++ encP x.ps ++ encFs x.fs ++ R) x.rs 8 (by have := ho.rs; omega) (by have := ho.rs; omega) hr.rs
  have b6 := ls_back (A ++ [x.en] ++ [x.tr] ++ uvar (u64 x.us) ++ uvar (u64 x.rep) ++ encL x.rs) (encP x.ps ++ encFs x.fs ++ R) x.gs 64 (by have := ho.gs; omega) (by have := ho.gs; omega) hr.gs
  have b7 := pgs_back x.ps (fun p hp => by rw [hr.pl p hp, ho.pl p hp]) ho.ps (A ++ [x.en] ++ [x.tr] ++ uvar (u64 x.us) ++ uvar (u64 x.rep) ++ encL x.rs ++ encL x.gs) (encFs x.fs ++ R)
  have b8 := nm_back (A ++ [x.en] ++ [x.tr] ++ uvar (u64 x.us) ++ uvar (u64 x.rep) ++ encL x.rs ++ encL x.gs ++ encP x.ps) (x.fs.flatMap encF ++ R) x.fs.length 64 20 (by omega) (by have := ho.fs; omega) (by have := ho.fs; omega)
  rw [← w1] at b1
  rw [← w2] at b2
  rw [← w3] at b3
  rw [← w4] at b4
  rw [← w5] at b5
  rw [← w6] at b6
  rw [← w7] at b7
  rw [← w8] at b8
  have b9 := rl_back (frR Z) encF plF Z x.fs _ R w9 (fun f hf A' R' hh => by
    rw [hh]
    have h1 := ho.fl f hf
    have h2 := hr.fs f hf
    exact fr_back A' R' f h1.1 h1.2.1 h1.2.2.1 h1.2.2.2 h2.1 h2.2.1 h2.2.2) x.fs.length (Nat.le_refl _)
  rw [List.take_of_length_le (Nat.le_refl _)] at b9
  simp only [List.length_append, List.length_singleton] at b2 b3 b4 b5 b6 b7 b8 b9
  have u1 := (u64_small hr.us (by decide) ho.us).1
  have u2 := (u64_small hr.rep (by decide) ho.rep).1
  rw [hZ]
  have e1 : r1 Z (at0 A.length) = (x.en, at0 (A.length + 1)) := b1
  have e2 : r2 Z (at0 A.length) = ocR Z 0 6 (r1 Z (at0 A.length)).2 := rfl
  rw [e1] at e2
  simp only at e2
  rw [b2] at e2
  have e3 : r3 Z (at0 A.length) = nmR Z 4611686018427387904 17 (r2 Z (at0 A.length)).2 := rfl
  rw [e2] at e3
  simp only at e3
  rw [b3] at e3
  have e4 : r4 Z (at0 A.length) = nmR Z 9223372036854775807 17 (r3 Z (at0 A.length)).2 := rfl
  rw [e3] at e4
  simp only at e4
  rw [b4] at e4
  have e5 : r5 Z (at0 A.length) = lsR Z 8 (r4 Z (at0 A.length)).2 := rfl
  rw [e4] at e5
  simp only at e5
  rw [b5] at e5
  have e6 : r6 Z (at0 A.length) = lsR Z 64 (r5 Z (at0 A.length)).2 := rfl
  rw [e5] at e6
  simp only at e6
  rw [b6] at e6
  have e7 : r7 Z (at0 A.length) = pgsR Z (r6 Z (at0 A.length)).2 := rfl
  rw [e6] at e7
  simp only at e7
  rw [b7] at e7
  have e8 : r8 Z (at0 A.length) = rlR (frR Z) (nmR Z 64 20 (r7 Z (at0 A.length)).2).1.toNat (nmR Z 64 20 (r7 Z (at0 A.length)).2).2 := rfl
  rw [e7] at e8
  simp only at e8
  rw [b8] at e8
  simp only [Int.toNat_natCast] at e8
  rw [b9] at e8
  refine ⟨?_, ?_⟩
  · unfold stP plS
    rw [e1, e2, e3, e4, e5, e6, e7, e8]
    simp only
    rw [u1, u2]
  · rw [e8]
    show at0 _ = at0 _
    congr 1
    simp only [encS, encFs, List.length_append, List.length_singleton]
    omega
end Go.Proofs.YtbdjghokedfkfaaDoor
