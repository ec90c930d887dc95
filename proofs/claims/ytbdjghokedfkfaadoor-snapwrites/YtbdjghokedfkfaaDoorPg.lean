/-
  Plain facts: a state that was read without an error is written as the same bytes; a beginning of what was written is refused.
-/
import Derived.Test.YtbdjghokedfkfaaDoorPf
namespace Go.Proofs.YtbdjghokedfkfaaDoor
open Go.RowKit
set_option linter.unusedVariables false
set_option maxRecDepth 100000

/-- What is so of a state that was read. -/
structure OkP (p : StP) : Prop where
  en : 1 ≤ p.en ∧ p.en ≤ 3
  tr : 0 ≤ p.tr ∧ p.tr ≤ 6
  us : 0 ≤ p.us ∧ p.us ≤ 4611686018427387904
  rep : 0 ≤ p.rep ∧ p.rep ≤ 9223372036854775807
  rs : p.rs.length ≤ 8
  gs : p.gs.length ≤ 64
  rr : ∀ v ∈ p.rs, U64 v
  gr : ∀ v ∈ p.gs, U64 v
  ps : p.ps.length ≤ 64
  fs : p.fs.length ≤ 64
  fl : ∀ f ∈ p.fs, OkF f
def encSp (p : StP) : List Int := [p.en] ++ [p.tr] ++ uvar p.us ++ uvar p.rep ++ encL p.rs ++ encL p.gs ++ encPq p.ps ++ (uvar p.fs.length ++ p.fs.flatMap encFp)
theorem fs_got {zs : List Int} {p : Nat} (hz : ∀ z ∈ zs, 0 ≤ z ∧ z ≤ 255) (h : (fsR zs 64 (at0 p)).2.2 = 0) :
    (fsR zs 64 (at0 p)).1.length ≤ 64 ∧ (∀ f ∈ (fsR zs 64 (at0 p)).1, OkF f) ∧ Got zs p (uvar (fsR zs 64 (at0 p)).1.length ++ (fsR zs 64 (at0 p)).1.flatMap encFp) (fsR zs 64 (at0 p)).2 := by
  have h1 : (nmR zs 64 20 (at0 p)).2.2 = 0 := rl_err (fun _ h => fr_err h) _ _ h
  obtain ⟨a1, a2, a3, a4⟩ := nm_got hz (.inl (by decide)) h1
  have hl : ((fsR zs 64 (at0 p)).1.length : Int) = (nmR zs 64 20 (at0 p)).1 := by
    unfold fsR
    rw [rlR_len]
    omega
  have e : fsR zs 64 (at0 p) = rlR (frR zs) (nmR zs 64 20 (at0 p)).1.toNat (nmR zs 64 20 (at0 p)).2 := rfl
  have e2 := e
  rw [a4.st] at e2
  rw [e2] at h
  obtain ⟨b1, b2⟩ := rl_got (f := frR zs) (enc := encFp) (G := OkF) (fun _ h => fr_err h) (fun q hq hh => fr_got hz hh) _ a4.le _ h
  rw [← e2] at b1 b2
  refine ⟨by omega, b1, ?_⟩
  rw [hl]
  exact a4.app b2
theorem fs_err {zs : List Int} {st : RS} (h : (fsR zs 64 st).2.2 = 0) : st.2 = 0 := nm_err (rl_err (fun _ h => fr_err h) _ _ h)
theorem st_got {zs : List Int} {p : Nat} (hz : ∀ z ∈ zs, 0 ≤ z ∧ z ≤ 255) (hp : p ≤ zs.length) (h : (r8 zs (at0 p)).2.2 = 0) : OkP (stP zs (at0 p)) ∧ Got zs p (encSp (stP zs (at0 p))) (r8 zs (at0 p)).2 := by
  have h8 : (fsR zs 64 (r7 zs (at0 p)).2).2.2 = 0 := h
  have h7 : (pgsR zs (r6 zs (at0 p)).2).2.2 = 0 := fs_err h8
  have h6 : (lsR zs 64 (r5 zs (at0 p)).2).2.2 = 0 := pgs_err h7
  have h5 : (lsR zs 8 (r4 zs (at0 p)).2).2.2 = 0 := ls_err h6
  have h4 : (nmR zs 9223372036854775807 17 (r3 zs (at0 p)).2).2.2 = 0 := ls_err h5
  have h3 : (nmR zs 4611686018427387904 17 (r2 zs (at0 p)).2).2.2 = 0 := nm_err h4
  have h2 : (ocR zs 0 6 (r1 zs (at0 p)).2).2.2 = 0 := nm_err h3
  have h1 : (ocR zs 1 3 (at0 p)).2.2 = 0 := oc_err h2
  have e1 : r1 zs (at0 p) = ocR zs 1 3 (at0 p) := rfl
  have e2 : r2 zs (at0 p) = ocR zs 0 6 (r1 zs (at0 p)).2 := rfl
  have e3 : r3 zs (at0 p) = nmR zs 4611686018427387904 17 (r2 zs (at0 p)).2 := rfl
  have e4 : r4 zs (at0 p) = nmR zs 9223372036854775807 17 (r3 zs (at0 p)).2 := rfl
  have e5 : r5 zs (at0 p) = lsR zs 8 (r4 zs (at0 p)).2 := rfl
  have e6 : r6 zs (at0 p) = lsR zs 64 (r5 zs (at0 p)).2 := rfl
  have e7 : r7 zs (at0 p) = pgsR zs (r6 zs (at0 p)).2 := rfl
  have e8 : r8 zs (at0 p) = fsR zs 64 (r7 zs (at0 p)).2 := rfl
  unfold stP
  generalize r8 zs (at0 p) = x8 at *
  generalize r7 zs (at0 p) = x7 at *
  generalize r6 zs (at0 p) = x6 at *
  generalize r5 zs (at0 p) = x5 at *
  generalize r4 zs (at0 p) = x4 at *
  generalize r3 zs (at0 p) = x3 at *
  generalize r2 zs (at0 p) = x2 at *
  generalize r1 zs (at0 p) = x1 at *
  obtain ⟨a1, a2, a3⟩ := oc_got hp h1
  rw [← e1] at a1 a2 a3
  rw [a3.st] at h2 e2
  obtain ⟨b1, b2, b3⟩ := oc_got a3.le h2
  rw [← e2] at b1 b2 b3
  rw [b3.st] at h3 e3
  obtain ⟨c1, c2, _, c3⟩ := nm_got hz (.inl (by decide)) h3
  rw [← e3] at c1 c2 c3
  rw [c3.st] at h4 e4
  obtain ⟨d1, d2, _, d3⟩ := nm_got hz (.inl (by decide)) h4
  rw [← e4] at d1 d2 d3
  rw [d3.st] at h5 e5
  obtain ⟨f1, f2, f3⟩ := ls_got hz (by decide) h5
  rw [← e5] at f1 f2 f3
  rw [f3.st] at h6 e6
  obtain ⟨g1, g2, g3⟩ := ls_got hz (by decide) h6
  rw [← e6] at g1 g2 g3
  rw [g3.st] at h7 e7
  obtain ⟨i1, i3⟩ := pgs_got hz h7
  rw [← e7] at i1 i3
  rw [i3.st] at h8 e8
  obtain ⟨j1, j2, j3⟩ := fs_got hz h8
  rw [← e8] at j1 j2 j3
  refine ⟨⟨⟨a1, a2⟩, ⟨b1, b2⟩, ⟨c1, c2⟩, ⟨d1, d2⟩, by simp only; omega, by simp only; omega, f2, g2, i1, j1, j2⟩, ?_⟩
  have k2 := a3.app b3
  have k3 := k2.app (by rw [List.length_append, ← Nat.add_assoc]; exact c3)
  have k4 := k3.app (by simp only [List.length_append, ← Nat.add_assoc]; exact d3)
  have k5 := k4.app (by simp only [List.length_append, ← Nat.add_assoc]; exact f3)
  have k6 := k5.app (by simp only [List.length_append, ← Nat.add_assoc]; exact g3)
  have k7 := k6.app (by simp only [List.length_append, ← Nat.add_assoc]; exact i3)
  exact k7.app (by simp only [List.length_append, ← Nat.add_assoc]; exact j3)
theorem u64_id {v : Int} (h : U64 v) : u64 v = v := by
  obtain ⟨h1, h2⟩ := h
  simp only [u64, IntKind.wrap_u64]
  omega
theorem encF_p {x : FrM} (h : OkF (plF x)) : encF x = encFp (plF x) := by
  have h1 : u64 x.1 = x.1 := u64_id (show U64 (plF x).1 from ⟨h.f.1, by have := h.f.2; omega⟩)
  have h2 : u64 x.2.1 = x.2.1 := u64_id (show U64 (plF x).2.1 from ⟨h.p.1, by have := h.p.2; omega⟩)
  unfold encF encFp
  rw [h1, h2]
  rfl
theorem encS_p {x : StM} {p : StP} (e : plS x = p) (h : OkP p) : encS x = encSp p := by
  subst e
  have h1 : u64 x.us = x.us := u64_id (show U64 (plS x).us from ⟨h.us.1, by have := h.us.2; omega⟩)
  have h2 : u64 x.rep = x.rep := u64_id (show U64 (plS x).rep from ⟨h.rep.1, by have := h.rep.2; omega⟩)
  have h3 : x.fs.flatMap encF = (x.fs.map plF).flatMap encFp := by
    rw [List.flatMap_map]
    exact flat_congr (fun f hf => encF_p (h.fl _ (List.mem_map_of_mem hf)))
  unfold encS encSp encFs
  rw [h1, h2, h3, encP_Q]
  show _ = [x.en] ++ [x.tr] ++ uvar x.us ++ uvar x.rep ++ encL x.rs ++ encL x.gs ++ encPq (x.ps.map (fun p => p.2)) ++ (uvar (x.fs.map plF).length ++ (x.fs.map plF).flatMap encFp)
  unfold encPq
  rw [List.length_map, List.length_map]
theorem okS_p {x : StM} (h : OkP (plS x)) (hp : ∀ p ∈ x.ps, p.1.2.1 = 4096) : OkS x := by
  have h1 : u64 x.us = x.us := u64_id (show U64 (plS x).us from ⟨h.us.1, by have := h.us.2; omega⟩)
  have h2 : u64 x.rep = x.rep := u64_id (show U64 (plS x).rep from ⟨h.rep.1, by have := h.rep.2; omega⟩)
  refine ⟨h.en, h.tr, by rw [h1]; exact h.us.2, by rw [h2]; exact h.rep.2, h.rs, h.gs, by simpa [plS] using h.ps, hp, by simpa [plS] using h.fs, fun f hf => ?_⟩
  have hk := h.fl _ (List.mem_map_of_mem (f := plF) hf)
  have g1 : u64 f.1 = f.1 := u64_id (show U64 (plF f).1 from ⟨hk.f.1, by have := hk.f.2; omega⟩)
  have g2 : u64 f.2.1 = f.2.1 := u64_id (show U64 (plF f).2.1 from ⟨hk.p.1, by have := hk.p.2; omega⟩)
  exact ⟨by rw [g1]; exact hk.f.2, by rw [g2]; exact hk.p.2, hk.l, hk.s⟩
theorem rgS_p {x : StM} (h : OkP (plS x)) (hp : ∀ p ∈ x.ps, p.2.length = p.1.2.1) : RgS x := by
  refine ⟨⟨by have := h.us.1; have e : (plS x).us = x.us := rfl; omega, by have := h.us.2; have e : (plS x).us = x.us := rfl; omega⟩, ⟨by have := h.rep.1; have e : (plS x).rep = x.rep := rfl; omega, by have := h.rep.2; have e : (plS x).rep = x.rep := rfl; omega⟩, h.rr, h.gr, fun f hf => ?_, hp⟩
  have hk := h.fl _ (List.mem_map_of_mem (f := plF) hf)
  have e1 : (plF f).1 = f.1 := rfl
  have e2 : (plF f).2.1 = f.2.1 := rfl
  have := hk.f
  have := hk.p
  exact ⟨⟨hk.lr, hk.sr⟩, ⟨by omega, by omega⟩, ⟨by omega, by omega⟩⟩
/-- The other way: what may be written is. -/
theorem numW_do {v most : Int} (bs : List Int) (h : v ≤ most) : numW v most (bs, false) = (bs ++ uvar v, false) := by unfold numW askW; simp [h, putW]
theorem octW_do {v least most : Int} (bs : List Int) (h : least ≤ v ∧ v ≤ most) : octW v least most (bs, false) = (bs ++ [v], false) := by unfold octW askW; simp [h.1, h.2, putW]
theorem foldW_do {α : Type} {f : α → WS → WS} {enc : α → List Int} : ∀ (l : List α) (bs : List Int), (∀ x ∈ l, ∀ bs, f x (bs, false) = (bs ++ enc x, false)) → foldW f l (bs, false) = (bs ++ l.flatMap enc, false)
  | [], bs, _ => by simp [foldW]
  | x :: l, bs, h => by
    show foldW f l (f x (bs, false)) = _
    rw [h x (by simp), foldW_do l _ (fun y hy => h y (by simp [hy]))]
    simp
theorem listW_do {α : Type} {f : α → WS → WS} {enc : α → List Int} (l : List α) (most : Int) (bs : List Int) (hl : (l.length : Int) ≤ most) (h : ∀ x ∈ l, ∀ bs, f x (bs, false) = (bs ++ enc x, false)) : listW f l most (bs, false) = (bs ++ (uvar l.length ++ l.flatMap enc), false) := by
  unfold listW
  rw [numW_do bs hl, foldW_do l _ h, List.append_assoc]
theorem valW_do (l : List Int) (h : ∀ v ∈ l, 0 ≤ v ∧ v < 18446744073709551616) : ∀ x ∈ l, ∀ bs, valW x (bs, false) = (bs ++ uvar x, false) := fun x hx bs => numW_do bs (by have := (h x hx).2; omega)
theorem frW_do {x : FrM} (bs : List Int) (h : u64 x.1 ≤ 127 ∧ u64 x.2.1 ≤ 2047 ∧ x.2.2.1.2.length ≤ 64 ∧ x.2.2.2.2.length ≤ 256) (hr : FrR x) : frW x (bs, false) = (bs ++ encF x, false) := by
  unfold frW
  rw [numW_do bs h.1, numW_do _ h.2.1, listW_do (enc := uvar) _ 64 _ (by omega) (valW_do _ hr.1), listW_do (enc := uvar) _ 256 _ (by omega) (valW_do _ hr.2)]
  simp [encF, encL]
theorem foldA_do {ps : List PgM} (h : ∀ p ∈ ps, p.1.2.1 = 4096) (bs : List Int) : foldW pgA ps (bs, false) = (bs, false) := by
  have := foldW_do (f := pgA) (enc := fun _ => []) ps bs (fun x hx b => by unfold pgA askW; simp [h x hx])
  rw [this]
  simp
theorem pagesW_do {ps : List PgM} (hn : ps.length ≤ 64) (h : ∀ p ∈ ps, p.1.2.1 = 4096) (bs : List Int) : pagesW ps (bs, false) = (bs ++ encP ps, false) := by
  unfold pagesW
  rw [numW_do bs (by omega), foldA_do h, listW_do (enc := encK ps) (idx ps) _ _ (by have := idxTo_len ps ps.length; unfold idx; omega) (fun k hk b => by
    obtain ⟨i, y, rfl, hi, hy, _⟩ := idx_mem hk
    unfold pgK
    rw [numW_do b (by omega)]
    simp [putW, encK])]
  simp [encP]
theorem wr_of {x : StM} (h : OkS x) (hr : RgS x) : wrV x = (mgc ++ encS x, false) := by
  unfold wrV stW
  rw [octW_do _ h.en, octW_do _ h.tr, numW_do _ h.us, numW_do _ h.rep, listW_do (enc := uvar) _ 8 _ (by have := h.rs; omega) (valW_do _ hr.rs), listW_do (enc := uvar) _ 64 _ (by have := h.gs; omega) (valW_do _ hr.gs), pagesW_do h.ps h.pl, listW_do (enc := encF) _ 64 _ (by have := h.fs; omega) (fun f hf b => frW_do b (h.fl f hf) (hr.fs f hf).1)]
  simp [encS, encL, encFs]
/-- A state with no place in memory. -/
def canS (p : StP) : StM := mkS p 0 0 0 (List.replicate p.ps.length 0) 0 (p.fs.map (fun f => frN f 0 0))
theorem zip_snd : ∀ (bl : List Nat) (ps : List (List Int)), bl.length = ps.length → (List.zipWith (fun b l => (((some ⟨b, 0, none⟩, 4096, 4096), l) : PgM)) bl ps).map (fun p => p.2) = ps
  | [], [], _ => rfl
  | b :: bl, l :: ps, h => by
    rw [List.zipWith_cons_cons, List.map_cons, zip_snd bl ps (by simpa using h)]
  | [], l :: ps, h => by simp at h
  | b :: bl, [], h => by simp at h
theorem mkS_pl {p : StP} {B5 B6 B7 : Nat} {bl : List Nat} {B8 : Nat} {ys : List FrM} (h1 : bl.length = p.ps.length) (h2 : ys.map plF = p.fs) : plS (mkS p B5 B6 B7 bl B8 ys) = p := by
  unfold plS
  show (⟨p.en, p.tr, p.us, p.rep, p.rs, p.gs, (List.zipWith (fun b l => (((some ⟨b, 0, none⟩, 4096, 4096), l) : PgM)) bl p.ps).map (fun p => p.2), ys.map plF⟩ : StP) = p
  rw [zip_snd bl p.ps h1, h2]
theorem canS_pl (p : StP) : plS (canS p) = p := mkS_pl (by simp) (by
  rw [List.map_map]
  have : (plF ∘ fun f : FrP => frN f 0 0) = id := by funext f; rfl
  rw [this, List.map_id])
theorem mkS_4 {p : StP} {B5 B6 B7 : Nat} {bl : List Nat} {B8 : Nat} {ys : List FrM} : ∀ x ∈ (mkS p B5 B6 B7 bl B8 ys).ps, x.1.2.1 = 4096 ∧ x.2 ∈ p.ps := fun x hx => by
  obtain ⟨j, hj⟩ := List.getElem?_of_mem hx
  obtain ⟨b, l, hb, hl, rfl⟩ := zip_get bl p.ps j x hj
  exact ⟨rfl, List.mem_of_getElem? hl⟩
theorem pgs_all (zs : List Int) (st : RS) : ∀ l ∈ (pgsR zs st).1, l.length = 4096 := fun l hl => pgI_all zs _ _ (fun q hq => by
  rw [List.eq_of_mem_replicate hq]; exact Zp_len) _ l hl
theorem pgL_rng {zs : List Int} {p : Nat} (hz : ∀ z ∈ zs, 0 ≤ z ∧ z ≤ 255) : ∀ z ∈ pgL zs p, 0 ≤ z ∧ z ≤ 255 := fun z h => by
  unfold pgL pgT at h
  rcases List.mem_append.1 h with h | h
  · exact hz z (List.mem_of_mem_drop (List.mem_of_mem_take h))
  · have := List.eq_of_mem_replicate (List.mem_of_mem_drop h)
    omega
theorem pgI_by {zs : List Int} (hz : ∀ z ∈ zs, 0 ≤ z ∧ z ≤ 255) (n : Int) (x : List (List Int) × Int × RS) (h : ∀ l ∈ x.1, ∀ z ∈ l, 0 ≤ z ∧ z ≤ 255) : ∀ k, ∀ l ∈ (pgI zs n k x).1, ∀ z ∈ l, 0 ≤ z ∧ z ≤ 255
  | 0 => h
  | k + 1 => fun l hl => by
    have hl' : l ∈ (pgI zs n k x).1.set (pnR zs (pgI zs n k x).2.1 n (pgI zs n k x).2.2).1.toNat (pgL zs (pnR zs (pgI zs n k x).2.1 n (pgI zs n k x).2.2).2.1.toNat) := hl
    rcases List.mem_or_eq_of_mem_set hl' with h1 | h1
    · exact pgI_by hz n x h k l h1
    · rw [h1]; exact pgL_rng hz
theorem pgs_rng {zs : List Int} (hz : ∀ z ∈ zs, 0 ≤ z ∧ z ≤ 255) (st : RS) : ∀ l ∈ (pgsR zs st).1, ∀ z ∈ l, 0 ≤ z ∧ z ≤ 255 := fun l hl => pgI_by hz _ _ (fun q hq z hzz => by
  rw [List.eq_of_mem_replicate hq] at hzz
  have := List.eq_of_mem_replicate hzz
  omega) _ l hl
theorem szP_of {zs : List Int} {p : Nat} (hz : ∀ z ∈ zs, 0 ≤ z ∧ z ≤ 255) (h : OkP (stP zs (at0 p))) : SzP (stP zs (at0 p)) :=
  ⟨h.rs, h.gs, h.ps, fun l hl => ⟨pgs_all zs _ l hl, pgs_rng hz _ l hl⟩, h.fs, fun f hf => ⟨(h.fl f hf).l, (h.fl f hf).s⟩⟩
/-- What is read without an error is what is written of it. -/
theorem rd_same {zs : List Int} (hz : ∀ z ∈ zs, 0 ≤ z ∧ z ≤ 255) (h : (rdE zs).1 = 0) : OkP (stP zs (5, 0)) ∧ SzP (stP zs (5, 0)) ∧ zs = mgc ++ encSp (stP zs (5, 0)) := by
  unfold rdE at h
  by_cases h1 : 524288 < zs.length
  · rw [if_pos h1] at h; cases h
  rw [if_neg h1] at h
  by_cases h2 : pfx zs = false
  · rw [if_pos h2] at h; cases h
  rw [if_neg h2] at h
  have h3 : (fnR zs (r8 zs (5, 0)).2).2 = 0 := h
  have hp : zs.take 5 = mgc := by
    have : pfx zs = true := by simpa using h2
    exact of_decide_eq_true this
  have hl : 5 ≤ zs.length := by
    have := congrArg List.length hp
    rw [List.length_take] at this
    have e : mgc.length = 5 := rfl
    omega
  have h4 : (r8 zs (5, 0)).2.2 = 0 ∧ (zs.length : Int) ≤ (r8 zs (5, 0)).2.1 := by
    unfold fnR at h3
    by_cases h5 : (r8 zs (5, 0)).2.1 < zs.length
    · rw [if_pos h5] at h3
      have := (tkR_err h3).2.1
      omega
    · rw [if_neg h5] at h3
      exact ⟨h3, by omega⟩
  obtain ⟨g1, g2⟩ := st_got (p := 5) hz hl h4.1
  refine ⟨g1, szP_of (p := 5) hz g1, ?_⟩
  have e5 : (at0 5 : RS) = (5, 0) := rfl
  have h6 : (zs.length : Int) ≤ (r8 zs (at0 5)).2.1 := h4.2
  rw [g2.st] at h6
  have h7 : 5 + (encSp (stP zs (at0 5))).length = zs.length := by
    have a := g2.le
    have b : (zs.length : Int) ≤ ((5 + (encSp (stP zs (at0 5))).length : Nat) : Int) := h6
    omega
  have h8 := g2.eq
  rw [h7, List.drop_eq_nil_of_le (Nat.le_refl _), List.append_nil] at h8
  rw [← hp]
  show zs = List.take 5 zs ++ encSp (stP zs (at0 5))
  rw [← h8]
  exact (List.take_append_drop 5 zs).symm
theorem can_ok {p : StP} (h : OkP p) (hs : SzP p) : OkS (canS p) ∧ RgS (canS p) ∧ encS (canS p) = encSp p := by
  have e := canS_pl p
  refine ⟨okS_p (by rw [e]; exact h) (fun x hx => (mkS_4 x hx).1), rgS_p (by rw [e]; exact h) (fun x hx => ?_), encS_p e h⟩
  have := mkS_4 x hx
  rw [this.1]
  exact (hs.pl _ this.2).1
/-- Read, then written: the same bytes. -/
theorem back_same {zs : List Int} (hz : ∀ z ∈ zs, 0 ≤ z ∧ z ≤ 255) (h : (rdE zs).1 = 0) {x : StM} (hx : plS x = stP zs (5, 0)) (h4 : ∀ p ∈ x.ps, p.1.2.1 = 4096 ∧ p.2.length = 4096) : wrV x = (zs, false) := by
  obtain ⟨g1, g2, g3⟩ := rd_same hz h
  have hr : RgS x := rgS_p (by rw [hx]; exact g1) (fun p hp => by rw [(h4 p hp).1, (h4 p hp).2])
  rw [wr_of (okS_p (by rw [hx]; exact g1) (fun p hp => (h4 p hp).1)) hr, encS_p hx g1, ← g3]
/-- A beginning of what was written is refused. -/
theorem cut_no {s : StM} (hs : (wrV s).2 = false) (rs : RgS s) (hz : ∀ z ∈ (wrV s).1, 0 ≤ z ∧ z ≤ 255) (n : Nat) (hn : n < (wrV s).1.length) : (rdE ((wrV s).1.take n)).1 ≠ 0 := by
  intro h
  obtain ⟨g1, g2, g3⟩ := rd_same (fun z hh => hz z (List.mem_of_mem_take hh)) h
  obtain ⟨k1, k2, k3⟩ := can_ok g1 g2
  rw [← k3] at g3
  have a := stW_is hs
  have e1 : (wrV s).1 = mgc ++ encS s ++ [] := by show (stW s (mgc, false)).1 = _; rw [a.2]; simp
  have b1 := (st_back mgc [] s a.1 rs).2
  rw [← e1] at b1
  have e2 : (wrV s).1 = mgc ++ encS (canS (stP ((wrV s).1.take n) (5, 0))) ++ (wrV s).1.drop n := by
    rw [← g3]
    exact (List.take_append_drop n _).symm
  have b2 := (st_back mgc ((wrV s).1.drop n) (canS (stP ((wrV s).1.take n) (5, 0))) k1 k2).2
  rw [← e2] at b2
  have e3 := b1.symm.trans b2
  have e4 : mgc.length + (encS s).length = mgc.length + (encS (canS (stP ((wrV s).1.take n) (5, 0)))).length := by
    have := congrArg (fun x : RS => x.1) e3
    have q : ((mgc.length + (encS s).length : Nat) : Int) = ((mgc.length + (encS (canS (stP ((wrV s).1.take n) (5, 0)))).length : Nat) : Int) := this
    omega
  have l1 : (wrV s).1.length = mgc.length + (encS s).length := by rw [e1]; simp
  have l2 : ((wrV s).1.take n).length = mgc.length + (encS (canS (stP ((wrV s).1.take n) (5, 0)))).length := by
    conv => lhs; rw [g3]
    simp
  rw [List.length_take] at l2
  omega
end Go.Proofs.YtbdjghokedfkfaaDoor
