/-
  A bag of lists of bytes: what it holds, its adds, Apart.
-/
import Derived.Test.YtbdjghokedfkfaaDoorGa
namespace Go.Proofs.YtbdjghokedfkfaaDoor
open Go.RowKit
set_option linter.unusedVariables false
set_option maxRecDepth 100000

/-- A list that was told: its block, how long, its room. -/
structure Tl where
  b : Option Nat
  n : Nat
  c : Nat
def dT : Tl := ⟨none, 0, 0⟩
def Tl.ad (p : Tl) : Option Addr := p.b.map fun B => ⟨B, 0, none⟩
def Tl.v (p : Tl) : Value := .slice p.ad p.n p.c
/-- It is nil, or lies in memory of its own, not below lo. -/
def Tl.ok (e : TypeId) (lo : Nat) (w : World) (p : Tl) : Prop :=
  (∃ B, p.b = some B ∧ lo ≤ B ∧ ∃ xs, Row w e B p.n p.c xs) ∨ (p.b = none ∧ p.n = 0 ∧ p.c = 0)
/-- The lists of one kind. -/
structure Kd (e es : TypeId) (lo : Nat) (w : World) (v : Value) (l : List Tl) : Prop where
  own : w.ownsRow 0 es 1 v l.length (l.map Tl.v)
  new : ∀ B, v.ownBlock = some B → lo ≤ B
  ok : ∀ p ∈ l, p.ok e lo w
  inj : l.Pairwise fun p q => ∀ B, p.b = some B → q.b ≠ some B
  len : ∀ p ∈ l, p.n ≤ 4194304
/-- Their blocks. -/
def Kf (v : Value) (l : List Tl) (k : Nat) : Prop := v.ownBlock = some k ∨ ∃ p ∈ l, p.b = some k

section
variable {e es : TypeId} {lo : Nat} {w w' : World} {v : Value} {l : List Tl}
theorem Tl.ok.kept {S : Nat → Prop} {p : Tl} (h : p.ok e lo w) (hk : Kept S w w') (hs : ∀ k, p.b = some k → ¬ S k) : p.ok e lo w' := by
  rcases h with ⟨B, h1, h2, xs, h3⟩ | h
  · exact .inl ⟨B, h1, h2, xs, h3.kept hk (hs B h1)⟩
  · exact .inr h
theorem Kd.kept {S : Nat → Prop} (h : Kd e es lo w v l) (hk : Kept S w w') (hs : ∀ k, Kf v l k → ¬ S k) : Kd e es lo w' v l :=
  ⟨own_keep h.own (fun B hB => hk.block B (own_lt h.own hB).1 (hs B (.inl hB))), h.new, fun p hp => (h.ok p hp).kept hk (fun k hk => hs k (.inr ⟨p, hp, hk⟩)), h.inj, h.len⟩
theorem Kd.ty (h : Kd e es lo w v l) {k : Nat} (hk : Kf v l k) : ∃ cur t, w.heap[k]? = some (.cells cur t) ∧ (t = e ∨ t = es) ∧ lo ≤ k := by
  rcases hk with hk | ⟨p, hp, hk⟩
  · obtain ⟨_, cur, hc⟩ := own_lt h.own hk
    exact ⟨cur, es, hc, .inr rfl, h.new k hk⟩
  · rcases h.ok p hp with ⟨B, h1, h2, xs, h3⟩ | ⟨h1, _⟩
    · rw [hk] at h1
      obtain rfl := Option.some.inj h1
      obtain ⟨cur, hc, _⟩ := h3.block
      exact ⟨cur, e, hc, .inl rfl, h2⟩
    · rw [h1] at hk; cases hk
theorem Kd.lt (h : Kd e es lo w v l) {k : Nat} (hk : Kf v l k) : k < w.heap.size := by
  obtain ⟨cur, t, hc, _⟩ := h.ty hk
  exact nb_lt hc
theorem Kd.not {e' es' : TypeId} {v' : Value} {l' : List Tl} (h : Kd e es lo w v l) (h' : Kd e' es' lo w v' l') (h1 : e ≠ e' ∧ e ≠ es' ∧ es ≠ e' ∧ es ≠ es') {k : Nat} (hk : Kf v l k) : ¬ Kf v' l' k := by
  intro hk'
  obtain ⟨c1, t1, a1, b1, _⟩ := h.ty hk
  obtain ⟨c2, t2, a2, b2, _⟩ := h'.ty hk'
  rw [a1] at a2
  simp at a2
  obtain ⟨_, rfl⟩ := a2
  rcases b1 with rfl | rfl <;> rcases b2 with rfl | rfl
  · exact h1.1 rfl
  · exact h1.2.1 rfl
  · exact h1.2.2.1 rfl
  · exact h1.2.2.2 rfl
theorem Kd.nil (e es : TypeId) (lo : Nat) (w : World) : Kd e es lo w (.slice none 0 0) [] :=
  ⟨World.ownsRow_nil _ _ _ _, fun B hB => by simp [Value.ownBlock] at hB, fun p hp => by simp at hp, List.Pairwise.nil, fun p hp => by simp at hp⟩
/-- As the walks over a kind want it. -/
def ltA (l : List Tl) (j : Nat) : Option Addr := (l.getD j dT).ad
def ltN (l : List Tl) (j : Nat) : Prop := (l.getD j dT).b ≠ none
def ltG (l : List Tl) (j : Nat) : Nat := ((l.getD j dT).b).getD 0
def ltL (l : List Tl) (j : Nat) : Nat := (l.getD j dT).n
def ltC (l : List Tl) (j : Nat) : Nat := (l.getD j dT).c
theorem lt_mem {j : Nat} (hj : j < l.length) : l.getD j dT ∈ l ∧ l[j]? = some (l.getD j dT) := by
  have : l[j]? = some (l.getD j dT) := by rw [List.getD_eq_getElem?_getD, List.getElem?_eq_getElem hj]; rfl
  exact ⟨List.mem_of_getElem? this, this⟩
theorem lt_G {j B : Nat} (h : (l.getD j dT).b = some B) : ltG l j = B := by unfold ltG; rw [h]; rfl
theorem Kd.lists (h : Kd e es lo w v l) : ∀ j, j < l.length → (ltN l j ∧ ltA l j = some ⟨ltG l j, 0, none⟩ ∧ ∃ xs, Row w e (ltG l j) (ltL l j) (ltC l j) xs) ∨ (¬ ltN l j ∧ ltA l j = none ∧ ltL l j = 0 ∧ ltC l j = 0) := by
  intro j hj
  rcases h.ok _ (lt_mem hj).1 with ⟨B, h1, h2, xs, h3⟩ | ⟨h1, h2, h3⟩
  · refine .inl ⟨by unfold ltN; rw [h1]; simp, by rw [lt_G h1]; unfold ltA Tl.ad; rw [h1]; rfl, xs, by rw [lt_G h1]; exact h3⟩
  · exact .inr ⟨by unfold ltN; rw [h1]; simp, by unfold ltA Tl.ad; rw [h1]; rfl, h2, h3⟩
theorem lt_some {j : Nat} (h : ltN l j) : (l.getD j dT).b = some (ltG l j) := by
  unfold ltN at h
  unfold ltG
  cases hb : (l.getD j dT).b with
  | none => exact absurd hb h
  | some B => rfl
theorem Kd.injN (h : Kd e es lo w v l) : ∀ a b, a < l.length → b < l.length → ltN l a → ltN l b → ltG l a = ltG l b → a = b := by
  intro a b ha hb hna hnb hg
  have h1 := lt_some hna
  have h2 := lt_some hnb
  rw [List.getD_eq_getElem?_getD, List.getElem?_eq_getElem ha] at h1
  rw [List.getD_eq_getElem?_getD, List.getElem?_eq_getElem hb] at h2
  have hp := List.pairwise_iff_getElem.1 h.inj
  rcases Nat.lt_trichotomy a b with hab | hab | hab
  · exact absurd (hg ▸ h2) (hp a b ha hb hab _ h1)
  · exact hab
  · exact absurd h1 (hp b a hb ha hab _ (hg ▸ h2))
theorem Kd.kf (h : Kd e es lo w v l) {j : Nat} (hj : j < l.length) (hn : ltN l j) : Kf v l (ltG l j) := .inr ⟨_, (lt_mem hj).1, lt_some hn⟩
theorem Kd.lenL (h : Kd e es lo w v l) : ∀ j, j < l.length → ltL l j ≤ 4194304 := fun j hj => by
  have := h.len _ (lt_mem hj).1
  unfold ltL; omega
/-- Its lists' own row. -/
theorem Kd.cases (h : Kd e es lo w v l) : (v = .slice none 0 0 ∧ l = []) ∨ ∃ X cx, v = .slice (some ⟨X, 0, none⟩) l.length cx ∧ (∀ j, j < l.length → w.cell? ⟨X, j, none⟩ = some (.slice (ltA l j) (ltL l j) (ltC l j))) ∧ Kf v l X := by
  rcases h.own.2 with ⟨h1, h2⟩ | ⟨g, cap, cur, h1, h2⟩
  · exact .inl ⟨h1, List.eq_nil_of_length_eq_zero h2⟩
  · refine .inr ⟨g, cap, h1, fun j hj => ?_, .inl (by rw [h1]; rfl)⟩
    have := World.ownsRow.cellAt (h1 ▸ h.own) j (by omega)
    rw [this, List.getElem?_map, (lt_mem hj).2]
    rfl
theorem Kd.ownK (h : Kd e es lo w v l) : ∀ k, Own l.length (ltN l) (ltG l) k → Kf v l k := fun k ⟨j, hj, hn, e⟩ => e ▸ h.kf hj hn
end

theorem Kd.row_ne {lo : Nat} {w : World} {e es : TypeId} {v : Value} {l : List Tl} (h : Kd e es lo w v l) (he : e ≠ es) {p : Tl} (hp : p ∈ l) {k : Nat} (hk : p.b = some k) : v.ownBlock ≠ some k := by
  intro hv
  obtain ⟨_, c1, h1⟩ := own_lt h.own hv
  rcases h.ok p hp with ⟨B, h2, _, xs, h3⟩ | ⟨h2, _⟩
  · rw [hk] at h2
    obtain rfl := Option.some.inj h2
    obtain ⟨cur, hc, _⟩ := h3.block
    rw [hc] at h1; simp at h1
    exact he h1.2
  · rw [h2] at hk; cases hk
/-- One list more. -/
theorem Kd.snoc {lo : Nat} {w w' : World} {GB : Nat} {e es : TypeId} {v : Value} {l : List Tl} (h : Kd e es lo w v l) (he : e ≠ es) (hlo : lo ≤ w.heap.size) (hG : ∀ k, Kf v l k → k ≠ GB) (p : Tl) (hp : p.ok e lo w) (hl : p.n ≤ 4194304) (hfG : ∀ k, p.b = some k → k ≠ GB) (hf : ∀ k, p.b = some k → ¬ Kf v l k) {B cap : Nat}
    (hrow : Row w' es B (l.length + 1) cap (l.map Tl.v ++ [.slice p.ad p.n p.c])) (hor : v.ownBlock = some B ∨ w.heap.size ≤ B) (hk : Kept (fun b => b = GB ∨ v.ownBlock = some b) w w') : Kd e es lo w' (.slice (some ⟨B, 0, none⟩) (l.length + 1) cap) (l ++ [p]) := by
  refine ⟨?_, fun b hb => ?_, fun q hq => ?_, ?_, fun q hq => ?_⟩
  · rw [List.length_append, List.map_append]
    exact hrow
  · obtain rfl : B = b := by simpa [Value.ownBlock] using hb
    exact hor.elim (h.new B) (fun x => Nat.le_trans hlo x)
  · rcases List.mem_append.1 hq with hq | hq
    · exact (h.ok q hq).kept hk (fun k hk' hx => hx.elim (fun e => hG k (.inr ⟨q, hq, hk'⟩) e) (fun e => h.row_ne he hq hk' e))
    · obtain rfl : q = p := by simpa using hq
      exact hp.kept hk (fun k hk' hx => hx.elim (fun e => hfG k hk' e) (fun e => hf k hk' (.inl e)))
  · rw [List.pairwise_append]
    refine ⟨h.inj, List.pairwise_singleton _ _, fun a ha b hb k h1 h2 => ?_⟩
    obtain rfl : b = p := by simpa using hb
    exact hf k h2 (.inr ⟨a, ha, h1⟩)
  · rcases List.mem_append.1 hq with hq | hq
    · exact h.len q hq
    · obtain rfl : q = p := by simpa using hq
      exact hl
theorem Kf.snoc {v : Value} {l : List Tl} {p : Tl} {N : Nat} {w : World} {B cap k : Nat} (hor : v.ownBlock = some B ∨ w.heap.size ≤ B) (hk : Kf (.slice (some ⟨B, 0, none⟩) N cap) (l ++ [p]) k) : Kf v l k ∨ p.b = some k ∨ w.heap.size ≤ k := by
  rcases hk with hk | ⟨q, hq, hk⟩
  · obtain rfl : B = k := by simpa [Value.ownBlock] using hk
    exact hor.elim (fun x => .inl (.inl x)) (fun x => .inr (.inr x))
  · rcases List.mem_append.1 hq with hq | hq
    · exact .inl (.inr ⟨q, hq, hk⟩)
    · obtain rfl : q = p := by simpa using hq
      exact .inr (.inl hk)
/-- A bag of bytes. -/
structure Bg1 (lo : Nat) (w : World) (GB : Nat) (vB : Value) (lB : List Tl) : Prop where
  gb : lo ≤ GB
  c0 : w.cell? ⟨GB, 0, none⟩ = some vB
  cz : ∀ j, j ≤ 16 → j ≠ 0 → w.cell? ⟨GB, j, none⟩ = some (.slice none 0 0)
  fz : ∀ j, w.frozen? ⟨GB, j, none⟩ = false
  kB : Kd 5 31 lo w vB lB
  nB : ∀ k, Kf vB lB k → k ≠ GB
abbrev bagO : Obj := .cells #[.slice none 0 0, .slice none 0 0, .slice none 0 0, .slice none 0 0, .slice none 0 0, .slice none 0 0, .slice none 0 0, .slice none 0 0, .slice none 0 0, .slice none 0 0, .slice none 0 0, .slice none 0 0, .slice none 0 0, .slice none 0 0, .slice none 0 0, .slice none 0 0, .slice none 0 0] 53
theorem bag1 {w : World} {lo : Nat} (h : lo ≤ w.heap.size) : Bg1 lo (w.alloc bagO) w.heap.size (.slice none 0 0) [] := by
  have hn : ∀ k, ¬ Kf (.slice none 0 0) [] k := fun k hk => by rcases hk with hk | ⟨p, hp, _⟩ <;> simp_all [Value.ownBlock]
  refine ⟨h, by rw [World.cell?_alloc_new]; rfl, fun j hj _ => ?_, fun j => by simp, Kd.nil _ _ _ _, fun k hk => absurd hk (hn k)⟩
  rw [World.cell?_alloc_new]
  match j, hj with
  | 0, _ | 1, _ | 2, _ | 3, _ | 4, _ | 5, _ | 6, _ | 7, _ | 8, _ | 9, _ | 10, _ | 11, _ | 12, _ | 13, _ | 14, _ | 15, _ | 16, _ => rfl
  | n + 17, hj => exact absurd hj (by omega)
def Bf1 (GB : Nat) (vB : Value) (lB : List Tl) (k : Nat) : Prop := k = GB ∨ Kf vB lB k
theorem Bg1.low {lo : Nat} {w : World} {GB : Nat} {vB : Value} {lB : List Tl} (h : Bg1 lo w GB vB lB) {k : Nat} (hk : Bf1 GB vB lB k) : lo ≤ k := by
  rcases hk with rfl | hk
  · exact h.gb
  · obtain ⟨_, _, _, _, hl⟩ := h.kB.ty hk; exact hl
theorem Bg1.kept {S : Nat → Prop} {lo : Nat} {w w' : World} {GB : Nat} {vB : Value} {lB : List Tl} (h : Bg1 lo w GB vB lB) (hk : Kept S w w') (hs : ∀ k, Bf1 GB vB lB k → ¬ S k) : Bg1 lo w' GB vB lB :=
  have hg := hs GB (.inl rfl)
  ⟨h.gb, hk.cell h.c0 hg, fun j a b => hk.cell (h.cz j a b) hg, fun j => (frozen_of_block (hk.block GB (block_lt_of_cell h.c0) hg) j).trans (h.fz j), h.kB.kept hk (fun k x => hs k (.inr x)), h.nB⟩
theorem Bg1.add {lo : Nat} {w : World} {GB : Nat} {vB : Value} {lB : List Tl} (h : Bg1 lo w GB vB lB) (p : Tl) (hp : p.ok 5 lo w) (hl : p.n ≤ 4194304) (hf : ∀ k, p.b = some k → ¬ Bf1 GB vB lB k) (hn : lB.length < 300) :
    Calls Tryd.prog 10 #[.pointer (some ⟨GB, 0, none⟩), .slice p.ad p.n p.c] w fun e w' => e = .returned (.tuple #[]) ∧ ∃ vB', Bg1 lo w' GB vB' (lB ++ [p]) ∧ Kept (fun b => b = GB ∨ vB.ownBlock = some b) w w' ∧ ∀ k, Bf1 GB vB' (lB ++ [p]) k → Bf1 GB vB lB k ∨ p.b = some k ∨ w.heap.size ≤ k := by
  refine (add42 GB vB lB.length (lB.map Tl.v) p.ad p.n p.c w hn h.c0 (h.fz 0) h.kB.own (fun e => h.nB GB (.inl e) rfl)).mono ?_
  rintro e w' ⟨rfl, B, cap, hrow, hc0, hf1, hBG, hor, hcs, hk, hfs⟩
  have hlo : lo ≤ w.heap.size := Nat.le_of_lt (Nat.lt_of_le_of_lt h.gb (block_lt_of_cell h.c0))
  have hGl := block_lt_of_cell h.c0
  simp only at hGl
  refine ⟨rfl, _, ⟨h.gb, hc0, fun j a b => (hcs j b).trans (h.cz j a b), fun j => (hfs j).trans (h.fz j), h.kB.snoc (by decide) hlo h.nB p hp hl (fun k hk e => hf k hk (.inl e)) (fun k hk x => hf k hk (.inr x)) hrow hor hk, fun k hk' => ?_⟩, hk, fun k hk => ?_⟩
  · rcases Kf.snoc hor hk' with x | x | x
    · exact h.nB k x
    · intro e; exact hf k x (.inl e)
    · omega
  · rcases hk with x | x
    · exact .inl (.inl x)
    · exact (Kf.snoc hor x).imp .inr id
theorem apB {lo : Nat} {w : World} {GB : Nat} {vB : Value} {lB : List Tl} (hc : w.cell? ⟨GB, 0, none⟩ = some vB) (hkB : Kd 5 31 lo w vB lB) (hnB : ∀ k, Kf vB lB k → k ≠ GB) (hn : lB.length ≤ 300) : Calls Tryd.prog 30 #[.pointer (some ⟨GB, 0, none⟩)] w fun e w' => e = .returned (.bool true) ∧ Kept (Kf vB lB) w w' := by
  rcases hkB.cases with ⟨h1, _⟩ | ⟨X, cx, h1, h2, h3⟩
  · refine (empty43 GB w (h1 ▸ hc)).mono ?_
    rintro e w' ⟨rfl, rfl⟩
    exact ⟨rfl, Kept.refl _ _⟩
  · refine (apart43 GB X lB.length cx (ltN lB) (ltA lB) (ltG lB) (ltL lB) (ltC lB) w hn (h1 ▸ hc) h2 hkB.lists hkB.lenL hkB.injN (fun j hj hn => ⟨fun e => hnB _ (hkB.kf hj hn) e.symm, fun e => ?_⟩)).mono ?_
    · obtain ⟨_, c1, hc1⟩ := own_lt hkB.own (show vB.ownBlock = some X by rw [h1]; rfl)
      rcases hkB.lists j hj with ⟨_, _, xs, hr⟩ | ⟨hx, _⟩
      · obtain ⟨c2, hc2, _⟩ := hr.block
        rw [← e, hc1] at hc2; simp at hc2
      · exact hx hn
    · rintro e w' ⟨rfl, hk⟩
      exact ⟨rfl, hk.mono (hkB.ownK)⟩
set_option maxHeartbeats 2000000 in
theorem Bg1.apart {lo : Nat} {w : World} {GB : Nat} {vB : Value} {lB : List Tl} (h : Bg1 lo w GB vB lB) (n2 : lB.length ≤ 300) :
    Calls Tryd.prog 12 #[.pointer (some ⟨GB, 0, none⟩)] w fun e w' => e = .returned (.bool true) ∧ Kept (Bf1 GB vB lB) w w' := by
  have HB1 := hid (apB h.c0 h.kB h.nB n2)
  have HH := hid h
  clear h
  go_enter Tryd.func12, Tryd.ntmps12
  go_wp2_with fail
  refine HB1.out.mono ?_
  rintro e w1 ⟨rfl, hk1⟩
  have G1 := hid (show ∀ (j : Nat) (v : Value), w.cell? ⟨GB, j, none⟩ = some v → w1.cell? ⟨GB, j, none⟩ = some v from fun j v hc => hk1.cell hc (fun hx => HH.out.nB GB hx rfl))
  have K1 := hid (hk1.mono (T := Bf1 GB vB lB) (fun k x => .inr x))
  clear hk1 HB1
  go_wp2_with fail
  refine (empty44 GB w1 (G1.out 1 _ (HH.out.cz 1 (by omega) (by omega)))).mono ?_
  rintro e w' ⟨rfl, hw⟩
  have hw' := hw.symm; subst hw'; clear hw
  go_wp2_with fail
  refine (empty45 GB w1 (G1.out 2 _ (HH.out.cz 2 (by omega) (by omega)))).mono ?_
  rintro e w' ⟨rfl, hw⟩
  have hw' := hw.symm; subst hw'; clear hw
  go_wp2_with fail
  refine (empty46 GB w1 (G1.out 3 _ (HH.out.cz 3 (by omega) (by omega)))).mono ?_
  rintro e w' ⟨rfl, hw⟩
  have hw' := hw.symm; subst hw'; clear hw
  go_wp2_with fail
  refine (empty47 GB w1 (G1.out 4 _ (HH.out.cz 4 (by omega) (by omega)))).mono ?_
  rintro e w' ⟨rfl, hw⟩
  have hw' := hw.symm; subst hw'; clear hw
  go_wp2_with fail
  refine (empty48 GB w1 (G1.out 5 _ (HH.out.cz 5 (by omega) (by omega)))).mono ?_
  rintro e w' ⟨rfl, hw⟩
  have hw' := hw.symm; subst hw'; clear hw
  go_wp2_with fail
  refine (empty49 GB w1 (G1.out 6 _ (HH.out.cz 6 (by omega) (by omega)))).mono ?_
  rintro e w' ⟨rfl, hw⟩
  have hw' := hw.symm; subst hw'; clear hw
  go_wp2_with fail
  refine (empty50 GB w1 (G1.out 7 _ (HH.out.cz 7 (by omega) (by omega)))).mono ?_
  rintro e w' ⟨rfl, hw⟩
  have hw' := hw.symm; subst hw'; clear hw
  go_wp2_with fail
  refine (empty51 GB w1 (G1.out 8 _ (HH.out.cz 8 (by omega) (by omega)))).mono ?_
  rintro e w' ⟨rfl, hw⟩
  have hw' := hw.symm; subst hw'; clear hw
  go_wp2_with fail
  refine (empty52 GB w1 (G1.out 9 _ (HH.out.cz 9 (by omega) (by omega)))).mono ?_
  rintro e w' ⟨rfl, hw⟩
  have hw' := hw.symm; subst hw'; clear hw
  go_wp2_with fail
  refine (empty53 GB w1 (G1.out 10 _ (HH.out.cz 10 (by omega) (by omega)))).mono ?_
  rintro e w' ⟨rfl, hw⟩
  have hw' := hw.symm; subst hw'; clear hw
  go_wp2_with fail
  refine (empty54 GB w1 (G1.out 11 _ (HH.out.cz 11 (by omega) (by omega)))).mono ?_
  rintro e w' ⟨rfl, hw⟩
  have hw' := hw.symm; subst hw'; clear hw
  go_wp2_with fail
  refine (empty55 GB w1 (G1.out 12 _ (HH.out.cz 12 (by omega) (by omega)))).mono ?_
  rintro e w' ⟨rfl, hw⟩
  have hw' := hw.symm; subst hw'; clear hw
  go_wp2_with fail
  refine (empty56 GB w1 (G1.out 13 _ (HH.out.cz 13 (by omega) (by omega)))).mono ?_
  rintro e w' ⟨rfl, hw⟩
  have hw' := hw.symm; subst hw'; clear hw
  go_wp2_with fail
  refine (empty57 GB w1 (G1.out 14 _ (HH.out.cz 14 (by omega) (by omega)))).mono ?_
  rintro e w' ⟨rfl, hw⟩
  have hw' := hw.symm; subst hw'; clear hw
  go_wp2_with fail
  refine (empty58 GB w1 (G1.out 15 _ (HH.out.cz 15 (by omega) (by omega)))).mono ?_
  rintro e w' ⟨rfl, hw⟩
  have hw' := hw.symm; subst hw'; clear hw
  go_wp2_with fail
  refine (empty59 GB w1 (G1.out 16 _ (HH.out.cz 16 (by omega) (by omega)))).mono ?_
  rintro e w' ⟨rfl, hw⟩
  have hw' := hw.symm; subst hw'; clear hw
  go_wp2_with fail
  go_ret
  exact ⟨rfl, K1.out⟩
end Go.Proofs.YtbdjghokedfkfaaDoor
