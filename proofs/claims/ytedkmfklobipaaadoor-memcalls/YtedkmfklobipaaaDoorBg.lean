/-
  A bag of lists of numbers, of bytes and of pages: what it holds, its adds, Apart.
-/
import Derived.Test.YtedkmfklobipaaaDoorAp
import Derived.Test.YtedkmfklobipaaaDoorCs
namespace Go.Proofs.YtedkmfklobipaaaDoor
open Go.RowKit
set_option linter.unusedVariables false

/-- A list that was told: its block, how long, its room. -/
structure Tl where
  b : Option Nat
  n : Nat
  c : Nat
def dT : Tl := ⟨none, 0, 0⟩
def Tl.ad (p : Tl) : Option Addr := p.b.map fun B => ⟨B, 0, none⟩
def Tl.v (p : Tl) : Value := .slice p.ad p.n p.c
/-- It is nil, or lies in memory of its own, not below lo. -/
def Tl.ok (e : TypeId) (lo : Nat) (w : World) (p : Tl) : Prop :=
  (∃ B, p.b = some B ∧ lo ≤ B ∧ ∃ xs, Row w e B p.n p.c xs) ∨ (p.b = none ∧ p.n = 0 ∧ p.c = 0)
/-- The lists of one kind. -/
structure Kd (e es : TypeId) (lo : Nat) (w : World) (v : Value) (l : List Tl) : Prop where
  own : w.ownsRow 0 es 1 v l.length (l.map Tl.v)
  new : ∀ B, v.ownBlock = some B → lo ≤ B
  ok : ∀ p ∈ l, p.ok e lo w
  inj : l.Pairwise fun p q => ∀ B, p.b = some B → q.b ≠ some B
  len : ∀ p ∈ l, p.n ≤ 4096
/-- Their blocks. -/
def Kf (v : Value) (l : List Tl) (k : Nat) : Prop := v.ownBlock = some k ∨ ∃ p ∈ l, p.b = some k

section
variable {e es : TypeId} {lo : Nat} {w w' : World} {v : Value} {l : List Tl}
theorem Tl.ok.kept {S : Nat → Prop} {p : Tl} (h : p.ok e lo w) (hk : Kept S w w') (hs : ∀ k, p.b = some k → ¬ S k) : p.ok e lo w' := by
  rcases h with ⟨B, h1, h2, xs, h3⟩ | h
  · exact .inl ⟨B, h1, h2, xs, h3.kept hk (hs B h1)⟩
  · exact .inr h
theorem Kd.kept {S : Nat → Prop} (h : Kd e es lo w v l) (hk : Kept S w w') (hs : ∀ k, Kf v l k → ¬ S k) : Kd e es lo w' v l :=
  ⟨own_keep h.own (fun B hB => hk.block B (own_lt h.own hB).1 (hs B (.inl hB))), h.new, fun p hp => (h.ok p hp).kept hk (fun k hk => hs k (.inr ⟨p, hp, hk⟩)), h.inj, h.len⟩
theorem Kd.ty (h : Kd e es lo w v l) {k : Nat} (hk : Kf v l k) : ∃ cur t, w.heap[k]? = some (.cells cur t) ∧ (t = e ∨ t = es) ∧ lo ≤ k := by
  rcases hk with hk | ⟨p, hp, hk⟩
  · obtain ⟨_, cur, hc⟩ := own_lt h.own hk
    exact ⟨cur, es, hc, .inr rfl, h.new k hk⟩
  · rcases h.ok p hp with ⟨B, h1, h2, xs, h3⟩ | ⟨h1, _⟩
    · rw [hk] at h1
      obtain rfl := Option.some.inj h1
      obtain ⟨cur, hc, _⟩ := h3.block
      exact ⟨cur, e, hc, .inl rfl, h2⟩
    · rw [h1] at hk; cases hk
theorem Kd.lt (h : Kd e es lo w v l) {k : Nat} (hk : Kf v l k) : k < w.heap.size := by
  obtain ⟨cur, t, hc, _⟩ := h.ty hk
  exact lt_at hc
theorem Kd.not {e' es' : TypeId} {v' : Value} {l' : List Tl} (h : Kd e es lo w v l) (h' : Kd e' es' lo w v' l') (h1 : e ≠ e' ∧ e ≠ es' ∧ es ≠ e' ∧ es ≠ es') {k : Nat} (hk : Kf v l k) : ¬ Kf v' l' k := by
  intro hk'
  obtain ⟨c1, t1, a1, b1, _⟩ := h.ty hk
  obtain ⟨c2, t2, a2, b2, _⟩ := h'.ty hk'
  rw [a1] at a2
  simp at a2
  obtain ⟨_, rfl⟩ := a2
  rcases b1 with rfl | rfl <;> rcases b2 with rfl | rfl
  · exact h1.1 rfl
  · exact h1.2.1 rfl
  · exact h1.2.2.1 rfl
  · exact h1.2.2.2 rfl
theorem Kd.nil (e es : TypeId) (lo : Nat) (w : World) : Kd e es lo w (.slice none 0 0) [] :=
  ⟨World.ownsRow_nil _ _ _ _, fun B hB => by simp [Value.ownBlock] at hB, fun p hp => by simp at hp, List.Pairwise.nil, fun p hp => by simp at hp⟩
/-- As the walks over a kind want it. -/
def ltA (l : List Tl) (j : Nat) : Option Addr := (l.getD j dT).ad
def ltN (l : List Tl) (j : Nat) : Prop := (l.getD j dT).b ≠ none
def ltG (l : List Tl) (j : Nat) : Nat := ((l.getD j dT).b).getD 0
def ltL (l : List Tl) (j : Nat) : Nat := (l.getD j dT).n
def ltC (l : List Tl) (j : Nat) : Nat := (l.getD j dT).c
theorem lt_mem {j : Nat} (hj : j < l.length) : l.getD j dT ∈ l ∧ l[j]? = some (l.getD j dT) := by
  have : l[j]? = some (l.getD j dT) := by rw [List.getD_eq_getElem?_getD, List.getElem?_eq_getElem hj]; rfl
  exact ⟨List.mem_of_getElem? this, this⟩
theorem lt_G {j B : Nat} (h : (l.getD j dT).b = some B) : ltG l j = B := by unfold ltG; rw [h]; rfl
theorem Kd.lists (h : Kd e es lo w v l) : ∀ j, j < l.length → (ltN l j ∧ ltA l j = some ⟨ltG l j, 0, none⟩ ∧ ∃ xs, Row w e (ltG l j) (ltL l j) (ltC l j) xs) ∨ (¬ ltN l j ∧ ltA l j = none ∧ ltL l j = 0 ∧ ltC l j = 0) := by
  intro j hj
  rcases h.ok _ (lt_mem hj).1 with ⟨B, h1, h2, xs, h3⟩ | ⟨h1, h2, h3⟩
  · refine .inl ⟨by unfold ltN; rw [h1]; simp, by rw [lt_G h1]; unfold ltA Tl.ad; rw [h1]; rfl, xs, by rw [lt_G h1]; exact h3⟩
  · exact .inr ⟨by unfold ltN; rw [h1]; simp, by unfold ltA Tl.ad; rw [h1]; rfl, h2, h3⟩
theorem lt_some {j : Nat} (h : ltN l j) : (l.getD j dT).b = some (ltG l j) := by
  unfold ltN at h
  unfold ltG
  cases hb : (l.getD j dT).b with
  | none => exact absurd hb h
  | some B => rfl
theorem Kd.injN (h : Kd e es lo w v l) : ∀ a b, a < l.length → b < l.length → ltN l a → ltN l b → ltG l a = ltG l b → a = b := by
  intro a b ha hb hna hnb hg
  have h1 := lt_some hna
  have h2 := lt_some hnb
  rw [List.getD_eq_getElem?_getD, List.getElem?_eq_getElem ha] at h1
  rw [List.getD_eq_getElem?_getD, List.getElem?_eq_getElem hb] at h2
  have hp := List.pairwise_iff_getElem.1 h.inj
  rcases Nat.lt_trichotomy a b with hab | hab | hab
  · exact absurd (hg ▸ h2) (hp a b ha hb hab _ h1)
  · exact hab
  · exact absurd h1 (hp b a hb ha hab _ (hg ▸ h2))
theorem Kd.kf (h : Kd e es lo w v l) {j : Nat} (hj : j < l.length) (hn : ltN l j) : Kf v l (ltG l j) := .inr ⟨_, (lt_mem hj).1, lt_some hn⟩
theorem Kd.lenL (h : Kd e es lo w v l) : ∀ j, j < l.length → ltL l j ≤ 4194304 := fun j hj => by
  have := h.len _ (lt_mem hj).1
  unfold ltL; omega
/-- Its lists' own row. -/
theorem Kd.cases (h : Kd e es lo w v l) : (v = .slice none 0 0 ∧ l = []) ∨ ∃ X cx, v = .slice (some ⟨X, 0, none⟩) l.length cx ∧ (∀ j, j < l.length → w.cell? ⟨X, j, none⟩ = some (.slice (ltA l j) (ltL l j) (ltC l j))) ∧ Kf v l X := by
  rcases h.own.2 with ⟨h1, h2⟩ | ⟨g, cap, cur, h1, h2⟩
  · exact .inl ⟨h1, List.eq_nil_of_length_eq_zero h2⟩
  · refine .inr ⟨g, cap, h1, fun j hj => ?_, .inl (by rw [h1]; rfl)⟩
    have := World.ownsRow.cellAt (h1 ▸ h.own) j (by omega)
    rw [this, List.getElem?_map, (lt_mem hj).2]
    rfl
theorem Kd.ownK (h : Kd e es lo w v l) : ∀ k, Own l.length (ltN l) (ltG l) k → Kf v l k := fun k ⟨j, hj, hn, e⟩ => e ▸ h.kf hj hn
end

set_option maxRecDepth 100000 in
set_option maxHeartbeats 400000 in
theorem empty43 (GB : Nat) (w : World) (hc : w.cell? ⟨GB, 0, none⟩ = some (.slice none 0 0)) :
    Calls Tryd.prog 43 #[.pointer (some ⟨GB, 0, none⟩)] w fun e w' => e = .returned (.bool true) ∧ w' = w := by
  go_enter Tryd.func43, Tryd.ntmps43
  go_wp2
  refine wp_loop_rounds 1 ?_
  rw [rounds_succ]
  go_wp2
  refine wp_loop_rounds 1 ?_
  rw [rounds_succ]
  go_wp2
  refine wp_loop_rounds 1 ?_
  rw [rounds_succ]
  go_wp2
  go_ret
  exact ⟨rfl, rfl⟩

set_option maxRecDepth 100000 in
set_option maxHeartbeats 400000 in
theorem empty44 (GB : Nat) (w : World) (hc : w.cell? ⟨GB, 1, none⟩ = some (.slice none 0 0)) :
    Calls Tryd.prog 44 #[.pointer (some ⟨GB, 0, none⟩)] w fun e w' => e = .returned (.bool true) ∧ w' = w := by
  go_enter Tryd.func44, Tryd.ntmps44
  go_wp2
  refine wp_loop_rounds 1 ?_
  rw [rounds_succ]
  go_wp2
  refine wp_loop_rounds 1 ?_
  rw [rounds_succ]
  go_wp2
  refine wp_loop_rounds 1 ?_
  rw [rounds_succ]
  go_wp2
  go_ret
  exact ⟨rfl, rfl⟩

set_option maxRecDepth 100000 in
set_option maxHeartbeats 400000 in
theorem empty58 (GB : Nat) (w : World) (hc : w.cell? ⟨GB, 15, none⟩ = some (.slice none 0 0)) :
    Calls Tryd.prog 58 #[.pointer (some ⟨GB, 0, none⟩)] w fun e w' => e = .returned (.bool true) ∧ w' = w := by
  go_enter Tryd.func58, Tryd.ntmps58
  go_wp2
  refine wp_loop_rounds 1 ?_
  rw [rounds_succ]
  go_wp2
  refine wp_loop_rounds 1 ?_
  rw [rounds_succ]
  go_wp2
  refine wp_loop_rounds 1 ?_
  rw [rounds_succ]
  go_wp2
  go_ret
  exact ⟨rfl, rfl⟩

/-- A bag. -/
structure Bg3 (lo : Nat) (w : World) (GB : Nat) (vI vB vP : Value) (lI lB lP : List Tl) : Prop where
  gb : lo ≤ GB
  c0 : w.cell? ⟨GB, 0, none⟩ = some vB
  c1 : w.cell? ⟨GB, 1, none⟩ = some vI
  c15 : w.cell? ⟨GB, 15, none⟩ = some vP
  cz : ∀ j, j ≤ 16 → j ≠ 0 → j ≠ 1 → j ≠ 15 → w.cell? ⟨GB, j, none⟩ = some (.slice none 0 0)
  fz : ∀ j, w.frozen? ⟨GB, j, none⟩ = false
  kI : Kd 3 39 lo w vI lI
  kB : Kd 5 41 lo w vB lB
  kP : Kd 41 22 lo w vP lP
  nI : ∀ k, Kf vI lI k → k ≠ GB
  nB : ∀ k, Kf vB lB k → k ≠ GB
  nP : ∀ k, Kf vP lP k → k ≠ GB
  pb : ∀ B, vB.ownBlock = some B → ∀ p ∈ lP, p.b ≠ some B
/-- Its blocks. -/
def Bf (GB : Nat) (vI vB vP : Value) (lI lB lP : List Tl) (k : Nat) : Prop := k = GB ∨ Kf vI lI k ∨ Kf vB lB k ∨ Kf vP lP k
section
variable {lo : Nat} {w w' : World} {GB : Nat} {vI vB vP : Value} {lI lB lP : List Tl}
theorem Bg3.lt (h : Bg3 lo w GB vI vB vP lI lB lP) {k : Nat} (hk : Bf GB vI vB vP lI lB lP k) : k < w.heap.size := by
  rcases hk with rfl | hk | hk | hk
  · exact block_lt_of_cell h.c0
  · exact h.kI.lt hk
  · exact h.kB.lt hk
  · exact h.kP.lt hk
theorem Bg3.low (h : Bg3 lo w GB vI vB vP lI lB lP) {k : Nat} (hk : Bf GB vI vB vP lI lB lP k) : lo ≤ k := by
  rcases hk with rfl | hk | hk | hk
  · exact h.gb
  · obtain ⟨_, _, _, _, h⟩ := h.kI.ty hk; exact h
  · obtain ⟨_, _, _, _, h⟩ := h.kB.ty hk; exact h
  · obtain ⟨_, _, _, _, h⟩ := h.kP.ty hk; exact h
theorem Bg3.kept {S : Nat → Prop} (h : Bg3 lo w GB vI vB vP lI lB lP) (hk : Kept S w w') (hs : ∀ k, Bf GB vI vB vP lI lB lP k → ¬ S k) : Bg3 lo w' GB vI vB vP lI lB lP :=
  have hg := hs GB (.inl rfl)
  ⟨h.gb, hk.cell h.c0 hg, hk.cell h.c1 hg, hk.cell h.c15 hg, fun j a b c d => hk.cell (h.cz j a b c d) hg, fun j => (frozen_of_block (hk.block GB (block_lt_of_cell h.c0) hg) j).trans (h.fz j),
    h.kI.kept hk (fun k x => hs k (.inr (.inl x))), h.kB.kept hk (fun k x => hs k (.inr (.inr (.inl x)))), h.kP.kept hk (fun k x => hs k (.inr (.inr (.inr x)))), h.nI, h.nB, h.nP, h.pb⟩
/-- The bytes' and the pages' blocks are not the same. -/
theorem Bg3.bp (h : Bg3 lo w GB vI vB vP lI lB lP) {k : Nat} (hk : Kf vB lB k) : ¬ Kf vP lP k := by
  intro hk'
  rcases hk with hk | ⟨p, hp, hk⟩
  · rcases hk' with hk' | ⟨q, hq, hk'⟩
    · obtain ⟨_, c1, h1⟩ := own_lt h.kB.own hk
      obtain ⟨_, c2, h2⟩ := own_lt h.kP.own hk'
      rw [h1] at h2; simp at h2
    · exact h.pb k hk q hq hk'
  · obtain ⟨c2, t2, h2, ht, _⟩ := h.kP.ty hk'
    rcases h.kB.ok p hp with ⟨B, h1, _, xs, h3⟩ | ⟨h1, _⟩
    · rw [hk] at h1
      obtain rfl := Option.some.inj h1
      obtain ⟨cur, hc, _⟩ := h3.block
      rw [hc] at h2; simp at h2
      obtain ⟨_, rfl⟩ := h2
      rcases ht with ht | ht <;> simp at ht
    · rw [h1] at hk; cases hk
theorem Bg3.ib (h : Bg3 lo w GB vI vB vP lI lB lP) {k : Nat} (hk : Kf vI lI k) : ¬ Kf vB lB k := h.kI.not h.kB (by decide) hk
theorem Bg3.ip (h : Bg3 lo w GB vI vB vP lI lB lP) {k : Nat} (hk : Kf vI lI k) : ¬ Kf vP lP k := h.kI.not h.kP (by decide) hk

/-- A bag of nothing. -/
theorem bag0 {w : World} {lo : Nat} (h : lo ≤ w.heap.size) : Bg3 lo (w.alloc (.cells #[.slice none 0 0, .slice none 0 0, .slice none 0 0, .slice none 0 0, .slice none 0 0, .slice none 0 0, .slice none 0 0, .slice none 0 0, .slice none 0 0, .slice none 0 0, .slice none 0 0, .slice none 0 0, .slice none 0 0, .slice none 0 0, .slice none 0 0, .slice none 0 0, .slice none 0 0] 62)) w.heap.size (.slice none 0 0) (.slice none 0 0) (.slice none 0 0) [] [] [] := by
  have hn : ∀ k, ¬ Kf (.slice none 0 0) [] k := fun k hk => by rcases hk with hk | ⟨p, hp, _⟩ <;> simp_all [Value.ownBlock]
  refine ⟨h, by rw [World.cell?_alloc_new]; rfl, by rw [World.cell?_alloc_new]; rfl, by rw [World.cell?_alloc_new]; rfl, fun j hj _ _ _ => ?_, fun j => by simp, Kd.nil _ _ _ _, Kd.nil _ _ _ _, Kd.nil _ _ _ _, fun k hk => absurd hk (hn k), fun k hk => absurd hk (hn k), fun k hk => absurd hk (hn k), fun B hB => by simp [Value.ownBlock] at hB⟩
  rw [World.cell?_alloc_new]
  match j, hj with
  | 0, _ | 1, _ | 2, _ | 3, _ | 4, _ | 5, _ | 6, _ | 7, _ | 8, _ | 9, _ | 10, _ | 11, _ | 12, _ | 13, _ | 14, _ | 15, _ | 16, _ => rfl
  | n + 17, hj => exact absurd hj (by omega)

theorem Bg3.apB (h : Bg3 lo w GB vI vB vP lI lB lP) (hn : lB.length ≤ 300) : Calls Tryd.prog 43 #[.pointer (some ⟨GB, 0, none⟩)] w fun e w' => e = .returned (.bool true) ∧ Kept (Kf vB lB) w w' := by
  rcases h.kB.cases with ⟨h1, _⟩ | ⟨X, cx, h1, h2, h3⟩
  · refine (empty43 GB w (h1 ▸ h.c0)).mono ?_
    rintro e w' ⟨rfl, rfl⟩
    exact ⟨rfl, Kept.refl _ _⟩
  · refine (apart43 GB X lB.length cx (ltN lB) (ltA lB) (ltG lB) (ltL lB) (ltC lB) w hn (h1 ▸ h.c0) h2 h.kB.lists h.kB.lenL h.kB.injN (fun j hj hn => ⟨fun e => h.nB _ (h.kB.kf hj hn) e.symm, fun e => ?_⟩)).mono ?_
    · obtain ⟨_, c1, hc1⟩ := own_lt h.kB.own (show vB.ownBlock = some X by rw [h1]; rfl)
      rcases h.kB.lists j hj with ⟨_, _, xs, hr⟩ | ⟨hx, _⟩
      · obtain ⟨c2, hc2, _⟩ := hr.block
        rw [← e, hc1] at hc2; simp at hc2
      · exact hx hn
    · rintro e w' ⟨rfl, hk⟩
      exact ⟨rfl, hk.mono (h.kB.ownK)⟩
theorem Bg3.apI2 (hc : w.cell? ⟨GB, 1, none⟩ = some vI) (hkI : Kd 3 39 lo w vI lI) (hnI : ∀ k, Kf vI lI k → k ≠ GB) (hn : lI.length ≤ 300) : Calls Tryd.prog 44 #[.pointer (some ⟨GB, 0, none⟩)] w fun e w' => e = .returned (.bool true) ∧ Kept (Kf vI lI) w w' := by
  rcases hkI.cases with ⟨h1, _⟩ | ⟨X, cx, h1, h2, h3⟩
  · refine (empty44 GB w (h1 ▸ hc)).mono ?_
    rintro e w' ⟨rfl, rfl⟩
    exact ⟨rfl, Kept.refl _ _⟩
  · refine (apart44 GB X lI.length cx (ltN lI) (ltA lI) (ltG lI) (ltL lI) (ltC lI) w hn (h1 ▸ hc) h2 hkI.lists hkI.lenL hkI.injN (fun j hj hn => ⟨fun e => hnI _ (hkI.kf hj hn) e.symm, fun e => ?_⟩)).mono ?_
    · obtain ⟨_, c1, hc1⟩ := own_lt hkI.own (show vI.ownBlock = some X by rw [h1]; rfl)
      rcases hkI.lists j hj with ⟨_, _, xs, hr⟩ | ⟨hx, _⟩
      · obtain ⟨c2, hc2, _⟩ := hr.block
        rw [← e, hc1] at hc2; simp at hc2
      · exact hx hn
    · rintro e w' ⟨rfl, hk⟩
      exact ⟨rfl, hk.mono (hkI.ownK)⟩
/-- The pages alone. -/
theorem apP {B0 : Nat} (hc : w.cell? ⟨GB, 15, none⟩ = some vP) (hkP : Kd 41 22 lo w vP lP) (hnP : ∀ k, Kf vP lP k → k ≠ GB) (hn : lP.length ≤ 300) (ht : Tens B0 w) (hB : B0 ≤ lo) (hB1 : B0 ≤ w.heap.size) : Calls Tryd.prog 58 #[.pointer (some ⟨GB, 0, none⟩)] w fun e w' => e = .returned (.bool true) ∧ Kept (Kf vP lP) w w' := by
  rcases hkP.cases with ⟨h1, _⟩ | ⟨X, cx, h1, h2, h3⟩
  · refine (empty58 GB w (h1 ▸ hc)).mono ?_
    rintro e w' ⟨rfl, rfl⟩
    exact ⟨rfl, Kept.refl _ _⟩
  · refine (apart58 B0 GB X lP.length cx (ltN lP) (ltA lP) (ltG lP) (ltL lP) (ltC lP) w hn (h1 ▸ hc) h2 hkP.lists hkP.lenL hkP.injN (fun j hj hn => ⟨fun e => hnP _ (hkP.kf hj hn) e.symm, fun e => ?_⟩) ht (fun j hj hn => ?_) hB1).mono ?_
    · obtain ⟨_, c1, hc1⟩ := own_lt hkP.own (show vP.ownBlock = some X by rw [h1]; rfl)
      rcases hkP.lists j hj with ⟨_, _, xs, hr⟩ | ⟨hx, _⟩
      · obtain ⟨c2, hc2, _⟩ := hr.block
        rw [← e, hc1] at hc2; simp at hc2
      · exact hx hn
    · obtain ⟨_, _, _, _, hl⟩ := hkP.ty (hkP.kf hj hn)
      omega
    · rintro e w' ⟨rfl, hk⟩
      exact ⟨rfl, hk.mono (hkP.ownK)⟩
end

set_option maxRecDepth 100000 in
set_option maxHeartbeats 2000000 in
theorem Bg3.apart {lo B0 : Nat} {w : World} {GB : Nat} {vI vB vP : Value} {lI lB lP : List Tl} (h : Bg3 lo w GB vI vB vP lI lB lP) (n1 : lI.length ≤ 300) (n2 : lB.length ≤ 300) (n3 : lP.length ≤ 300) (ht : Tens B0 w) (hB : B0 ≤ lo) (hB1 : B0 ≤ w.heap.size) :
    Calls Tryd.prog 31 #[.pointer (some ⟨GB, 0, none⟩)] w fun e w' => e = .returned (.bool true) ∧ Kept (Bf GB vI vB vP lI lB lP) w w' := by
  have HH := hid h
  have HB1 := hid (h.apB n2)
  have HT := hid ht
  clear h ht
  go_enter Tryd.func31, Tryd.ntmps31
  go_wp2_with fail
  refine HB1.out.mono ?_
  rintro e w1 ⟨rfl, hk1⟩
  have K1 := hid hk1
  have hI1 : Kd 3 39 lo w1 vI lI := HH.out.kI.kept hk1 (fun k hk => HH.out.ib hk)
  have hP1 : Kd 41 22 lo w1 vP lP := HH.out.kP.kept hk1 (fun k hk hx => HH.out.bp hx hk)
  have g1 : ∀ (j : Nat) (v : Value), w.cell? ⟨GB, j, none⟩ = some v → w1.cell? ⟨GB, j, none⟩ = some v := fun j v hc => hk1.cell hc (fun hx => HH.out.nB GB hx rfl)
  have hB1' : B0 ≤ w1.heap.size := Nat.le_trans hB1 hk1.size
  have ht1 : Tens B0 w1 := HT.out.later (hk1.to_below hB1 (fun k hk hx => by obtain ⟨_, _, _, _, hl⟩ := HH.out.kB.ty hx; omega))
  have HI2 := hid (Bg3.apI2 (g1 1 _ HH.out.c1) hI1 HH.out.nI n1)
  have HP1 := hid hP1
  have G1 := hid g1
  have HT1 := hid ht1
  have HI1 := hid hI1
  clear hk1 hI1 hP1 g1 ht1
  go_wp2_with fail
  refine HI2.out.mono ?_
  rintro e w2 ⟨rfl, hk2⟩
  have hP2 : Kd 41 22 lo w2 vP lP := HP1.out.kept hk2 (fun k hk hx => HH.out.ip hx hk)
  have g2 : ∀ (j : Nat) (v : Value), w.cell? ⟨GB, j, none⟩ = some v → w2.cell? ⟨GB, j, none⟩ = some v := fun j v hc => hk2.cell (G1.out j v hc) (fun hx => HH.out.nI GB hx rfl)
  have hB2 : B0 ≤ w2.heap.size := Nat.le_trans hB1' hk2.size
  have ht2 : Tens B0 w2 := HT1.out.later (hk2.to_below hB1' (fun k hk hx => by obtain ⟨_, _, _, _, hl⟩ := HI1.out.ty hx; omega))
  have G2 := hid g2
  have HP2 := hid hP2
  have HT2 := hid ht2
  have K2 := hid (show Kept (Bf GB vI vB vP lI lB lP) w w2 from (K1.out.mono (fun k x => .inr (.inr (.inl x)))).trans (hk2.mono (fun k x => .inr (.inl x))))
  clear hk2 hP2 g2 ht2
  go_wp2_with fail
  refine (empty45 GB w2 (G2.out 2 _ (HH.out.cz 2 (by omega) (by omega) (by omega) (by omega)))).mono ?_
  rintro e w' ⟨rfl, hw⟩
  have hw' := hw.symm; subst hw'; clear hw
  go_wp2_with fail
  refine (empty46 GB w2 (G2.out 3 _ (HH.out.cz 3 (by omega) (by omega) (by omega) (by omega)))).mono ?_
  rintro e w' ⟨rfl, hw⟩
  have hw' := hw.symm; subst hw'; clear hw
  go_wp2_with fail
  refine (empty47 GB w2 (G2.out 4 _ (HH.out.cz 4 (by omega) (by omega) (by omega) (by omega)))).mono ?_
  rintro e w' ⟨rfl, hw⟩
  have hw' := hw.symm; subst hw'; clear hw
  go_wp2_with fail
  refine (empty48 GB w2 (G2.out 5 _ (HH.out.cz 5 (by omega) (by omega) (by omega) (by omega)))).mono ?_
  rintro e w' ⟨rfl, hw⟩
  have hw' := hw.symm; subst hw'; clear hw
  go_wp2_with fail
  refine (empty49 GB w2 (G2.out 6 _ (HH.out.cz 6 (by omega) (by omega) (by omega) (by omega)))).mono ?_
  rintro e w' ⟨rfl, hw⟩
  have hw' := hw.symm; subst hw'; clear hw
  go_wp2_with fail
  refine (empty50 GB w2 (G2.out 7 _ (HH.out.cz 7 (by omega) (by omega) (by omega) (by omega)))).mono ?_
  rintro e w' ⟨rfl, hw⟩
  have hw' := hw.symm; subst hw'; clear hw
  go_wp2_with fail
  refine (empty51 GB w2 (G2.out 8 _ (HH.out.cz 8 (by omega) (by omega) (by omega) (by omega)))).mono ?_
  rintro e w' ⟨rfl, hw⟩
  have hw' := hw.symm; subst hw'; clear hw
  go_wp2_with fail
  refine (empty52 GB w2 (G2.out 9 _ (HH.out.cz 9 (by omega) (by omega) (by omega) (by omega)))).mono ?_
  rintro e w' ⟨rfl, hw⟩
  have hw' := hw.symm; subst hw'; clear hw
  go_wp2_with fail
  refine (empty53 GB w2 (G2.out 10 _ (HH.out.cz 10 (by omega) (by omega) (by omega) (by omega)))).mono ?_
  rintro e w' ⟨rfl, hw⟩
  have hw' := hw.symm; subst hw'; clear hw
  go_wp2_with fail
  refine (empty54 GB w2 (G2.out 11 _ (HH.out.cz 11 (by omega) (by omega) (by omega) (by omega)))).mono ?_
  rintro e w' ⟨rfl, hw⟩
  have hw' := hw.symm; subst hw'; clear hw
  go_wp2_with fail
  refine (empty55 GB w2 (G2.out 12 _ (HH.out.cz 12 (by omega) (by omega) (by omega) (by omega)))).mono ?_
  rintro e w' ⟨rfl, hw⟩
  have hw' := hw.symm; subst hw'; clear hw
  go_wp2_with fail
  refine (empty56 GB w2 (G2.out 13 _ (HH.out.cz 13 (by omega) (by omega) (by omega) (by omega)))).mono ?_
  rintro e w' ⟨rfl, hw⟩
  have hw' := hw.symm; subst hw'; clear hw
  go_wp2_with fail
  refine (empty57 GB w2 (G2.out 14 _ (HH.out.cz 14 (by omega) (by omega) (by omega) (by omega)))).mono ?_
  rintro e w' ⟨rfl, hw⟩
  have hw' := hw.symm; subst hw'; clear hw
  go_wp2_with fail
  refine (apP (G2.out 15 _ HH.out.c15) HP2.out HH.out.nP n3 HT2.out hB hB2).mono ?_
  rintro e w3 ⟨rfl, hk3⟩
  have c16 : w3.cell? ⟨GB, 16, none⟩ = some (.slice none 0 0) := hk3.cell (G2.out 16 _ (HH.out.cz 16 (by omega) (by omega) (by omega) (by omega))) (fun hx => HH.out.nP GB hx rfl)
  have K3 := hid (show Kept (Bf GB vI vB vP lI lB lP) w w3 from K2.out.trans (hk3.mono (fun k x => .inr (.inr (.inr x)))))
  clear hk3
  go_wp2_with fail
  refine (empty59 GB w3 c16).mono ?_
  rintro e w' ⟨rfl, hw⟩
  have hw' := hw.symm; subst hw'; clear hw
  go_wp2_with fail
  go_ret
  exact ⟨rfl, K3.out⟩
end Go.Proofs.YtedkmfklobipaaaDoor
