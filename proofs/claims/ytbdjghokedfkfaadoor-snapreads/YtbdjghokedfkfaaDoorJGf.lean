/-
  A bag of lists of four kinds (bytes, words, frames, pages): what it holds, its adds.
-/
import Derived.Test.YtbdjghokedfkfaaDoorGd
import Derived.Test.YtbdjghokedfkfaaDoorGe
namespace Go.Proofs.YtbdjghokedfkfaaDoor
open Go.RowKit
set_option linter.unusedVariables false
set_option maxRecDepth 100000

/-- A list that was told: its block, how long, its room. -/
structure Tl where
  b : Option Nat
  n : Nat
  c : Nat
def dT : Tl := ⟨none, 0, 0⟩
def Tl.ad (p : Tl) : Option Addr := p.b.map fun B => ⟨B, 0, none⟩
def Tl.v (p : Tl) : Value := .slice p.ad p.n p.c
/-- It is nil, or lies in memory of its own, not below lo. -/
def Tl.ok (s : Nat) (e : TypeId) (lo : Nat) (w : World) (p : Tl) : Prop :=
  (∃ B, p.b = some B ∧ lo ≤ B ∧ ∃ xs, w.ownsRow 0 e s (.slice (some ⟨B, 0, none⟩) p.n p.c) p.n xs) ∨ (p.b = none ∧ p.n = 0 ∧ p.c = 0)
/-- The lists of one kind. -/
structure Kd (s : Nat) (e es : TypeId) (lo : Nat) (w : World) (v : Value) (l : List Tl) : Prop where
  own : w.ownsRow 0 es 1 v l.length (l.map Tl.v)
  new : ∀ B, v.ownBlock = some B → lo ≤ B
  ok : ∀ p ∈ l, p.ok s e lo w
  inj : l.Pairwise fun p q => ∀ B, p.b = some B → q.b ≠ some B
  len : ∀ p ∈ l, p.n ≤ 4194304
/-- Their blocks. -/
def Kf (v : Value) (l : List Tl) (k : Nat) : Prop := v.ownBlock = some k ∨ ∃ p ∈ l, p.b = some k

section
variable {s : Nat} {e es : TypeId} {lo : Nat} {w w' : World} {v : Value} {l : List Tl}
theorem Tl.ok.kept {S : Nat → Prop} {p : Tl} (h : p.ok s e lo w) (hk : Kept S w w') (hs : ∀ k, p.b = some k → ¬ S k) : p.ok s e lo w' := by
  rcases h with ⟨B, h1, h2, xs, h3⟩ | h
  · exact .inl ⟨B, h1, h2, xs, own_keepB h3 hk (fun b hb => hs b (by
      obtain rfl : B = b := by simpa [Value.ownBlock] using hb
      exact h1))⟩
  · exact .inr h
theorem Kd.kept {S : Nat → Prop} (h : Kd s e es lo w v l) (hk : Kept S w w') (hs : ∀ k, Kf v l k → ¬ S k) : Kd s e es lo w' v l :=
  ⟨own_keepB h.own hk (fun B hB => hs B (.inl hB)), h.new, fun p hp => (h.ok p hp).kept hk (fun k hk => hs k (.inr ⟨p, hp, hk⟩)), h.inj, h.len⟩
theorem Kd.ty (h : Kd s e es lo w v l) {k : Nat} (hk : Kf v l k) : ∃ cur t, w.heap[k]? = some (.cells cur t) ∧ (t = e ∨ t = es) ∧ lo ≤ k := by
  rcases hk with hk | ⟨p, hp, hk⟩
  · obtain ⟨_, _, cur, hc⟩ := own_ty h.own hk
    exact ⟨cur, es, hc, .inr rfl, h.new k hk⟩
  · rcases h.ok p hp with ⟨B, h1, h2, xs, h3⟩ | ⟨h1, _⟩
    · rw [hk] at h1
      obtain rfl := Option.some.inj h1
      obtain ⟨_, _, cur, hc⟩ := own_ty h3 rfl
      exact ⟨cur, e, hc, .inl rfl, h2⟩
    · rw [h1] at hk; cases hk
theorem Kd.lt (h : Kd s e es lo w v l) {k : Nat} (hk : Kf v l k) : k < w.heap.size := by
  obtain ⟨cur, t, hc, _⟩ := h.ty hk
  exact nb_lt hc
theorem Kd.nil (s : Nat) (e es : TypeId) (lo : Nat) (w : World) : Kd s e es lo w (.slice none 0 0) [] :=
  ⟨World.ownsRow_nil _ _ _ _, fun B hB => by simp [Value.ownBlock] at hB, fun p hp => by simp at hp, List.Pairwise.nil, fun p hp => by simp at hp⟩
/-- As the walks over a kind want it. -/
def ltA (l : List Tl) (j : Nat) : Option Addr := (l.getD j dT).ad
def ltN (l : List Tl) (j : Nat) : Prop := (l.getD j dT).b ≠ none
def ltG (l : List Tl) (j : Nat) : Nat := ((l.getD j dT).b).getD 0
def ltL (l : List Tl) (j : Nat) : Nat := (l.getD j dT).n
def ltC (l : List Tl) (j : Nat) : Nat := (l.getD j dT).c
theorem lt_mem {j : Nat} (hj : j < l.length) : l.getD j dT ∈ l ∧ l[j]? = some (l.getD j dT) := by
  have : l[j]? = some (l.getD j dT) := by rw [List.getD_eq_getElem?_getD, List.getElem?_eq_getElem hj]; rfl
  exact ⟨List.mem_of_getElem? this, this⟩
theorem lt_G {j B : Nat} (h : (l.getD j dT).b = some B) : ltG l j = B := by unfold ltG; rw [h]; rfl
theorem Kd.lists (h : Kd s e es lo w v l) : ∀ j, j < l.length → (ltN l j ∧ ltA l j = some ⟨ltG l j, 0, none⟩ ∧ ∃ xs, w.ownsRow 0 e s (.slice (some ⟨ltG l j, 0, none⟩) (ltL l j) (ltC l j)) (ltL l j) xs) ∨ (¬ ltN l j ∧ ltA l j = none ∧ ltL l j = 0 ∧ ltC l j = 0) := by
  intro j hj
  rcases h.ok _ (lt_mem hj).1 with ⟨B, h1, h2, xs, h3⟩ | ⟨h1, h2, h3⟩
  · refine .inl ⟨by unfold ltN; rw [h1]; simp, by rw [lt_G h1]; unfold ltA Tl.ad; rw [h1]; rfl, xs, by rw [lt_G h1]; exact h3⟩
  · exact .inr ⟨by unfold ltN; rw [h1]; simp, by unfold ltA Tl.ad; rw [h1]; rfl, h2, h3⟩
theorem lt_some {j : Nat} (h : ltN l j) : (l.getD j dT).b = some (ltG l j) := by
  unfold ltN at h
  unfold ltG
  cases hb : (l.getD j dT).b with
  | none => exact absurd hb h
  | some B => rfl
theorem Kd.injN (h : Kd s e es lo w v l) : ∀ a b, a < l.length → b < l.length → ltN l a → ltN l b → ltG l a = ltG l b → a = b := by
  intro a b ha hb hna hnb hg
  have h1 := lt_some hna
  have h2 := lt_some hnb
  rw [List.getD_eq_getElem?_getD, List.getElem?_eq_getElem ha] at h1
  rw [List.getD_eq_getElem?_getD, List.getElem?_eq_getElem hb] at h2
  have hp := List.pairwise_iff_getElem.1 h.inj
  rcases Nat.lt_trichotomy a b with hab | hab | hab
  · exact absurd (hg ▸ h2) (hp a b ha hb hab _ h1)
  · exact hab
  · exact absurd h1 (hp b a hb ha hab _ (hg ▸ h2))
theorem Kd.kf (h : Kd s e es lo w v l) {j : Nat} (hj : j < l.length) (hn : ltN l j) : Kf v l (ltG l j) := .inr ⟨_, (lt_mem hj).1, lt_some hn⟩
theorem Kd.lenL (h : Kd s e es lo w v l) : ∀ j, j < l.length → ltL l j ≤ 4194304 := fun j hj => by
  have := h.len _ (lt_mem hj).1
  unfold ltL; omega
/-- Its lists' own row. -/
theorem Kd.cases (h : Kd s e es lo w v l) : (v = .slice none 0 0 ∧ l = []) ∨ ∃ X cx, v = .slice (some ⟨X, 0, none⟩) l.length cx ∧ (∀ j, j < l.length → w.cell? ⟨X, j, none⟩ = some (.slice (ltA l j) (ltL l j) (ltC l j))) ∧ Kf v l X := by
  rcases h.own.2 with ⟨h1, h2⟩ | ⟨g, cap, cur, h1, h2⟩
  · exact .inl ⟨h1, List.eq_nil_of_length_eq_zero h2⟩
  · refine .inr ⟨g, cap, h1, fun j hj => ?_, .inl (by rw [h1]; rfl)⟩
    have := World.ownsRow.cellAt (h1 ▸ h.own) j (by omega)
    rw [this, List.getElem?_map, (lt_mem hj).2]
    rfl
theorem Kd.ownK (h : Kd s e es lo w v l) : ∀ k, Own l.length (ltN l) (ltG l) k → Kf v l k := fun k ⟨j, hj, hn, e⟩ => e ▸ h.kf hj hn
theorem Kd.row_ne (h : Kd s e es lo w v l) (he : e ≠ es) {p : Tl} (hp : p ∈ l) {k : Nat} (hk : p.b = some k) : v.ownBlock ≠ some k := by
  intro hv
  obtain ⟨_, _, c1, h1⟩ := own_ty h.own hv
  rcases h.ok p hp with ⟨B, h2, _, xs, h3⟩ | ⟨h2, _⟩
  · rw [hk] at h2
    obtain rfl := Option.some.inj h2
    obtain ⟨_, _, cur, hc⟩ := own_ty h3 rfl
    rw [hc] at h1; simp at h1
    exact he h1.2
  · rw [h2] at hk; cases hk
/-- One list more. -/
theorem Kd.snoc {GB : Nat} (h : Kd s e es lo w v l) (he : e ≠ es) (hlo : lo ≤ w.heap.size) (hG : ∀ k, Kf v l k → k ≠ GB) (p : Tl) (hp : p.ok s e lo w) (hl : p.n ≤ 4194304) (hfG : ∀ k, p.b = some k → k ≠ GB) (hf : ∀ k, p.b = some k → ¬ Kf v l k) {B cap : Nat}
    (hrow : Row w' es B (l.length + 1) cap (l.map Tl.v ++ [.slice p.ad p.n p.c])) (hor : v.ownBlock = some B ∨ w.heap.size ≤ B) (hk : Kept (fun b => b = GB ∨ v.ownBlock = some b) w w') : Kd s e es lo w' (.slice (some ⟨B, 0, none⟩) (l.length + 1) cap) (l ++ [p]) := by
  refine ⟨?_, fun b hb => ?_, fun q hq => ?_, ?_, fun q hq => ?_⟩
  · rw [List.length_append, List.map_append]
    exact hrow
  · obtain rfl : B = b := by simpa [Value.ownBlock] using hb
    exact hor.elim (h.new B) (fun x => Nat.le_trans hlo x)
  · rcases List.mem_append.1 hq with hq | hq
    · exact (h.ok q hq).kept hk (fun k hk' hx => hx.elim (fun e => hG k (.inr ⟨q, hq, hk'⟩) e) (fun e => h.row_ne he hq hk' e))
    · obtain rfl : q = p := by simpa using hq
      exact hp.kept hk (fun k hk' hx => hx.elim (fun e => hfG k hk' e) (fun e => hf k hk' (.inl e)))
  · rw [List.pairwise_append]
    refine ⟨h.inj, List.pairwise_singleton _ _, fun a ha b hb k h1 h2 => ?_⟩
    obtain rfl : b = p := by simpa using hb
    exact hf k h2 (.inr ⟨a, ha, h1⟩)
  · rcases List.mem_append.1 hq with hq | hq
    · exact h.len q hq
    · obtain rfl : q = p := by simpa using hq
      exact hl
end
theorem Kf.snoc {v : Value} {l : List Tl} {p : Tl} {N : Nat} {w : World} {B cap k : Nat} (hor : v.ownBlock = some B ∨ w.heap.size ≤ B) (hk : Kf (.slice (some ⟨B, 0, none⟩) N cap) (l ++ [p]) k) : Kf v l k ∨ p.b = some k ∨ w.heap.size ≤ k := by
  rcases hk with hk | ⟨q, hq, hk⟩
  · obtain rfl : B = k := by simpa [Value.ownBlock] using hk
    exact hor.elim (fun x => .inl (.inl x)) (fun x => .inr (.inr x))
  · rcases List.mem_append.1 hq with hq | hq
    · exact .inl (.inr ⟨q, hq, hk⟩)
    · obtain rfl : q = p := by simpa using hq
      exact .inr (.inl hk)

/-- The four kinds: bytes, words, frames, pages. -/
def kSz (q : Nat) : Nat := if q = 2 then 4 else 1
def kE (q : Nat) : TypeId := if q = 0 then 5 else if q = 1 then 63 else if q = 2 then 66 else 31
def kR (q : Nat) : TypeId := if q = 0 then 31 else if q = 1 then 23 else if q = 2 then 22 else 24
def kC (q : Nat) : Nat := if q = 0 then 0 else if q = 1 then 3 else if q = 2 then 13 else 15
theorem kES {q : Nat} (hq : q < 4) : kE q ≠ kR q := by
  match q, hq with
  | 0, _ | 1, _ | 2, _ | 3, _ => decide
theorem kC_inj {q r : Nat} (hq : q < 4) (hr : r < 4) (h : q ≠ r) : kC r ≠ kC q := by
  match q, hq, r, hr with
  | 0, _, 0, _ | 1, _, 1, _ | 2, _, 2, _ | 3, _, 3, _ => exact absurd rfl h
  | 0, _, 1, _ | 0, _, 2, _ | 0, _, 3, _ | 1, _, 0, _ | 1, _, 2, _ | 1, _, 3, _ | 2, _, 0, _ | 2, _, 1, _ | 2, _, 3, _ | 3, _, 0, _ | 3, _, 1, _ | 3, _, 2, _ => decide
abbrev KM := Nat → Value × List Tl
def KF (K : KM) (q k : Nat) : Prop := Kf (K q).1 (K q).2 k
/-- The bag. -/
structure BgK (lo base : Nat) (w : World) (GB : Nat) (K : KM) : Prop where
  lb : lo ≤ base
  bs : base ≤ GB
  c : ∀ q, q < 4 → w.cell? ⟨GB, kC q, none⟩ = some (K q).1
  cz : ∀ j, j ≤ 16 → (∀ q, q < 4 → j ≠ kC q) → w.cell? ⟨GB, j, none⟩ = some (.slice none 0 0)
  fz : ∀ j, w.frozen? ⟨GB, j, none⟩ = false
  kd : ∀ q, q < 4 → Kd (kSz q) (kE q) (kR q) lo w (K q).1 (K q).2
  ow : ∀ q, q < 4 → ∀ B, (K q).1.ownBlock = some B → base ≤ B
  nl : ∀ q, q < 4 → (K q).2.length ≤ 300
  n : ∀ q, q < 4 → ∀ k, KF K q k → k ≠ GB
  dis : ∀ q r, q < 4 → r < 4 → q ≠ r → ∀ k, KF K q k → ¬ KF K r k
/-- Its blocks. -/
def BF (GB : Nat) (K : KM) (k : Nat) : Prop := k = GB ∨ ∃ q, q < 4 ∧ KF K q k
theorem BgK.gl {lo base : Nat} {w : World} {GB : Nat} {K : KM} (h : BgK lo base w GB K) : GB < w.heap.size := block_lt_of_cell (h.c 0 (by omega))
theorem BgK.low {lo base : Nat} {w : World} {GB : Nat} {K : KM} (h : BgK lo base w GB K) {k : Nat} (hk : BF GB K k) : lo ≤ k := by
  rcases hk with rfl | ⟨q, hq, hk⟩
  · exact Nat.le_trans h.lb h.bs
  · obtain ⟨_, _, _, _, hl⟩ := (h.kd q hq).ty hk; exact hl
theorem BgK.kept {S : Nat → Prop} {lo base : Nat} {w w' : World} {GB : Nat} {K : KM} (h : BgK lo base w GB K) (hk : Kept S w w') (hs : ∀ k, BF GB K k → ¬ S k) : BgK lo base w' GB K :=
  have hg := hs GB (.inl rfl)
  ⟨h.lb, h.bs, fun q hq => hk.cell (h.c q hq) hg, fun j a b => hk.cell (h.cz j a b) hg, fun j => (frozen_of_block (hk.block GB h.gl hg) j).trans (h.fz j), fun q hq => (h.kd q hq).kept hk (fun k x => hs k (.inr ⟨q, hq, x⟩)), h.ow, h.nl, h.n, h.dis⟩
def updK (K : KM) (q : Nat) (x : Value × List Tl) : KM := fun r => if r = q then x else K r
theorem updK_same (K : KM) (q : Nat) (x : Value × List Tl) : updK K q x q = x := by unfold updK; rw [if_pos rfl]
theorem updK_other {K : KM} {q r : Nat} {x : Value × List Tl} (h : r ≠ q) : updK K q x r = K r := by unfold updK; rw [if_neg h]
/-- The bag's own blocks. -/
def BW (GB : Nat) (K : KM) (k : Nat) : Prop := k = GB ∨ ∃ q, q < 4 ∧ (K q).1.ownBlock = some k
theorem BW.bf {GB : Nat} {K : KM} {k : Nat} (h : BW GB K k) : BF GB K k := by
  rcases h with h | ⟨q, hq, h⟩
  · exact .inl h
  · exact .inr ⟨q, hq, .inl h⟩
theorem BgK.bfl {lo base : Nat} {w : World} {GB : Nat} {K : KM} (h : BgK lo base w GB K) {k : Nat} (hk : BF GB K k) : k < w.heap.size := by
  rcases hk with rfl | ⟨q, hq, hk⟩
  · exact h.gl
  · exact (h.kd q hq).lt hk
theorem BgK.bob {lo base : Nat} {w : World} {GB : Nat} {K : KM} (h : BgK lo base w GB K) {k : Nat} (hk : BW GB K k) : base ≤ k := by
  rcases hk with rfl | ⟨q, hq, hk⟩
  · exact h.bs
  · exact h.ow q hq k hk
/-- What an add leaves. -/
def Added (lo base : Nat) (GB : Nat) (K : KM) (T : Nat → Prop) (d : Nat) (w w' : World) : Prop := ∃ K', BgK lo base w' GB K' ∧ Kept (BW GB K) w w' ∧ (∀ k, BF GB K' k → BF GB K k ∨ T k ∨ w.heap.size ≤ k) ∧ (∀ k, BW GB K' k → BW GB K k ∨ w.heap.size ≤ k) ∧ ∀ q, 2 ≤ q → (K' q).2.length ≤ (K q).2.length + d
theorem Added.mono {lo base : Nat} {GB : Nat} {K : KM} {T T' : Nat → Prop} {d d' : Nat} {w w' : World} (h : Added lo base GB K T d w w') (ht : ∀ k, T k → T' k) (hd : d ≤ d') : Added lo base GB K T' d' w w' := by
  obtain ⟨K', h1, h2, h3, h4, h5⟩ := h
  refine ⟨K', h1, h2, fun k hk => ?_, h4, fun q hq => by have := h5 q hq; omega⟩
  rcases h3 k hk with x | x | x
  · exact .inl x
  · exact .inr (.inl (ht k x))
  · exact .inr (.inr x)
theorem Added.then {lo base : Nat} {GB : Nat} {K K1 : KM} {T T2 : Nat → Prop} {d1 d2 : Nat} {w w1 w2 : World} (k1 : Kept (BW GB K) w w1) (f1 : ∀ k, BF GB K1 k → BF GB K k ∨ T k ∨ w.heap.size ≤ k) (o1 : ∀ k, BW GB K1 k → BW GB K k ∨ w.heap.size ≤ k) (l1 : ∀ q, 2 ≤ q → (K1 q).2.length ≤ (K q).2.length + d1) (h2 : Added lo base GB K1 T2 d2 w1 w2) : Added lo base GB K (fun k => T k ∨ T2 k) (d1 + d2) w w2 := by
  obtain ⟨K2, g2, k2, f2, o2, l2⟩ := h2
  have hs := k1.size
  refine ⟨K2, g2, k1.then k2 (fun k hk hx => (o1 k hx).elim id (fun e => absurd e (by omega))), fun k hx => ?_, fun k hx => ?_, fun q hq => by have := l1 q hq; have := l2 q hq; omega⟩
  · rcases f2 k hx with x | x | x
    · rcases f1 k x with y | y | y
      · exact .inl y
      · exact .inr (.inl (.inl y))
      · exact .inr (.inr y)
    · exact .inr (.inl (.inr x))
    · exact .inr (.inr (by omega))
  · rcases o2 k hx with x | x
    · exact o1 k x
    · exact .inr (by omega)
theorem BgK.grow {lo base : Nat} {w w' : World} {GB : Nat} {K : KM} (h : BgK lo base w GB K) {q : Nat} (hq : q < 4) (p : Tl) (hp : p.ok (kSz q) (kE q) lo w) (hl : p.n ≤ 4194304) (hf : ∀ k, p.b = some k → ¬ BF GB K k) (hn : (K q).2.length < 300) {B cap : Nat}
    (hrow : Row w' (kR q) B ((K q).2.length + 1) cap ((K q).2.map Tl.v ++ [.slice p.ad p.n p.c])) (hc : w'.cell? ⟨GB, kC q, none⟩ = some (.slice (some ⟨B, 0, none⟩) ((K q).2.length + 1) cap)) (hor : (K q).1.ownBlock = some B ∨ w.heap.size ≤ B)
    (hcs : ∀ j, j ≠ kC q → w'.cell? ⟨GB, j, none⟩ = w.cell? ⟨GB, j, none⟩) (hk : Kept (fun b => b = GB ∨ (K q).1.ownBlock = some b) w w') (hfs : ∀ j, w'.frozen? ⟨GB, j, none⟩ = w.frozen? ⟨GB, j, none⟩) : Added lo base GB K (fun k => p.b = some k) (if q < 2 then 0 else 1) w w' := by
  have hG := h.gl
  have hb := h.bs
  have hlb := h.lb
  have hKq := updK_same K q (.slice (some ⟨B, 0, none⟩) ((K q).2.length + 1) cap, (K q).2 ++ [p])
  have hKr : ∀ r, r ≠ q → updK K q (.slice (some ⟨B, 0, none⟩) ((K q).2.length + 1) cap, (K q).2 ++ [p]) r = K r := fun r hr => updK_other hr
  generalize updK K q (.slice (some ⟨B, 0, none⟩) ((K q).2.length + 1) cap, (K q).2 ++ [p]) = K' at hKq hKr
  have sn : ∀ k, KF K' q k → KF K q k ∨ p.b = some k ∨ w.heap.size ≤ k := fun k hx => by
    unfold KF at hx; rw [hKq] at hx; exact Kf.snoc hor hx
  have so : ∀ r k, r ≠ q → KF K' r k → KF K r k := fun r k hr hx => by unfold KF at hx; rw [hKr r hr] at hx; exact hx
  have nk : ∀ r, r < 4 → r ≠ q → ∀ k, KF K r k → ¬ (k = GB ∨ (K q).1.ownBlock = some k) := fun r hr hne k hx hy => by
    rcases hy with hy | hy
    · exact h.n r hr k hx hy
    · exact h.dis r q hr hq hne k hx (.inl hy)
  refine ⟨K', ⟨h.lb, h.bs, fun r hr => ?_, fun j a b => (hcs j (b q hq)).trans (h.cz j a b), fun j => (hfs j).trans (h.fz j), fun r hr => ?_, fun r hr => ?_, fun r hr => ?_, fun r hr k hx => ?_, fun r t hr ht hne k hx hy => ?_⟩, hk.mono (fun k hx => ?_), fun k hx => ?_, fun k hx => ?_, fun r hr => ?_⟩
  · by_cases e : r = q
    · subst e; rw [hKq]; exact hc
    · rw [hKr r e, hcs (kC r) (kC_inj hq hr (Ne.symm e))]; exact h.c r hr
  · by_cases e : r = q
    · subst e
      rw [hKq]
      exact (h.kd r hr).snoc (kES hr) (by omega) (h.n r hr) p hp hl (fun k hx e => hf k hx (.inl e)) (fun k hx y => hf k hx (.inr ⟨r, hr, y⟩)) hrow hor hk
    · rw [hKr r e]
      exact (h.kd r hr).kept hk (nk r hr e)
  · by_cases e : r = q
    · subst e
      rw [hKq]
      intro b hb'
      obtain rfl : B = b := by simpa [Value.ownBlock] using hb'
      exact hor.elim (h.ow r hr B) (fun x => by omega)
    · rw [hKr r e]; exact h.ow r hr
  · by_cases e : r = q
    · subst e; rw [hKq]; simp; omega
    · rw [hKr r e]; exact h.nl r hr
  · by_cases e : r = q
    · subst e
      rcases sn k hx with x | x | x
      · exact h.n r hr k x
      · intro e; exact hf k x (.inl e)
      · omega
    · exact h.n r hr k (so r k e hx)
  · by_cases e : r = q
    · subst e
      have hy' := so t k (Ne.symm hne) hy
      rcases sn k hx with x | x | x
      · exact h.dis r t hr ht hne k x hy'
      · exact hf k x (.inr ⟨t, ht, hy'⟩)
      · have := (h.kd t ht).lt hy'; omega
    · have hx' := so r k e hx
      by_cases e2 : t = q
      · subst e2
        rcases sn k hy with x | x | x
        · exact h.dis r t hr ht hne k hx' x
        · exact hf k x (.inr ⟨r, hr, hx'⟩)
        · have := (h.kd r hr).lt hx'; omega
      · exact h.dis r t hr ht hne k hx' (so t k e2 hy)
  · rcases hx with hx | hx
    · exact .inl hx
    · exact .inr ⟨q, hq, hx⟩
  · rcases hx with hx | ⟨r, hr, hx⟩
    · exact .inl (.inl hx)
    · by_cases e : r = q
      · subst e
        rcases sn k hx with x | x | x
        · exact .inl (.inr ⟨r, hr, x⟩)
        · exact .inr (.inl x)
        · exact .inr (.inr x)
      · exact .inl (.inr ⟨r, hr, so r k e hx⟩)
  · rcases hx with hx | ⟨r, hr, hx⟩
    · exact .inl (.inl hx)
    · by_cases e : r = q
      · subst e
        rw [hKq] at hx
        obtain rfl : B = k := by simpa [Value.ownBlock] using hx
        exact hor.elim (fun x => .inl (.inr ⟨r, hr, x⟩)) .inr
      · rw [hKr r e] at hx
        exact .inl (.inr ⟨r, hr, hx⟩)
  · by_cases e : r = q
    · subst e
      rw [hKq, if_neg (by omega)]; simp
    · rw [hKr r e]; omega
theorem BgK.grow2 {lo base : Nat} {w w' : World} {GB : Nat} {K : KM} (h : BgK lo base w GB K) {q : Nat} (hq : q < 4) (p : Tl) (hp : p.ok (kSz q) (kE q) lo w) (hl : p.n ≤ 4194304) (hf : ∀ k, p.b = some k → ¬ BF GB K k) {V : Value} {n : Nat} {xs : List Value} (eV : (K q).1 = V) (en : (K q).2.length = n) (ex : (K q).2.map Tl.v = xs) (hn : n < 300) {B cap : Nat}
    (hrow : Row w' (kR q) B (n + 1) cap (xs ++ [.slice p.ad p.n p.c])) (hc : w'.cell? ⟨GB, kC q, none⟩ = some (.slice (some ⟨B, 0, none⟩) (n + 1) cap)) (hor : V.ownBlock = some B ∨ w.heap.size ≤ B)
    (hcs : ∀ j, j ≠ kC q → w'.cell? ⟨GB, j, none⟩ = w.cell? ⟨GB, j, none⟩) (hk : Kept (fun b => b = GB ∨ V.ownBlock = some b) w w') (hfs : ∀ j, w'.frozen? ⟨GB, j, none⟩ = w.frozen? ⟨GB, j, none⟩) : Added lo base GB K (fun k => p.b = some k) (if q < 2 then 0 else 1) w w' := by
  subst eV; subst en; subst ex
  exact h.grow hq p hp hl hf hn hrow hc hor hcs hk hfs
theorem Added.refl {lo base : Nat} {GB : Nat} {K : KM} {T : Nat → Prop} {d : Nat} {w : World} (h : BgK lo base w GB K) : Added lo base GB K T d w w := ⟨K, h, Kept.refl _ _, fun k hk => .inl hk, fun k hk => .inl hk, fun q _ => by omega⟩

set_option maxHeartbeats 1000000 in
theorem add62 (GB : Nat) (v : Value) (n : Nat) (xs : List Value) (la : Option Addr) (ln lc : Nat) (w : World) (hn : n < 300) (hc : w.cell? ⟨GB, 3, none⟩ = some v) (hf : w.frozen? ⟨GB, 3, none⟩ = false)
    (hown : w.ownsRow 0 23 1 v n xs) (hne : v.ownBlock ≠ some GB) :
    Calls Tryd.prog 62 #[.pointer (some ⟨GB, 0, none⟩), .slice la ln lc] w fun e w' => e = .returned (.tuple #[]) ∧ ∃ B cap, Row w' 23 B (n + 1) cap (xs ++ [.slice la ln lc]) ∧ w'.cell? ⟨GB, 3, none⟩ = some (.slice (some ⟨B, 0, none⟩) (n + 1) cap) ∧
      w'.frozen? ⟨GB, 3, none⟩ = false ∧ B ≠ GB ∧ (v.ownBlock = some B ∨ w.heap.size ≤ B) ∧ (∀ j, j ≠ 3 → w'.cell? ⟨GB, j, none⟩ = w.cell? ⟨GB, j, none⟩) ∧ Kept (fun b => b = GB ∨ v.ownBlock = some b) w w' ∧ (∀ j, w'.frozen? ⟨GB, j, none⟩ = w.frozen? ⟨GB, j, none⟩) := by
  obtain ⟨i24, p0, p1, p2, p3⟩ := info_parts Tryd.inlWords
  obtain ⟨va, vc, rfl, _⟩ := own_sliceM hown
  have hb3 : n + 1 ≤ maxLen := by unfold maxLen; omega
  have hb4 : (n + 1) * 24 ≤ 140737488355328 := by omega
  have HO := hid hown
  have HNE := hid hne
  have HC := hid hc
  have HF := hid hf
  have hk0 := Kept.alloc (fun _ => False) w (.cells #[.slice la ln lc] 23)
  have HK0 := hid hk0
  clear hown hne hk0
  go_enter Tryd.func62, Tryd.ntmps62
  go_wp2_with (first
    | (at_builtin; refine app_cell _ rfl (.tmp 14) (.tmp 16) 38 rfl 23 i24 (.slice none 0 0) 24 Tryd.underlying38 p0 p1 p2 p3 rfl _ n _ rfl (own_keep HO.out fun B hB => HK0.out.block B (own_lt HO.out hB).1 (fun x => x)) ⟨w.heap.size, 0, none⟩ (.slice la ln lc) rfl (by simp [Addr.add]) rfl hb3 hb4 ?_; intro B cap w2 hrow hcase; obtain ⟨d1, d2, d3, d4, d5, d6⟩ := add_step HO.out HNE.out HC.out HF.out _ hrow hcase; have R1 := hid hrow; have D3 := hid d3; have D4 := hid d4; have D5 := hid d5; have D6 := hid d6; clear hrow hcase d3 d4 d5 d6))
  go_end0
  refine ⟨rfl, B, cap, R1.out.keep (heap_setCell_other _ _ _ _ D3.out), World.cell?_setCell_same _ _ _ d1, (World.frozen?_setCell _ _ _ _).trans d2, D3.out, D4.out, fun j hj => ?_, ?_, fun j => ?_⟩
  · rw [World.cell?_setCell_other _ _ _ _ (fun h => hj (congrArg Addr.off h).symm)]
    exact D5.out j
  · have hk := D6.out
    exact ⟨hk.os, hk.tape, hk.output, by rw [World.size_setCell]; exact hk.size, fun k h1 h2 => (heap_setCell_other _ _ _ _ (fun e => h2 (.inl e))).trans (hk.block k h1 (fun e => h2 (.inr e)))⟩
  · rw [World.frozen?_setCell]
    exact frozen_of_block (D6.out.block GB (block_lt_of_cell HC.out) (fun e => HNE.out e)) j

set_option maxHeartbeats 1000000 in
/-- One list more of the kind 0. -/
theorem BgK.addB {lo base : Nat} {w : World} {GB : Nat} {K : KM} (h : BgK lo base w GB K) (p : Tl) (hp : p.ok 1 5 lo w) (hl : p.n ≤ 4194304) (hf : ∀ k, p.b = some k → ¬ BF GB K k) :
    Calls Tryd.prog 10 #[.pointer (some ⟨GB, 0, none⟩), .slice p.ad p.n p.c] w fun e w' => e = .returned (.tuple #[]) ∧ Added lo base GB K (fun k => p.b = some k) 0 w w' := by
  by_cases hn : (K 0).2.length < 300
  · refine (add42 GB (K 0).1 (K 0).2.length ((K 0).2.map Tl.v) p.ad p.n p.c w hn (h.c 0 (by omega)) (h.fz 0) (h.kd 0 (by omega)).own (fun e => h.n 0 (by omega) GB (.inl e) rfl)).mono ?_
    rintro e w' ⟨rfl, B, cap, hrow, hc0, hf1, hBG, hor, hcs, hk, hfs⟩
    exact ⟨rfl, h.grow (q := 0) (by omega) p hp hl hf hn hrow hc0 hor hcs hk hfs⟩
  · have hc : w.cell? ⟨GB, 0, none⟩ = some (K 0).1 := h.c 0 (by omega)
    obtain ⟨va, vc, hv, _⟩ := own_sliceM (h.kd 0 (by omega)).own
    rw [hv] at hc
    generalize (K 0).2.length = N at *
    have hn' : ¬ (N : Int) < 300 := by omega
    have H := hid h
    clear h hp hf hv
    go_enter Tryd.func10, Tryd.ntmps10
    go_wp2_with fail
    go_end0
    exact ⟨rfl, Added.refl H.out⟩

set_option maxHeartbeats 1000000 in
/-- One list more of the kind 1. -/
theorem BgK.addW {lo base : Nat} {w : World} {GB : Nat} {K : KM} (h : BgK lo base w GB K) (p : Tl) (hp : p.ok 1 63 lo w) (hl : p.n ≤ 4194304) (hf : ∀ k, p.b = some k → ¬ BF GB K k) :
    Calls Tryd.prog 62 #[.pointer (some ⟨GB, 0, none⟩), .slice p.ad p.n p.c] w fun e w' => e = .returned (.tuple #[]) ∧ Added lo base GB K (fun k => p.b = some k) 0 w w' := by
  by_cases hn : (K 1).2.length < 300
  · refine (add62 GB (K 1).1 (K 1).2.length ((K 1).2.map Tl.v) p.ad p.n p.c w hn (h.c 1 (by omega)) (h.fz 3) (h.kd 1 (by omega)).own (fun e => h.n 1 (by omega) GB (.inl e) rfl)).mono ?_
    rintro e w' ⟨rfl, B, cap, hrow, hc0, hf1, hBG, hor, hcs, hk, hfs⟩
    exact ⟨rfl, h.grow (q := 1) (by omega) p hp hl hf hn hrow hc0 hor hcs hk hfs⟩
  · have hc : w.cell? ⟨GB, 3, none⟩ = some (K 1).1 := h.c 1 (by omega)
    obtain ⟨va, vc, hv, _⟩ := own_sliceM (h.kd 1 (by omega)).own
    rw [hv] at hc
    generalize (K 1).2.length = N at *
    have hn' : ¬ (N : Int) < 300 := by omega
    have H := hid h
    clear h hp hf hv
    go_enter Tryd.func62, Tryd.ntmps62
    go_wp2_with fail
    go_end0
    exact ⟨rfl, Added.refl H.out⟩
end Go.Proofs.YtbdjghokedfkfaaDoor

/-
  The bag of four kinds: AddFrame, AddFrames, AddPages, AddState, Apart.
-/
namespace Go.Proofs.YtbdjghokedfkfaaDoor
open Go.RowKit
set_option linter.unusedVariables false
set_option maxRecDepth 100000
theorem BgK.box {lo base : Nat} {w : World} {GB : Nat} {K : KM} (h : BgK lo base w GB K) (o : Obj) : BgK lo base (w.alloc o) GB K := h.kept (S := fun _ => False) (Kept.alloc _ w o) (fun _ _ x => x)
/-- A block made ahead of an add. -/
theorem Added.boxed {lo base : Nat} {GB : Nat} {K : KM} {T : Nat → Prop} {d : Nat} {w w2 : World} {o : Obj} (h : Added lo base GB K T d (w.alloc o) w2) : Added lo base GB K T d w w2 :=
  (Added.then (T := fun _ => False) (d1 := 0) (Kept.alloc _ w o) (fun k hk => .inl hk) (fun k hk => .inl hk) (fun q _ => by omega) h).mono (fun k hk => hk.elim False.elim id) (by omega)
set_option maxHeartbeats 1000000 in
theorem BgK.addFr {lo base : Nat} {w : World} {GB : Nat} {K : KM} (h : BgK lo base w GB K) (a b : Int) (p1 p2 : Tl) (hp1 : p1.ok 1 63 lo w) (hp2 : p2.ok 1 63 lo w) (l1 : p1.n ≤ 4194304) (l2 : p2.n ≤ 4194304) (f1 : ∀ k, p1.b = some k → ¬ BF GB K k) (f2 : ∀ k, p2.b = some k → ¬ BF GB K k ∧ p1.b ≠ some k ∧ k < w.heap.size) :
    Calls Tryd.prog 87 #[.pointer (some ⟨GB, 0, none⟩), .agg #[.int .i64 a, .int .i64 b, .slice p1.ad p1.n p1.c, .slice p2.ad p2.n p2.c]] w fun e w' => e = .returned (.tuple #[]) ∧ Added lo base GB K (fun k => p1.b = some k ∨ p2.b = some k) 0 w w' := by
  have hb0 := h.box (.cells #[.int .i64 a, .int .i64 b, .slice p1.ad p1.n p1.c, .slice p2.ad p2.n p2.c] 66)
  have hk0 := Kept.alloc (fun _ => False) w (.cells #[.int .i64 a, .int .i64 b, .slice p1.ad p1.n p1.c, .slice p2.ad p2.n p2.c] 66)
  have A1 := hid (hb0.addW p1 (hp1.kept hk0 (fun _ _ x => x)) l1 f1)
  have x2 : (w.alloc (.cells #[.int .i64 a, .int .i64 b, .slice p1.ad p1.n p1.c, .slice p2.ad p2.n p2.c] 66)).cell? ⟨w.heap.size, 2, none⟩ = some (.slice p1.ad p1.n p1.c) := cell_at (nb_new w _)
  have X3 := hid (show (w.alloc (.cells #[.int .i64 a, .int .i64 b, .slice p1.ad p1.n p1.c, .slice p2.ad p2.n p2.c] 66)).cell? ⟨w.heap.size, 3, none⟩ = some (.slice p2.ad p2.n p2.c) from cell_at (nb_new w _))
  have HP2 := hid (hp2.kept hk0 (fun _ _ x => x))
  have HB := hid (show ∀ k, BW GB K k → k < w.heap.size from fun k hk => h.bfl hk.bf)
  have F2 := hid f2
  have SZ := hid (show (w.alloc (.cells #[.int .i64 a, .int .i64 b, .slice p1.ad p1.n p1.c, .slice p2.ad p2.n p2.c] 66)).heap.size = w.heap.size + 1 by simp)
  have BX := hid (fun (T : Nat → Prop) (w2 : World) (d : Nat) (hx : Added lo base GB K T d (w.alloc (.cells #[.int .i64 a, .int .i64 b, .slice p1.ad p1.n p1.c, .slice p2.ad p2.n p2.c] 66)) w2) => hx.boxed)
  clear h hp1 hp2 f1 f2 hb0 hk0
  go_enter Tryd.func87, Tryd.ntmps87
  go_wp2_with fail
  generalize w.alloc (.cells #[.int .i64 a, .int .i64 b, .slice p1.ad p1.n p1.c, .slice p2.ad p2.n p2.c] 66) = W1 at *
  refine A1.out.mono ?_
  rintro e w2 ⟨rfl, K1, g1, k1, f1, o1, n1⟩
  have x3 := k1.cell X3.out (fun hx => by have := HB.out _ hx; omega)
  have A2 := hid (g1.addW p2 (HP2.out.kept k1 (fun k hk hx => (F2.out k hk).1 hx.bf)) l2 (fun k hk hx => by
    have hz := SZ.out
    have hy := F2.out k hk
    rcases f1 k hx with y | y | y
    · exact hy.1 y
    · exact hy.2.1 y
    · omega))
  have TH := hid (fun (w3 : World) (hx : Added lo base GB K1 (fun k => p2.b = some k) 0 w2 w3) => BX.out _ _ _ (Added.then k1 f1 o1 n1 hx))
  clear A1 g1 k1 f1 o1 n1 x2 X3
  go_wp2_with fail
  refine A2.out.mono ?_
  rintro e w3 ⟨rfl, hx⟩
  go_wp2_with fail
  go_end0
  exact ⟨rfl, TH.out _ hx⟩
/-- The blocks of the first i frames, and their row's. -/
def TF (B8 : Nat) (P1 P2 : Nat → Tl) (i k : Nat) : Prop := k = B8 ∨ ∃ j, j < i ∧ ((P1 j).b = some k ∨ (P2 j).b = some k)
set_option maxHeartbeats 4000000 in
theorem BgK.addF {lo base : Nat} {w : World} {GB : Nat} {K : KM} (h : BgK lo base w GB K) (B8 N : Nat) (A Bi : Nat → Int) (P1 P2 : Nat → Tl) (hN : N ≤ 300) (hl2 : (K 2).2.length < 300) (hp : (⟨some B8, N, N⟩ : Tl).ok 4 66 lo w) (hB : ¬ BF GB K B8)
    (hc : ∀ i, i < N → w.cell? ⟨B8, i * 4, none⟩ = some (.int .i64 (A i)) ∧ w.cell? ⟨B8, i * 4 + 1, none⟩ = some (.int .i64 (Bi i)) ∧ w.cell? ⟨B8, i * 4 + 2, none⟩ = some (.slice (P1 i).ad (P1 i).n (P1 i).c) ∧ w.cell? ⟨B8, i * 4 + 3, none⟩ = some (.slice (P2 i).ad (P2 i).n (P2 i).c))
    (h1 : ∀ i, i < N → (P1 i).ok 1 63 lo w ∧ (P1 i).n ≤ 4194304) (h2 : ∀ i, i < N → (P2 i).ok 1 63 lo w ∧ (P2 i).n ≤ 4194304)
    (f1 : ∀ i k, i < N → (P1 i).b = some k → ¬ BF GB K k ∧ k ≠ B8 ∧ k < w.heap.size ∧ ∀ j, j < i → (P1 j).b ≠ some k ∧ (P2 j).b ≠ some k)
    (f2 : ∀ i k, i < N → (P2 i).b = some k → ¬ BF GB K k ∧ k ≠ B8 ∧ k < w.heap.size ∧ (P1 i).b ≠ some k ∧ ∀ j, j < i → (P1 j).b ≠ some k ∧ (P2 j).b ≠ some k) :
    Calls Tryd.prog 61 #[.pointer (some ⟨GB, 0, none⟩), .slice (some ⟨B8, 0, none⟩) N N] w fun e w' => e = .returned (.tuple #[]) ∧ Added lo base GB K (TF B8 P1 P2 N) 1 w w' := by
  obtain ⟨i24, p0, p1, p2, p3⟩ := info_parts Tryd.inlFr
  have hown : w.ownsRow 0 22 1 (K 2).1 (K 2).2.length ((K 2).2.map Tl.v) := (h.kd 2 (by omega)).own
  obtain ⟨V, hV⟩ : ∃ V, (K 2).1 = V := ⟨_, rfl⟩
  obtain ⟨n, hn⟩ : ∃ n, (K 2).2.length = n := ⟨_, rfl⟩
  obtain ⟨xs, hxs⟩ : ∃ xs, (K 2).2.map Tl.v = xs := ⟨_, rfl⟩
  have hcc : w.cell? ⟨GB, 13, none⟩ = some V := hV ▸ h.c 2 (by omega)
  have hff : w.frozen? ⟨GB, 13, none⟩ = false := h.fz 13
  have hne : V.ownBlock ≠ some GB := fun e => h.n 2 (by omega) GB (.inl (hV ▸ e)) rfl
  rw [hV, hn, hxs] at hown
  rw [hn] at hl2
  obtain ⟨va, vc, rfl, _⟩ := own_sliceM hown
  have hb3 : n + 1 ≤ maxLen := by unfold maxLen; omega
  have hb4 : (n + 1) * 24 ≤ 140737488355328 := by omega
  have hl2' : (n : Int) < 300 := by omega
  have HO := hid hown
  have HNE := hid hne
  have HC := hid hcc
  have HF := hid hff
  have HCL := hid hc
  have H := hid h
  have HP := hid hp
  have EV := hid hV
  have EN := hid hn
  have EX := hid hxs
  have HBN := hid hB
  have NB := hid (show ¬ BW GB K B8 from fun hx => hB hx.bf)
  have hk0 := Kept.alloc (fun _ => False) w (.cells #[.slice (some ⟨B8, 0, none⟩) N N] 22)
  have HK0 := hid hk0
  have H1 := hid h1
  have H2 := hid h2
  have F1 := hid f1
  have F2 := hid f2
  clear h1 h2 f1 f2
  clear h hp hB hc hV hn hxs hown hne hk0
  go_enter Tryd.func61, Tryd.ntmps61
  go_wp2_with (first
    | (at_builtin; refine app_cell _ rfl (.tmp 15) (.tmp 17) 48 rfl 22 i24 (.slice none 0 0) 24 Tryd.underlying48 p0 p1 p2 p3 rfl _ n _ rfl (own_keep HO.out fun B hB => HK0.out.block B (own_lt HO.out hB).1 (fun x => x)) ⟨w.heap.size, 0, none⟩ (.slice (some ⟨B8, 0, none⟩) N N) rfl (by simp [Addr.add]) rfl hb3 hb4 ?_; intro B cap w2 hrow hcase; obtain ⟨d1, d2, d3, d4, d5, d6⟩ := add_step HO.out HNE.out HC.out HF.out _ hrow hcase; have R1 := hid hrow; have D3 := hid d3; have D4 := hid d4; have D5 := hid d5; have D6 := hid d6; clear hrow hcase d3 d4 d5 d6))
  have AD := hid (show Added lo base GB K (TF B8 P1 P2 0) 1 w (w2.setCell ⟨GB, 13, none⟩ (.slice (some ⟨B, 0, none⟩) (n + 1) cap)) from
    (H.out.grow2 (q := 2) (by omega) ⟨some B8, N, N⟩ HP.out (by show N ≤ _; omega) (fun k hk => by obtain rfl := Option.some.inj hk; exact HBN.out) EV.out EN.out EX.out hl2 (R1.out.keep (heap_setCell_other _ _ _ _ D3.out)) (World.cell?_setCell_same _ _ _ d1) D4.out
      (fun j hj => by
        rw [World.cell?_setCell_other _ _ _ _ (fun h => hj (congrArg Addr.off h).symm)]
        exact D5.out j)
      (by
        have hk := D6.out
        exact ⟨hk.os, hk.tape, hk.output, by rw [World.size_setCell]; exact hk.size, fun k h1 h2 => (heap_setCell_other _ _ _ _ (fun e => h2 (.inl e))).trans (hk.block k h1 (fun e => h2 (.inr e)))⟩)
      (fun j => by
        rw [World.frozen?_setCell]
        exact frozen_of_block (D6.out.block GB (block_lt_of_cell HC.out) (fun e => HNE.out e)) j)).mono (fun k hk => .inl (Option.some.inj hk).symm) (by decide))
  generalize w2.setCell ⟨GB, 13, none⟩ (.slice (some ⟨B, 0, none⟩) (n + 1) cap) = w3 at *
  clear d1 d2 hcc hff p0 p1 p2 p3 hb3 hb4 HK0 R1 D3 D4 D5 D6 HO HNE HC HF EV EN EX HP HBN
  go_loopw [4] (fun i wr => ∃ j : Nat, j ≤ N ∧ i = .int .i64 j ∧ Hid (Added lo base GB K (TF B8 P1 P2 j) 1 w wr)) (fun i _ => N - (intOf i).toNat)
  case atStart => exact ⟨0, by omega, rfl, AD⟩
  case round =>
    obtain ⟨j, hj, rfl, HX⟩ := hrel
    clear AD
    by_cases hlt : j < N
    · obtain ⟨K1, g1, k1, q1, o1, n1⟩ := HX.out
      obtain ⟨d0, d1, d2, d3⟩ := HCL.out j hlt
      have e0 := k1.cell d0 NB.out
      have e1 := k1.cell d1 NB.out
      have e2 := k1.cell d2 NB.out
      have e3 := k1.cell d3 NB.out
      have hs1 := k1.size
      have CA := hid (g1.addFr (A j) (Bi j) (P1 j) (P2 j) ((H1.out j hlt).1.kept k1 (fun k hk hx => (F1.out j k hlt hk).1 hx.bf)) ((H2.out j hlt).1.kept k1 (fun k hk hx => (F2.out j k hlt hk).1 hx.bf)) (H1.out j hlt).2 (H2.out j hlt).2
        (fun k hk hx => by
          have hy := F1.out j k hlt hk
          rcases q1 k hx with y | y | y
          · exact hy.1 y
          · rcases y with y | ⟨t, ht, y⟩
            · exact hy.2.1 y
            · exact y.elim (hy.2.2.2 t ht).1 (hy.2.2.2 t ht).2
          · have := hy.2.2.1; omega)
        (fun k hk => by
          have hy := F2.out j k hlt hk
          refine ⟨fun hx => ?_, hy.2.2.2.1, by have := hy.2.2.1; omega⟩
          rcases q1 k hx with y | y | y
          · exact hy.1 y
          · rcases y with y | ⟨t, ht, y⟩
            · exact hy.2.1 y
            · exact y.elim (hy.2.2.2.2 t ht).1 (hy.2.2.2.2 t ht).2
          · have := hy.2.2.1; omega))
      have TH := hid (fun (w3 : World) (hx : Added lo base GB K1 (fun k => (P1 j).b = some k ∨ (P2 j).b = some k) 0 wr w3) => (Added.then k1 q1 o1 n1 hx).mono (T' := TF B8 P1 P2 (j + 1)) (d' := 1) (fun k hk => by
        rcases hk with (hk | ⟨t, ht, hk⟩) | hk
        · exact .inl hk
        · exact .inr ⟨t, by omega, hk⟩
        · exact .inr ⟨j, by omega, hk⟩) (by omega))
      clear d0 d1 d2 d3
      have hlt' : (j : Int) < N := by omega
      have h300 : (j : Int) < 300 := by omega
      have hd3 : decide ((j : Int) < 300) = true := by simpa using h300
      clear g1 k1 q1 o1 n1 HX hs1
      go_wp2_with fail
      refine CA.out.mono ?_
      rintro e w4 ⟨rfl, hx⟩
      have AN := hid (TH.out _ hx)
      clear hx CA TH
      go_wp2_with fail
      exact ⟨⟨j + 1, by omega, by go_num, AN⟩, by simp [intOf]; omega⟩
    · obtain rfl : j = N := by omega
      have hlt' : ¬ (j : Int) < j := by omega
      go_wp2_with fail
      go_end0
      exact ⟨rfl, HX.out⟩
/-- The blocks of the first i pages, and their row's. -/
def TP (B7 : Nat) (P : Nat → Tl) (i k : Nat) : Prop := k = B7 ∨ ∃ j, j < i ∧ (P j).b = some k
set_option maxHeartbeats 4000000 in
theorem BgK.addP {lo base : Nat} {w : World} {GB : Nat} {K : KM} (h : BgK lo base w GB K) (B7 N : Nat) (P : Nat → Tl) (hN : N ≤ 300) (hl2 : (K 3).2.length < 300) (hp : (⟨some B7, N, N⟩ : Tl).ok 1 31 lo w) (hB : ¬ BF GB K B7)
    (hc : ∀ i, i < N → w.cell? ⟨B7, i, none⟩ = some (.slice (P i).ad (P i).n (P i).c))
    (h1 : ∀ i, i < N → (P i).ok 1 5 lo w ∧ (P i).n ≤ 4194304)
    (f1 : ∀ i k, i < N → (P i).b = some k → ¬ BF GB K k ∧ k ≠ B7 ∧ k < w.heap.size ∧ ∀ j, j < i → (P j).b ≠ some k) :
    Calls Tryd.prog 63 #[.pointer (some ⟨GB, 0, none⟩), .slice (some ⟨B7, 0, none⟩) N N] w fun e w' => e = .returned (.tuple #[]) ∧ Added lo base GB K (TP B7 P N) 1 w w' := by
  obtain ⟨i24, p0, p1, p2, p3⟩ := info_parts Tryd.inlPages
  have hown : w.ownsRow 0 24 1 (K 3).1 (K 3).2.length ((K 3).2.map Tl.v) := (h.kd 3 (by omega)).own
  obtain ⟨V, hV⟩ : ∃ V, (K 3).1 = V := ⟨_, rfl⟩
  obtain ⟨n, hn⟩ : ∃ n, (K 3).2.length = n := ⟨_, rfl⟩
  obtain ⟨xs, hxs⟩ : ∃ xs, (K 3).2.map Tl.v = xs := ⟨_, rfl⟩
  have hcc : w.cell? ⟨GB, 15, none⟩ = some V := hV ▸ h.c 3 (by omega)
  have hff : w.frozen? ⟨GB, 15, none⟩ = false := h.fz 15
  have hne : V.ownBlock ≠ some GB := fun e => h.n 3 (by omega) GB (.inl (hV ▸ e)) rfl
  rw [hV, hn, hxs] at hown
  rw [hn] at hl2
  obtain ⟨va, vc, rfl, _⟩ := own_sliceM hown
  have hb3 : n + 1 ≤ maxLen := by unfold maxLen; omega
  have hb4 : (n + 1) * 24 ≤ 140737488355328 := by omega
  have hl2' : (n : Int) < 300 := by omega
  have HO := hid hown
  have HNE := hid hne
  have HC := hid hcc
  have HF := hid hff
  have HCL := hid hc
  have H := hid h
  have HP := hid hp
  have EV := hid hV
  have EN := hid hn
  have EX := hid hxs
  have HBN := hid hB
  have NB := hid (show ¬ BW GB K B7 from fun hx => hB hx.bf)
  have hk0 := Kept.alloc (fun _ => False) w (.cells #[.slice (some ⟨B7, 0, none⟩) N N] 24)
  have HK0 := hid hk0
  have H1 := hid h1
  have F1 := hid f1
  clear h1 f1
  clear h hp hB hc hV hn hxs hown hne hk0
  go_enter Tryd.func63, Tryd.ntmps63
  go_wp2_with (first
    | (at_builtin; refine app_cell _ rfl (.tmp 15) (.tmp 17) 50 rfl 24 i24 (.slice none 0 0) 24 Tryd.underlying50 p0 p1 p2 p3 rfl _ n _ rfl (own_keep HO.out fun B hB => HK0.out.block B (own_lt HO.out hB).1 (fun x => x)) ⟨w.heap.size, 0, none⟩ (.slice (some ⟨B7, 0, none⟩) N N) rfl (by simp [Addr.add]) rfl hb3 hb4 ?_; intro B cap w2 hrow hcase; obtain ⟨d1, d2, d3, d4, d5, d6⟩ := add_step HO.out HNE.out HC.out HF.out _ hrow hcase; have R1 := hid hrow; have D3 := hid d3; have D4 := hid d4; have D5 := hid d5; have D6 := hid d6; clear hrow hcase d3 d4 d5 d6))
  have AD := hid (show Added lo base GB K (TP B7 P 0) 1 w (w2.setCell ⟨GB, 15, none⟩ (.slice (some ⟨B, 0, none⟩) (n + 1) cap)) from
    (H.out.grow2 (q := 3) (by omega) ⟨some B7, N, N⟩ HP.out (by show N ≤ _; omega) (fun k hk => by obtain rfl := Option.some.inj hk; exact HBN.out) EV.out EN.out EX.out hl2 (R1.out.keep (heap_setCell_other _ _ _ _ D3.out)) (World.cell?_setCell_same _ _ _ d1) D4.out
      (fun j hj => by
        rw [World.cell?_setCell_other _ _ _ _ (fun h => hj (congrArg Addr.off h).symm)]
        exact D5.out j)
      (by
        have hk := D6.out
        exact ⟨hk.os, hk.tape, hk.output, by rw [World.size_setCell]; exact hk.size, fun k h1 h2 => (heap_setCell_other _ _ _ _ (fun e => h2 (.inl e))).trans (hk.block k h1 (fun e => h2 (.inr e)))⟩)
      (fun j => by
        rw [World.frozen?_setCell]
        exact frozen_of_block (D6.out.block GB (block_lt_of_cell HC.out) (fun e => HNE.out e)) j)).mono (fun k hk => .inl (Option.some.inj hk).symm) (by decide))
  generalize w2.setCell ⟨GB, 15, none⟩ (.slice (some ⟨B, 0, none⟩) (n + 1) cap) = w3 at *
  clear d1 d2 hcc hff p0 p1 p2 p3 hb3 hb4 HK0 R1 D3 D4 D5 D6 HO HNE HC HF EV EN EX HP HBN
  go_loopw [4] (fun i wr => ∃ j : Nat, j ≤ N ∧ i = .int .i64 j ∧ Hid (Added lo base GB K (TP B7 P j) 1 w wr)) (fun i _ => N - (intOf i).toNat)
  case atStart => exact ⟨0, by omega, rfl, AD⟩
  case round =>
    obtain ⟨j, hj, rfl, HX⟩ := hrel
    clear AD
    by_cases hlt : j < N
    · obtain ⟨K1, g1, k1, q1, o1, n1⟩ := HX.out
      have d0 := HCL.out j hlt
      have e0 := k1.cell d0 NB.out
      have hs1 := k1.size
      have CA := hid (g1.addB (P j) ((H1.out j hlt).1.kept k1 (fun k hk hx => (F1.out j k hlt hk).1 hx.bf)) (H1.out j hlt).2
        (fun k hk hx => by
          have hy := F1.out j k hlt hk
          rcases q1 k hx with y | y | y
          · exact hy.1 y
          · rcases y with y | ⟨t, ht, y⟩
            · exact hy.2.1 y
            · exact hy.2.2.2 t ht y
          · have := hy.2.2.1; omega))
      have TH := hid (fun (w3 : World) (hx : Added lo base GB K1 (fun k => (P j).b = some k) 0 wr w3) => (Added.then k1 q1 o1 n1 hx).mono (T' := TP B7 P (j + 1)) (d' := 1) (fun k hk => by
        rcases hk with (hk | ⟨t, ht, hk⟩) | hk
        · exact .inl hk
        · exact .inr ⟨t, by omega, hk⟩
        · exact .inr ⟨j, by omega, hk⟩) (by omega))
      clear d0
      have hlt' : (j : Int) < N := by omega
      have h300 : (j : Int) < 300 := by omega
      have hd3 : decide ((j : Int) < 300) = true := by simpa using h300
      clear g1 k1 q1 o1 n1 HX hs1
      go_wp2_with fail
      refine CA.out.mono ?_
      rintro e w4 ⟨rfl, hx⟩
      have AN := hid (TH.out _ hx)
      clear hx CA TH
      go_wp2_with fail
      exact ⟨⟨j + 1, by omega, by go_num, AN⟩, by simp [intOf]; omega⟩
    · obtain rfl : j = N := by omega
      have hlt' : ¬ (j : Int) < j := by omega
      go_wp2_with fail
      go_end0
      exact ⟨rfl, HX.out⟩
set_option maxHeartbeats 4000000 in
theorem BgK.addF0 {lo base : Nat} {w : World} {GB : Nat} {K : KM} (h : BgK lo base w GB K) (hl2 : (K 2).2.length < 300) :
    Calls Tryd.prog 61 #[.pointer (some ⟨GB, 0, none⟩), .slice none 0 0] w fun e w' => e = .returned (.tuple #[]) ∧ Added lo base GB K (fun _ => False) 1 w w' := by
  obtain ⟨i24, p0, p1, p2, p3⟩ := info_parts Tryd.inlFr
  have hown : w.ownsRow 0 22 1 (K 2).1 (K 2).2.length ((K 2).2.map Tl.v) := (h.kd 2 (by omega)).own
  obtain ⟨V, hV⟩ : ∃ V, (K 2).1 = V := ⟨_, rfl⟩
  obtain ⟨n, hn⟩ : ∃ n, (K 2).2.length = n := ⟨_, rfl⟩
  obtain ⟨xs, hxs⟩ : ∃ xs, (K 2).2.map Tl.v = xs := ⟨_, rfl⟩
  have hcc : w.cell? ⟨GB, 13, none⟩ = some V := hV ▸ h.c 2 (by omega)
  have hff : w.frozen? ⟨GB, 13, none⟩ = false := h.fz 13
  have hne : V.ownBlock ≠ some GB := fun e => h.n 2 (by omega) GB (.inl (hV ▸ e)) rfl
  rw [hV, hn, hxs] at hown
  rw [hn] at hl2
  obtain ⟨va, vc, rfl, _⟩ := own_sliceM hown
  have hb3 : n + 1 ≤ maxLen := by unfold maxLen; omega
  have hb4 : (n + 1) * 24 ≤ 140737488355328 := by omega
  have hl2' : (n : Int) < 300 := by omega
  have HO := hid hown
  have HNE := hid hne
  have HC := hid hcc
  have HF := hid hff
  have H := hid h
  have EV := hid hV
  have EN := hid hn
  have EX := hid hxs
  have hk0 := Kept.alloc (fun _ => False) w (.cells #[.slice none 0 0] 22)
  have HK0 := hid hk0
  clear h hV hn hxs hown hne hk0
  go_enter Tryd.func61, Tryd.ntmps61
  go_wp2_with (first
    | (at_builtin; refine app_cell _ rfl (.tmp 15) (.tmp 17) 48 rfl 22 i24 (.slice none 0 0) 24 Tryd.underlying48 p0 p1 p2 p3 rfl _ n _ rfl (own_keep HO.out fun B hB => HK0.out.block B (own_lt HO.out hB).1 (fun x => x)) ⟨w.heap.size, 0, none⟩ (.slice none 0 0) rfl (by simp [Addr.add]) rfl hb3 hb4 ?_; intro B cap w2 hrow hcase; obtain ⟨d1, d2, d3, d4, d5, d6⟩ := add_step HO.out HNE.out HC.out HF.out _ hrow hcase; have R1 := hid hrow; have D3 := hid d3; have D4 := hid d4; have D5 := hid d5; have D6 := hid d6; clear hrow hcase d3 d4 d5 d6))
  have AD := hid (show Added lo base GB K (fun _ => False) 1 w (w2.setCell ⟨GB, 13, none⟩ (.slice (some ⟨B, 0, none⟩) (n + 1) cap)) from
    (H.out.grow2 (q := 2) (by omega) ⟨none, 0, 0⟩ (.inr ⟨rfl, rfl, rfl⟩) (by show 0 ≤ _; omega) (fun k hk => by cases hk) EV.out EN.out EX.out hl2 (R1.out.keep (heap_setCell_other _ _ _ _ D3.out)) (World.cell?_setCell_same _ _ _ d1) D4.out
      (fun j hj => by
        rw [World.cell?_setCell_other _ _ _ _ (fun h => hj (congrArg Addr.off h).symm)]
        exact D5.out j)
      (by
        have hk := D6.out
        exact ⟨hk.os, hk.tape, hk.output, by rw [World.size_setCell]; exact hk.size, fun k h1 h2 => (heap_setCell_other _ _ _ _ (fun e => h2 (.inl e))).trans (hk.block k h1 (fun e => h2 (.inr e)))⟩)
      (fun j => by
        rw [World.frozen?_setCell]
        exact frozen_of_block (D6.out.block GB (block_lt_of_cell HC.out) (fun e => HNE.out e)) j)).mono (fun k hk => by cases hk) (by decide))
  generalize w2.setCell ⟨GB, 13, none⟩ (.slice (some ⟨B, 0, none⟩) (n + 1) cap) = w3 at *
  clear d1 d2 hcc hff p0 p1 p2 p3 hb3 hb4 HK0 R1 D3 D4 D5 D6 HO HNE HC HF EV EN EX
  refine wp_loop_rounds 1 ?_
  rw [rounds_succ]
  go_wp2_with fail
  go_end0
  exact ⟨rfl, AD.out⟩
set_option maxHeartbeats 4000000 in
theorem BgK.addP0 {lo base : Nat} {w : World} {GB : Nat} {K : KM} (h : BgK lo base w GB K) (hl2 : (K 3).2.length < 300) :
    Calls Tryd.prog 63 #[.pointer (some ⟨GB, 0, none⟩), .slice none 0 0] w fun e w' => e = .returned (.tuple #[]) ∧ Added lo base GB K (fun _ => False) 1 w w' := by
  obtain ⟨i24, p0, p1, p2, p3⟩ := info_parts Tryd.inlPages
  have hown : w.ownsRow 0 24 1 (K 3).1 (K 3).2.length ((K 3).2.map Tl.v) := (h.kd 3 (by omega)).own
  obtain ⟨V, hV⟩ : ∃ V, (K 3).1 = V := ⟨_, rfl⟩
  obtain ⟨n, hn⟩ : ∃ n, (K 3).2.length = n := ⟨_, rfl⟩
  obtain ⟨xs, hxs⟩ : ∃ xs, (K 3).2.map Tl.v = xs := ⟨_, rfl⟩
  have hcc : w.cell? ⟨GB, 15, none⟩ = some V := hV ▸ h.c 3 (by omega)
  have hff : w.frozen? ⟨GB, 15, none⟩ = false := h.fz 15
  have hne : V.ownBlock ≠ some GB := fun e => h.n 3 (by omega) GB (.inl (hV ▸ e)) rfl
  rw [hV, hn, hxs] at hown
  rw [hn] at hl2
  obtain ⟨va, vc, rfl, _⟩ := own_sliceM hown
  have hb3 : n + 1 ≤ maxLen := by unfold maxLen; omega
  have hb4 : (n + 1) * 24 ≤ 140737488355328 := by omega
  have hl2' : (n : Int) < 300 := by omega
  have HO := hid hown
  have HNE := hid hne
  have HC := hid hcc
  have HF := hid hff
  have H := hid h
  have EV := hid hV
  have EN := hid hn
  have EX := hid hxs
  have hk0 := Kept.alloc (fun _ => False) w (.cells #[.slice none 0 0] 24)
  have HK0 := hid hk0
  clear h hV hn hxs hown hne hk0
  go_enter Tryd.func63, Tryd.ntmps63
  go_wp2_with (first
    | (at_builtin; refine app_cell _ rfl (.tmp 15) (.tmp 17) 50 rfl 24 i24 (.slice none 0 0) 24 Tryd.underlying50 p0 p1 p2 p3 rfl _ n _ rfl (own_keep HO.out fun B hB => HK0.out.block B (own_lt HO.out hB).1 (fun x => x)) ⟨w.heap.size, 0, none⟩ (.slice none 0 0) rfl (by simp [Addr.add]) rfl hb3 hb4 ?_; intro B cap w2 hrow hcase; obtain ⟨d1, d2, d3, d4, d5, d6⟩ := add_step HO.out HNE.out HC.out HF.out _ hrow hcase; have R1 := hid hrow; have D3 := hid d3; have D4 := hid d4; have D5 := hid d5; have D6 := hid d6; clear hrow hcase d3 d4 d5 d6))
  have AD := hid (show Added lo base GB K (fun _ => False) 1 w (w2.setCell ⟨GB, 15, none⟩ (.slice (some ⟨B, 0, none⟩) (n + 1) cap)) from
    (H.out.grow2 (q := 3) (by omega) ⟨none, 0, 0⟩ (.inr ⟨rfl, rfl, rfl⟩) (by show 0 ≤ _; omega) (fun k hk => by cases hk) EV.out EN.out EX.out hl2 (R1.out.keep (heap_setCell_other _ _ _ _ D3.out)) (World.cell?_setCell_same _ _ _ d1) D4.out
      (fun j hj => by
        rw [World.cell?_setCell_other _ _ _ _ (fun h => hj (congrArg Addr.off h).symm)]
        exact D5.out j)
      (by
        have hk := D6.out
        exact ⟨hk.os, hk.tape, hk.output, by rw [World.size_setCell]; exact hk.size, fun k h1 h2 => (heap_setCell_other _ _ _ _ (fun e => h2 (.inl e))).trans (hk.block k h1 (fun e => h2 (.inr e)))⟩)
      (fun j => by
        rw [World.frozen?_setCell]
        exact frozen_of_block (D6.out.block GB (block_lt_of_cell HC.out) (fun e => HNE.out e)) j)).mono (fun k hk => by cases hk) (by decide))
  generalize w2.setCell ⟨GB, 15, none⟩ (.slice (some ⟨B, 0, none⟩) (n + 1) cap) = w3 at *
  clear d1 d2 hcc hff p0 p1 p2 p3 hb3 hb4 HK0 R1 D3 D4 D5 D6 HO HNE HC HF EV EN EX
  refine wp_loop_rounds 1 ?_
  rw [rounds_succ]
  go_wp2_with fail
  go_end0
  exact ⟨rfl, AD.out⟩

/-- One add behind another. -/
theorem Added.go {lo base : Nat} {GB : Nat} {K : KM} {T : Nat → Prop} {d : Nat} {w w1 : World} (h : Added lo base GB K T d w w1) : ∃ K1, BgK lo base w1 GB K1 ∧ Kept (BW GB K) w w1 ∧ (∀ k, BF GB K1 k → BF GB K k ∨ T k ∨ w.heap.size ≤ k) ∧ (∀ k, BW GB K1 k → BW GB K k ∨ w.heap.size ≤ k) ∧ (∀ q, 2 ≤ q → (K1 q).2.length ≤ (K q).2.length + d) ∧ ∀ {T2 : Nat → Prop} {d2 : Nat} {w2 : World}, Added lo base GB K1 T2 d2 w1 w2 → Added lo base GB K (fun k => T k ∨ T2 k) (d + d2) w w2 := by
  obtain ⟨K1, g1, k1, f1, o1, n1⟩ := h
  exact ⟨K1, g1, k1, f1, o1, n1, fun h2 => Added.then k1 f1 o1 n1 h2⟩
set_option maxHeartbeats 4000000 in
theorem BgK.addS0 {lo base : Nat} {w : World} {GB : Nat} {K : KM} (h : BgK lo base w GB K) (l2 : (K 2).2.length < 300) (l3 : (K 3).2.length + 2 < 300) :
    Calls Tryd.prog 18 #[.pointer (some ⟨GB, 0, none⟩), .agg #[.slice none 0 0, .slice none 0 0, .slice none 0 0, .int .i64 0, .int .i8 0, .slice none 0 0, .int .i8 0, .int .i64 0]] w fun e w' => e = .returned (.tuple #[]) ∧ Added lo base GB K (fun _ => False) 2 w w' := by
  have hb0 := h.box (.cells #[.slice none 0 0, .slice none 0 0, .slice none 0 0, .int .i64 0, .int .i8 0, .slice none 0 0, .int .i8 0, .int .i64 0] 27)
  have hk0 := Kept.alloc (fun _ => False) w (.cells #[.slice none 0 0, .slice none 0 0, .slice none 0 0, .int .i64 0, .int .i8 0, .slice none 0 0, .int .i8 0, .int .i64 0] 27)
  have SZ : (w.alloc (.cells #[.slice none 0 0, .slice none 0 0, .slice none 0 0, .int .i64 0, .int .i8 0, .slice none 0 0, .int .i8 0, .int .i64 0] 27)).heap.size = w.heap.size + 1 := by simp
  have A1 := hid (hb0.addF0 l2)
  have x0 : (w.alloc (.cells #[.slice none 0 0, .slice none 0 0, .slice none 0 0, .int .i64 0, .int .i8 0, .slice none 0 0, .int .i8 0, .int .i64 0] 27)).cell? ⟨w.heap.size, 0, none⟩ = some (.slice none 0 0) := cell_at (nb_new w _)
  have XC := hid (show (w.alloc (.cells #[.slice none 0 0, .slice none 0 0, .slice none 0 0, .int .i64 0, .int .i8 0, .slice none 0 0, .int .i8 0, .int .i64 0] 27)).cell? ⟨w.heap.size, 1, none⟩ = some (.slice none 0 0) ∧ (w.alloc (.cells #[.slice none 0 0, .slice none 0 0, .slice none 0 0, .int .i64 0, .int .i8 0, .slice none 0 0, .int .i8 0, .int .i64 0] 27)).cell? ⟨w.heap.size, 2, none⟩ = some (.slice none 0 0) ∧ (w.alloc (.cells #[.slice none 0 0, .slice none 0 0, .slice none 0 0, .int .i64 0, .int .i8 0, .slice none 0 0, .int .i8 0, .int .i64 0] 27)).cell? ⟨w.heap.size, 5, none⟩ = some (.slice none 0 0) from ⟨cell_at (nb_new w _), cell_at (nb_new w _), cell_at (nb_new w _)⟩)
  have HB := hid (show ∀ k, BW GB K k → k < w.heap.size from fun k hk => h.bfl hk.bf)
  have BX := hid (fun (T : Nat → Prop) (w2 : World) (d : Nat) (hx : Added lo base GB K T d (w.alloc (.cells #[.slice none 0 0, .slice none 0 0, .slice none 0 0, .int .i64 0, .int .i8 0, .slice none 0 0, .int .i8 0, .int .i64 0] 27)) w2) => hx.boxed)
  have SZ := hid SZ
  clear h hb0 hk0
  go_enter Tryd.func18, Tryd.ntmps18
  go_wp2_with fail
  generalize w.alloc (.cells #[.slice none 0 0, .slice none 0 0, .slice none 0 0, .int .i64 0, .int .i8 0, .slice none 0 0, .int .i8 0, .int .i64 0] 27) = W1 at *
  refine A1.out.mono ?_
  rintro e w2 ⟨rfl, hx⟩
  obtain ⟨K1, g1, k1, f1, o1', n1, t1⟩ := hx.go
  have x1 := k1.cell XC.out.1 (fun hx => by have := HB.out _ hx; omega)
  have A2 := hid (g1.addW ⟨none, 0, 0⟩ (.inr ⟨rfl, rfl, rfl⟩) (by show 0 ≤ _; omega) (fun k hk => by cases hk))
  have C1 := hid (fun (w3 : World) (T2 : Nat → Prop) (d2 : Nat) (h : Added lo base GB K1 T2 d2 w2 w3) => t1 h)
  clear A1 x0 hx g1 k1 f1 o1' n1 t1
  go_wp2_with fail
  refine A2.out.mono ?_
  rintro e w3 ⟨rfl, hx⟩
  obtain ⟨K2, g2, k2, f2, o2', n2, t2⟩ := (C1.out _ _ _ hx).go
  have x2 := k2.cell XC.out.2.1 (fun hx => by have := HB.out _ hx; omega)
  have A3 := hid (g2.addP0 (by have h2 := n2 3 (by omega); omega))
  have C2 := hid (fun (w4 : World) (T2 : Nat → Prop) (d2 : Nat) (h : Added lo base GB K2 T2 d2 w3 w4) => t2 h)
  clear A2 x1 hx g2 k2 f2 o2' n2 t2 C1
  go_wp2_with fail
  refine A3.out.mono ?_
  rintro e w4 ⟨rfl, hx⟩
  obtain ⟨K3, g3, k3, f3, o3', n3, t3⟩ := (C2.out _ _ _ hx).go
  have x5 := k3.cell XC.out.2.2 (fun hx => by have := HB.out _ hx; omega)
  have A4 := hid (g3.addW ⟨none, 0, 0⟩ (.inr ⟨rfl, rfl, rfl⟩) (by show 0 ≤ _; omega) (fun k hk => by cases hk))
  have C3 := hid (fun (w5 : World) (T2 : Nat → Prop) (d2 : Nat) (h : Added lo base GB K3 T2 d2 w4 w5) => t3 h)
  clear A3 x2 hx g3 k3 f3 o3' n3 t3 C2
  go_wp2_with fail
  refine A4.out.mono ?_
  rintro e w5 ⟨rfl, hx5⟩
  have hx := C3.out _ _ _ hx5
  clear hx5
  go_wp2_with fail
  go_end0
  exact ⟨rfl, BX.out _ _ _ (hx.mono (fun k hk => by rcases hk with ((hk | hk) | hk) | hk <;> first | exact hk | cases hk) (by omega))⟩
set_option maxHeartbeats 4000000 in
theorem BgK.addS {lo base : Nat} {w : World} {GB : Nat} {K : KM} (h : BgK lo base w GB K) (l2 : (K 2).2.length < 300) (l3 : (K 3).2.length + 2 < 300) (B5 B6 B7 B8 N M n5 n6 : Nat) (rep en tr us : Int) (A Bi : Nat → Int) (P1 P2 P : Nat → Tl) (hN : N ≤ 300) (hM : M ≤ 300)
    (b5 : n5 ≤ 4194304) (b6 : n6 ≤ 4194304) (k5 : (⟨some B5, n5, n5⟩ : Tl).ok 1 63 lo w) (k6 : (⟨some B6, n6, n6⟩ : Tl).ok 1 63 lo w) (k7 : (⟨some B7, M, M⟩ : Tl).ok 1 31 lo w) (k8 : (⟨some B8, N, N⟩ : Tl).ok 4 66 lo w)
    (hc : ∀ i, i < N → w.cell? ⟨B8, i * 4, none⟩ = some (.int .i64 (A i)) ∧ w.cell? ⟨B8, i * 4 + 1, none⟩ = some (.int .i64 (Bi i)) ∧ w.cell? ⟨B8, i * 4 + 2, none⟩ = some (.slice (P1 i).ad (P1 i).n (P1 i).c) ∧ w.cell? ⟨B8, i * 4 + 3, none⟩ = some (.slice (P2 i).ad (P2 i).n (P2 i).c))
    (h1 : ∀ i, i < N → (P1 i).ok 1 63 lo w ∧ (P1 i).n ≤ 4194304) (h2 : ∀ i, i < N → (P2 i).ok 1 63 lo w ∧ (P2 i).n ≤ 4194304) (hcp : ∀ i, i < M → w.cell? ⟨B7, i, none⟩ = some (.slice (P i).ad (P i).n (P i).c)) (h3 : ∀ i, i < M → (P i).ok 1 5 lo w ∧ (P i).n ≤ 4194304)
    {hi : Nat} (o1 : B5 < B6) (o2 : B6 < B7) (o4 : B7 < B8) (q1 : ∀ i k, i < N → (P1 i).b = some k → B8 < k ∧ k < hi ∧ ∀ j, j < i → (P1 j).b ≠ some k ∧ (P2 j).b ≠ some k)
    (q2 : ∀ i k, i < N → (P2 i).b = some k → B8 < k ∧ k < hi ∧ (P1 i).b ≠ some k ∧ ∀ j, j < i → (P1 j).b ≠ some k ∧ (P2 j).b ≠ some k) (q3 : ∀ i k, i < M → (P i).b = some k → B7 < k ∧ k < B8 ∧ ∀ j, j < i → (P j).b ≠ some k)
    (hih : hi ≤ w.heap.size) (h8 : B8 < hi) (nb : ∀ k, B5 ≤ k → k < hi → ¬ BF GB K k) :
    Calls Tryd.prog 18 #[.pointer (some ⟨GB, 0, none⟩), .agg #[.slice (some ⟨B8, 0, none⟩) N N, .slice (some ⟨B6, 0, none⟩) n6 n6, .slice (some ⟨B7, 0, none⟩) M M, .int .i64 rep, .int .i8 en, .slice (some ⟨B5, 0, none⟩) n5 n5, .int .i8 tr, .int .i64 us]] w fun e w' => e = .returned (.tuple #[]) ∧ Added lo base GB K (fun k => B5 ≤ k ∧ k < hi) 2 w w' := by
  have hb0 := h.box (.cells #[.slice (some ⟨B8, 0, none⟩) N N, .slice (some ⟨B6, 0, none⟩) n6 n6, .slice (some ⟨B7, 0, none⟩) M M, .int .i64 rep, .int .i8 en, .slice (some ⟨B5, 0, none⟩) n5 n5, .int .i8 tr, .int .i64 us] 27)
  have hk0 := Kept.alloc (fun _ => False) w (.cells #[.slice (some ⟨B8, 0, none⟩) N N, .slice (some ⟨B6, 0, none⟩) n6 n6, .slice (some ⟨B7, 0, none⟩) M M, .int .i64 rep, .int .i8 en, .slice (some ⟨B5, 0, none⟩) n5 n5, .int .i8 tr, .int .i64 us] 27)
  have SZ : (w.alloc (.cells #[.slice (some ⟨B8, 0, none⟩) N N, .slice (some ⟨B6, 0, none⟩) n6 n6, .slice (some ⟨B7, 0, none⟩) M M, .int .i64 rep, .int .i8 en, .slice (some ⟨B5, 0, none⟩) n5 n5, .int .i8 tr, .int .i64 us] 27)).heap.size = w.heap.size + 1 := by simp
  have A1 := hid (hb0.addF B8 N A Bi P1 P2 hN l2 (k8.kept hk0 (fun _ _ x => x)) (nb B8 (by omega) h8) (fun i hi => ⟨hk0.cell (hc i hi).1 id, hk0.cell (hc i hi).2.1 id, hk0.cell (hc i hi).2.2.1 id, hk0.cell (hc i hi).2.2.2 id⟩) (fun i hi => ⟨(h1 i hi).1.kept hk0 (fun _ _ x => x), (h1 i hi).2⟩) (fun i hi => ⟨(h2 i hi).1.kept hk0 (fun _ _ x => x), (h2 i hi).2⟩) (fun i k hi hk => by have y := q1 i k hi hk; exact ⟨nb k (by omega) y.2.1, by omega, by rw [SZ]; omega, y.2.2⟩) (fun i k hi hk => by have y := q2 i k hi hk; exact ⟨nb k (by omega) y.2.1, by omega, by rw [SZ]; omega, y.2.2⟩))
  have x0 : (w.alloc (.cells #[.slice (some ⟨B8, 0, none⟩) N N, .slice (some ⟨B6, 0, none⟩) n6 n6, .slice (some ⟨B7, 0, none⟩) M M, .int .i64 rep, .int .i8 en, .slice (some ⟨B5, 0, none⟩) n5 n5, .int .i8 tr, .int .i64 us] 27)).cell? ⟨w.heap.size, 0, none⟩ = some (.slice (some ⟨B8, 0, none⟩) N N) := cell_at (nb_new w _)
  have XC := hid (show (w.alloc (.cells #[.slice (some ⟨B8, 0, none⟩) N N, .slice (some ⟨B6, 0, none⟩) n6 n6, .slice (some ⟨B7, 0, none⟩) M M, .int .i64 rep, .int .i8 en, .slice (some ⟨B5, 0, none⟩) n5 n5, .int .i8 tr, .int .i64 us] 27)).cell? ⟨w.heap.size, 1, none⟩ = some (.slice (some ⟨B6, 0, none⟩) n6 n6) ∧ (w.alloc (.cells #[.slice (some ⟨B8, 0, none⟩) N N, .slice (some ⟨B6, 0, none⟩) n6 n6, .slice (some ⟨B7, 0, none⟩) M M, .int .i64 rep, .int .i8 en, .slice (some ⟨B5, 0, none⟩) n5 n5, .int .i8 tr, .int .i64 us] 27)).cell? ⟨w.heap.size, 2, none⟩ = some (.slice (some ⟨B7, 0, none⟩) M M) ∧ (w.alloc (.cells #[.slice (some ⟨B8, 0, none⟩) N N, .slice (some ⟨B6, 0, none⟩) n6 n6, .slice (some ⟨B7, 0, none⟩) M M, .int .i64 rep, .int .i8 en, .slice (some ⟨B5, 0, none⟩) n5 n5, .int .i8 tr, .int .i64 us] 27)).cell? ⟨w.heap.size, 5, none⟩ = some (.slice (some ⟨B5, 0, none⟩) n5 n5) from ⟨cell_at (nb_new w _), cell_at (nb_new w _), cell_at (nb_new w _)⟩)
  have HB := hid (show ∀ k, BW GB K k → k < w.heap.size from fun k hk => h.bfl hk.bf)
  have BX := hid (fun (T : Nat → Prop) (w2 : World) (d : Nat) (hx : Added lo base GB K T d (w.alloc (.cells #[.slice (some ⟨B8, 0, none⟩) N N, .slice (some ⟨B6, 0, none⟩) n6 n6, .slice (some ⟨B7, 0, none⟩) M M, .int .i64 rep, .int .i8 en, .slice (some ⟨B5, 0, none⟩) n5 n5, .int .i8 tr, .int .i64 us] 27)) w2) => hx.boxed)
  have NB := hid nb
  have K5 := hid (k5.kept hk0 (fun _ _ x => x))
  have K6 := hid (k6.kept hk0 (fun _ _ x => x))
  have K7 := hid (k7.kept hk0 (fun _ _ x => x))
  have HCP := hid (fun (i : Nat) (hi : i < M) => hk0.cell (hcp i hi) id)
  have H3 := hid (fun (i : Nat) (hi : i < M) => (And.intro ((h3 i hi).1.kept hk0 (fun _ _ x => x)) (h3 i hi).2 : (P i).ok 1 5 lo _ ∧ (P i).n ≤ 4194304))
  have Q3 := hid q3
  have B5L : (⟨some B5, n5, n5⟩ : Tl).n ≤ 4194304 := b5
  have B6L : (⟨some B6, n6, n6⟩ : Tl).n ≤ 4194304 := b6
  have TFB := hid (show ∀ k, TF B8 P1 P2 N k → k = B8 ∨ (B8 < k ∧ k < hi) from fun k hk => by
    rcases hk with hk | ⟨j, hj, hk | hk⟩
    · exact .inl hk
    · exact .inr ⟨(q1 j k hj hk).1, (q1 j k hj hk).2.1⟩
    · exact .inr ⟨(q2 j k hj hk).1, (q2 j k hj hk).2.1⟩)
  have TPB := hid (show ∀ k, TP B7 P M k → k = B7 ∨ (B7 < k ∧ k < B8) from fun k hk => by
    rcases hk with hk | ⟨j, hj, hk⟩
    · exact .inl hk
    · exact .inr ⟨(q3 j k hj hk).1, (q3 j k hj hk).2.1⟩)
  have SZ := hid SZ
  clear h hb0 hk0 k5 k6 k7 k8 hc h1 h2 hcp h3 q1 q2 q3 nb b5 b6
  go_enter Tryd.func18, Tryd.ntmps18
  go_wp2_with fail
  generalize w.alloc (.cells #[.slice (some ⟨B8, 0, none⟩) N N, .slice (some ⟨B6, 0, none⟩) n6 n6, .slice (some ⟨B7, 0, none⟩) M M, .int .i64 rep, .int .i8 en, .slice (some ⟨B5, 0, none⟩) n5 n5, .int .i8 tr, .int .i64 us] 27) = W1 at *
  refine A1.out.mono ?_
  rintro e w2 ⟨rfl, hx⟩
  obtain ⟨K1, g1, k1, f1, o1', n1, t1⟩ := hx.go
  have x1 := k1.cell XC.out.1 (fun hx => by have := HB.out _ hx; omega)
  have A2 := hid (g1.addW ⟨some B6, n6, n6⟩ (K6.out.kept k1 (fun k hk hx => by obtain rfl := Option.some.inj hk; exact NB.out B6 (by omega) (by omega) hx.bf)) B6L (fun k hk hx => by
    obtain rfl := Option.some.inj hk
    rcases f1 B6 hx with y | y | y
    · exact NB.out B6 (by omega) (by omega) y
    · rcases TFB.out _ y with y | y <;> omega
    · have := SZ.out; omega))
  have C1 := hid (fun (w3 : World) (T2 : Nat → Prop) (d2 : Nat) (h : Added lo base GB K1 T2 d2 w2 w3) => t1 h)
  clear A1 x0 hx g1 k1 f1 o1' n1 t1
  go_wp2_with fail
  refine A2.out.mono ?_
  rintro e w3 ⟨rfl, hx⟩
  obtain ⟨K2, g2, k2, f2, o2', n2, t2⟩ := (C1.out _ _ _ hx).go
  have x2 := k2.cell XC.out.2.1 (fun hx => by have := HB.out _ hx; omega)
  have A3 := hid (g2.addP B7 M P hM (by have h2 := n2 3 (by omega); omega) (K7.out.kept k2 (fun k hk hx => by obtain rfl := Option.some.inj hk; exact NB.out B7 (by omega) (by omega) hx.bf))
    (fun hx => by
      rcases f2 B7 hx with y | (y | y) | y
      · exact NB.out B7 (by omega) (by omega) y
      · rcases TFB.out _ y with y | y <;> omega
      · have := Option.some.inj y; omega
      · have := SZ.out; omega)
    (fun i hi => k2.cell (HCP.out i hi) (fun hx => NB.out B7 (by omega) (by omega) hx.bf))
    (fun i hi => ⟨(H3.out i hi).1.kept k2 (fun k hk hx => by have y := Q3.out i k hi hk; exact NB.out k (by omega) (by omega) hx.bf), (H3.out i hi).2⟩)
    (fun i k hi hk => by
      have z := Q3.out i k hi hk
      refine ⟨fun hx => ?_, by omega, by have := k2.size; have := SZ.out; omega, z.2.2⟩
      rcases f2 k hx with y | (y | y) | y
      · exact NB.out k (by omega) (by omega) y
      · rcases TFB.out _ y with y | y <;> omega
      · have := Option.some.inj y; omega
      · have := SZ.out; omega))
  have C2 := hid (fun (w4 : World) (T2 : Nat → Prop) (d2 : Nat) (h : Added lo base GB K2 T2 d2 w3 w4) => t2 h)
  clear A2 x1 hx g2 k2 f2 o2' n2 t2 C1
  go_wp2_with fail
  refine A3.out.mono ?_
  rintro e w4 ⟨rfl, hx⟩
  obtain ⟨K3, g3, k3, f3, o3', n3, t3⟩ := (C2.out _ _ _ hx).go
  have x5 := k3.cell XC.out.2.2 (fun hx => by have := HB.out _ hx; omega)
  have A4 := hid (g3.addW ⟨some B5, n5, n5⟩ (K5.out.kept k3 (fun k hk hx => by obtain rfl := Option.some.inj hk; exact NB.out B5 (by omega) (by omega) hx.bf)) B5L (fun k hk hx => by
    obtain rfl := Option.some.inj hk
    rcases f3 B5 hx with y | ((y | y) | y) | y
    · exact NB.out B5 (by omega) (by omega) y
    · rcases TFB.out _ y with y | y <;> omega
    · have := Option.some.inj y; omega
    · rcases TPB.out _ y with y | y <;> omega
    · have := SZ.out; omega))
  have C3 := hid (fun (w5 : World) (T2 : Nat → Prop) (d2 : Nat) (h : Added lo base GB K3 T2 d2 w4 w5) => t3 h)
  clear A3 x2 hx g3 k3 f3 o3' n3 t3 C2
  go_wp2_with fail
  refine A4.out.mono ?_
  rintro e w5 ⟨rfl, hx5⟩
  have hx := C3.out _ _ _ hx5
  clear hx5
  go_wp2_with fail
  go_end0
  exact ⟨rfl, BX.out _ _ _ (hx.mono (fun k hk => by
    rcases hk with ((hk | hk) | hk) | hk
    · rcases TFB.out _ hk with y | y <;> omega
    · have := Option.some.inj hk; omega
    · rcases TPB.out _ hk with y | y <;> omega
    · have := Option.some.inj hk; omega) (by omega))⟩
end Go.Proofs.YtbdjghokedfkfaaDoor

/-
  The bag of four kinds: a new one, Apart; a state that was read is told.
-/
namespace Go.Proofs.YtbdjghokedfkfaaDoor
open Go.RowKit
set_option linter.unusedVariables false
set_option maxRecDepth 100000
abbrev bagO : Obj := .cells #[.slice none 0 0, .slice none 0 0, .slice none 0 0, .slice none 0 0, .slice none 0 0, .slice none 0 0, .slice none 0 0, .slice none 0 0, .slice none 0 0, .slice none 0 0, .slice none 0 0, .slice none 0 0, .slice none 0 0, .slice none 0 0, .slice none 0 0, .slice none 0 0, .slice none 0 0] 53
def K0 : KM := fun _ => (.slice none 0 0, [])
theorem KF0 {q k : Nat} : ¬ KF K0 q k := fun hk => by rcases hk with hk | ⟨p, hp, _⟩ <;> simp_all [K0, Value.ownBlock]
theorem BF0 {GB k : Nat} (h : BF GB K0 k) : k = GB := by
  rcases h with h | ⟨q, _, h⟩
  · exact h
  · exact absurd h KF0
theorem bag_cell (w : World) (j : Nat) (hj : j ≤ 16) : (w.alloc bagO).cell? ⟨w.heap.size, j, none⟩ = some (.slice none 0 0) := by
  rw [World.cell?_alloc_new]
  match j, hj with
  | 0, _ | 1, _ | 2, _ | 3, _ | 4, _ | 5, _ | 6, _ | 7, _ | 8, _ | 9, _ | 10, _ | 11, _ | 12, _ | 13, _ | 14, _ | 15, _ | 16, _ => rfl
  | n + 17, hj => exact absurd hj (by omega)
theorem kC_le {q : Nat} (hq : q < 4) : kC q ≤ 16 := by
  match q, hq with
  | 0, _ | 1, _ | 2, _ | 3, _ => decide
theorem bagK {w : World} {lo : Nat} (h : lo ≤ w.heap.size) : BgK lo w.heap.size (w.alloc bagO) w.heap.size K0 :=
  ⟨h, Nat.le_refl _, fun q hq => bag_cell w (kC q) (kC_le hq), fun j hj _ => bag_cell w j hj, fun j => by simp, fun q hq => Kd.nil _ _ _ _ _, fun q hq B hB => by simp [K0, Value.ownBlock] at hB, fun q hq => by simp [K0], fun q hq k hk => absurd hk KF0, fun q r _ _ _ k hk => absurd hk KF0⟩
theorem apB {lo : Nat} {w : World} {GB : Nat} {vB : Value} {lB : List Tl} (hc : w.cell? ⟨GB, 0, none⟩ = some vB) (hkB : Kd 1 5 31 lo w vB lB) (hnB : ∀ k, Kf vB lB k → k ≠ GB) (hn : lB.length ≤ 300) : Calls Tryd.prog 30 #[.pointer (some ⟨GB, 0, none⟩)] w fun e w' => e = .returned (.bool true) ∧ Kept (Kf vB lB) w w' := by
  rcases hkB.cases with ⟨h1, _⟩ | ⟨X, cx, h1, h2, h3⟩
  · refine (empty43 GB w (h1 ▸ hc)).mono ?_
    rintro e w' ⟨rfl, rfl⟩
    exact ⟨rfl, Kept.refl _ _⟩
  · refine (apart43 GB X lB.length cx (ltN lB) (ltA lB) (ltG lB) (ltL lB) (ltC lB) w hn (h1 ▸ hc) h2 hkB.lists hkB.lenL hkB.injN (fun j hj hn => ⟨fun e => hnB _ (hkB.kf hj hn) e.symm, fun e => hkB.row_ne (by decide) (lt_mem hj).1 (lt_some hn) (by rw [h1, ← e]; rfl)⟩)).mono ?_
    rintro e w' ⟨rfl, hk⟩
    exact ⟨rfl, hk.mono (hkB.ownK)⟩
theorem apW {lo : Nat} {w : World} {GB : Nat} {vB : Value} {lB : List Tl} (hc : w.cell? ⟨GB, 3, none⟩ = some vB) (hkB : Kd 1 63 23 lo w vB lB) (hnB : ∀ k, Kf vB lB k → k ≠ GB) (hn : lB.length ≤ 300) : Calls Tryd.prog 33 #[.pointer (some ⟨GB, 0, none⟩)] w fun e w' => e = .returned (.bool true) ∧ Kept (Kf vB lB) w w' := by
  rcases hkB.cases with ⟨h1, _⟩ | ⟨X, cx, h1, h2, h3⟩
  · refine (empty46 GB w (h1 ▸ hc)).mono ?_
    rintro e w' ⟨rfl, rfl⟩
    exact ⟨rfl, Kept.refl _ _⟩
  · refine (apart33 GB X lB.length cx (ltN lB) (ltA lB) (ltG lB) (ltL lB) (ltC lB) w hn (h1 ▸ hc) h2 hkB.lists hkB.lenL hkB.injN (fun j hj hn => ⟨fun e => hnB _ (hkB.kf hj hn) e.symm, fun e => hkB.row_ne (by decide) (lt_mem hj).1 (lt_some hn) (by rw [h1, ← e]; rfl)⟩)).mono ?_
    rintro e w' ⟨rfl, hk⟩
    exact ⟨rfl, hk.mono (hkB.ownK)⟩
theorem apF {lo : Nat} {w : World} {GB : Nat} {vB : Value} {lB : List Tl} (hc : w.cell? ⟨GB, 13, none⟩ = some vB) (hkB : Kd 4 66 22 lo w vB lB) (hnB : ∀ k, Kf vB lB k → k ≠ GB) (hn : lB.length ≤ 300) : Calls Tryd.prog 43 #[.pointer (some ⟨GB, 0, none⟩)] w fun e w' => e = .returned (.bool true) ∧ Kept (Kf vB lB) w w' := by
  rcases hkB.cases with ⟨h1, _⟩ | ⟨X, cx, h1, h2, h3⟩
  · refine (empty56 GB w (h1 ▸ hc)).mono ?_
    rintro e w' ⟨rfl, rfl⟩
    exact ⟨rfl, Kept.refl _ _⟩
  · refine (apart43F GB X lB.length cx (ltN lB) (ltA lB) (ltG lB) (ltL lB) (ltC lB) w hn (h1 ▸ hc) h2 hkB.lists hkB.lenL hkB.injN (fun j hj hn => ⟨fun e => hnB _ (hkB.kf hj hn) e.symm, fun e => hkB.row_ne (by decide) (lt_mem hj).1 (lt_some hn) (by rw [h1, ← e]; rfl)⟩)).mono ?_
    rintro e w' ⟨rfl, hk⟩
    exact ⟨rfl, hk.mono (hkB.ownK)⟩
theorem apP {lo : Nat} {TB : Nat} {w : World} {GB : Nat} {vB : Value} {lB : List Tl} (hc : w.cell? ⟨GB, 15, none⟩ = some vB) (hkB : Kd 1 31 24 lo w vB lB) (hnB : ∀ k, Kf vB lB k → k ≠ GB) (hn : lB.length ≤ 300) (ht : Tens TB w) (hTB : TB ≤ lo) (hTw : TB ≤ w.heap.size) : Calls Tryd.prog 45 #[.pointer (some ⟨GB, 0, none⟩)] w fun e w' => e = .returned (.bool true) ∧ Kept (Kf vB lB) w w' := by
  rcases hkB.cases with ⟨h1, _⟩ | ⟨X, cx, h1, h2, h3⟩
  · refine (empty58 GB w (h1 ▸ hc)).mono ?_
    rintro e w' ⟨rfl, rfl⟩
    exact ⟨rfl, Kept.refl _ _⟩
  · refine (apart58 TB GB X lB.length cx (ltN lB) (ltA lB) (ltG lB) (ltL lB) (ltC lB) w hn (h1 ▸ hc) h2 hkB.lists hkB.lenL hkB.injN (fun j hj hn => ⟨fun e => hnB _ (hkB.kf hj hn) e.symm, fun e => hkB.row_ne (by decide) (lt_mem hj).1 (lt_some hn) (by rw [h1, ← e]; rfl)⟩) ht (fun j hj hn => by
      obtain ⟨_, _, _, _, hl⟩ := hkB.ty (hkB.kf hj hn)
      omega) hTw).mono ?_
    rintro e w' ⟨rfl, hk⟩
    exact ⟨rfl, hk.mono (hkB.ownK)⟩
set_option maxHeartbeats 4000000 in
theorem BgK.apart {lo base TB : Nat} {w : World} {GB : Nat} {K : KM} (h : BgK lo base w GB K) (ht : Tens TB w) (hTB : TB ≤ lo) :
    Calls Tryd.prog 12 #[.pointer (some ⟨GB, 0, none⟩)] w fun e w' => e = .returned (.bool true) ∧ Kept (BF GB K) w w' := by
  have HH := hid h
  have hTw : TB ≤ w.heap.size := by have := h.gl; have := h.bs; have := h.lb; omega
  have HB1 := hid (apB (h.c 0 (by omega)) (h.kd 0 (by omega)) (h.n 0 (by omega)) (h.nl 0 (by omega)))
  have HT := hid (show ∀ W, Kept (BF GB K) w W → Tens TB W ∧ TB ≤ W.heap.size from fun W hk => ⟨ht.later (hk.to_below hTw (fun k hk hx => by have := HH.out.low hx; omega)), Nat.le_trans hTw hk.size⟩)
  clear h ht
  go_enter Tryd.func12, Tryd.ntmps12
  go_wp2_with fail
  refine HB1.out.mono ?_
  rintro e w1 ⟨rfl, hk1⟩
  have G1 := hid (show ∀ (j : Nat) (v : Value), w.cell? ⟨GB, j, none⟩ = some v → w1.cell? ⟨GB, j, none⟩ = some v from fun j v hc => hk1.cell (hc) (fun hx => HH.out.n 0 (by omega) GB hx rfl))
  have KK1 := hid (hk1.mono (T := BF GB K) (fun k x => .inr ⟨0, by omega, x⟩))
  have D11 := hid ((HH.out.kd 1 (by omega)).kept hk1 (fun k hx hy => HH.out.dis 1 0 (by omega) (by omega) (by omega) k hx hy))
  have D12 := hid ((HH.out.kd 2 (by omega)).kept hk1 (fun k hx hy => HH.out.dis 2 0 (by omega) (by omega) (by omega) k hx hy))
  have D13 := hid ((HH.out.kd 3 (by omega)).kept hk1 (fun k hx hy => HH.out.dis 3 0 (by omega) (by omega) (by omega) k hx hy))
  have HB2 := hid (apW (G1.out 3 _ (HH.out.c 1 (by omega))) D11.out (HH.out.n 1 (by omega)) (HH.out.nl 1 (by omega)))
  clear hk1 HB1
  go_wp2_with fail
  refine (empty44 GB w1 (G1.out 1 _ (HH.out.cz 1 (by omega) (fun q hq => by match q, hq with | 0, _ | 1, _ | 2, _ | 3, _ => decide)))).mono ?_
  rintro e w' ⟨rfl, hw⟩
  have hw' := hw.symm; subst hw'; clear hw
  go_wp2_with fail
  refine (empty45 GB w1 (G1.out 2 _ (HH.out.cz 2 (by omega) (fun q hq => by match q, hq with | 0, _ | 1, _ | 2, _ | 3, _ => decide)))).mono ?_
  rintro e w' ⟨rfl, hw⟩
  have hw' := hw.symm; subst hw'; clear hw
  go_wp2_with fail
  refine HB2.out.mono ?_
  rintro e w2 ⟨rfl, hk2⟩
  have G2 := hid (show ∀ (j : Nat) (v : Value), w.cell? ⟨GB, j, none⟩ = some v → w2.cell? ⟨GB, j, none⟩ = some v from fun j v hc => hk2.cell (G1.out j v hc) (fun hx => HH.out.n 1 (by omega) GB hx rfl))
  have KK2 := hid (KK1.out.trans (hk2.mono (T := BF GB K) (fun k x => .inr ⟨1, by omega, x⟩)))
  have D22 := hid (D12.out.kept hk2 (fun k hx hy => HH.out.dis 2 1 (by omega) (by omega) (by omega) k hx hy))
  have D23 := hid (D13.out.kept hk2 (fun k hx hy => HH.out.dis 3 1 (by omega) (by omega) (by omega) k hx hy))
  have HB3 := hid (apF (G2.out 13 _ (HH.out.c 2 (by omega))) D22.out (HH.out.n 2 (by omega)) (HH.out.nl 2 (by omega)))
  clear hk2 HB2
  go_wp2_with fail
  refine (empty47 GB w2 (G2.out 4 _ (HH.out.cz 4 (by omega) (fun q hq => by match q, hq with | 0, _ | 1, _ | 2, _ | 3, _ => decide)))).mono ?_
  rintro e w' ⟨rfl, hw⟩
  have hw' := hw.symm; subst hw'; clear hw
  go_wp2_with fail
  refine (empty48 GB w2 (G2.out 5 _ (HH.out.cz 5 (by omega) (fun q hq => by match q, hq with | 0, _ | 1, _ | 2, _ | 3, _ => decide)))).mono ?_
  rintro e w' ⟨rfl, hw⟩
  have hw' := hw.symm; subst hw'; clear hw
  go_wp2_with fail
  refine (empty49 GB w2 (G2.out 6 _ (HH.out.cz 6 (by omega) (fun q hq => by match q, hq with | 0, _ | 1, _ | 2, _ | 3, _ => decide)))).mono ?_
  rintro e w' ⟨rfl, hw⟩
  have hw' := hw.symm; subst hw'; clear hw
  go_wp2_with fail
  refine (empty50 GB w2 (G2.out 7 _ (HH.out.cz 7 (by omega) (fun q hq => by match q, hq with | 0, _ | 1, _ | 2, _ | 3, _ => decide)))).mono ?_
  rintro e w' ⟨rfl, hw⟩
  have hw' := hw.symm; subst hw'; clear hw
  go_wp2_with fail
  refine (empty51 GB w2 (G2.out 8 _ (HH.out.cz 8 (by omega) (fun q hq => by match q, hq with | 0, _ | 1, _ | 2, _ | 3, _ => decide)))).mono ?_
  rintro e w' ⟨rfl, hw⟩
  have hw' := hw.symm; subst hw'; clear hw
  go_wp2_with fail
  refine (empty52 GB w2 (G2.out 9 _ (HH.out.cz 9 (by omega) (fun q hq => by match q, hq with | 0, _ | 1, _ | 2, _ | 3, _ => decide)))).mono ?_
  rintro e w' ⟨rfl, hw⟩
  have hw' := hw.symm; subst hw'; clear hw
  go_wp2_with fail
  refine (empty53 GB w2 (G2.out 10 _ (HH.out.cz 10 (by omega) (fun q hq => by match q, hq with | 0, _ | 1, _ | 2, _ | 3, _ => decide)))).mono ?_
  rintro e w' ⟨rfl, hw⟩
  have hw' := hw.symm; subst hw'; clear hw
  go_wp2_with fail
  refine (empty54 GB w2 (G2.out 11 _ (HH.out.cz 11 (by omega) (fun q hq => by match q, hq with | 0, _ | 1, _ | 2, _ | 3, _ => decide)))).mono ?_
  rintro e w' ⟨rfl, hw⟩
  have hw' := hw.symm; subst hw'; clear hw
  go_wp2_with fail
  refine (empty55 GB w2 (G2.out 12 _ (HH.out.cz 12 (by omega) (fun q hq => by match q, hq with | 0, _ | 1, _ | 2, _ | 3, _ => decide)))).mono ?_
  rintro e w' ⟨rfl, hw⟩
  have hw' := hw.symm; subst hw'; clear hw
  go_wp2_with fail
  refine HB3.out.mono ?_
  rintro e w3 ⟨rfl, hk3⟩
  have G3 := hid (show ∀ (j : Nat) (v : Value), w.cell? ⟨GB, j, none⟩ = some v → w3.cell? ⟨GB, j, none⟩ = some v from fun j v hc => hk3.cell (G2.out j v hc) (fun hx => HH.out.n 2 (by omega) GB hx rfl))
  have KK3 := hid (KK2.out.trans (hk3.mono (T := BF GB K) (fun k x => .inr ⟨2, by omega, x⟩)))
  have D33 := hid (D23.out.kept hk3 (fun k hx hy => HH.out.dis 3 2 (by omega) (by omega) (by omega) k hx hy))
  have HB4 := hid (apP (G3.out 15 _ (HH.out.c 3 (by omega))) D33.out (HH.out.n 3 (by omega)) (HH.out.nl 3 (by omega)) (HT.out _ KK3.out).1 hTB (HT.out _ KK3.out).2)
  clear hk3 HB3
  go_wp2_with fail
  refine (empty57 GB w3 (G3.out 14 _ (HH.out.cz 14 (by omega) (fun q hq => by match q, hq with | 0, _ | 1, _ | 2, _ | 3, _ => decide)))).mono ?_
  rintro e w' ⟨rfl, hw⟩
  have hw' := hw.symm; subst hw'; clear hw
  go_wp2_with fail
  refine HB4.out.mono ?_
  rintro e w4 ⟨rfl, hk4⟩
  have G4 := hid (show ∀ (j : Nat) (v : Value), w.cell? ⟨GB, j, none⟩ = some v → w4.cell? ⟨GB, j, none⟩ = some v from fun j v hc => hk4.cell (G3.out j v hc) (fun hx => HH.out.n 3 (by omega) GB hx rfl))
  have KK4 := hid (KK3.out.trans (hk4.mono (T := BF GB K) (fun k x => .inr ⟨3, by omega, x⟩)))
  clear hk4 HB4
  go_wp2_with fail
  refine (empty59 GB w4 (G4.out 16 _ (HH.out.cz 16 (by omega) (fun q hq => by match q, hq with | 0, _ | 1, _ | 2, _ | 3, _ => decide)))).mono ?_
  rintro e w' ⟨rfl, hw⟩
  have hw' := hw.symm; subst hw'; clear hw
  go_wp2_with fail
  go_ret
  exact ⟨rfl, KK4.out⟩
end Go.Proofs.YtbdjghokedfkfaaDoor
