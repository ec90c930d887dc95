/-
  The walks over (kind).word and (kind).find: the word of an opcode, the opcode of a word, off a kind's text.
-/
import Derived.Test.YtgljlclnmnfocaaDoorSplit
import Derived.RangeFuncBox
namespace Go.Proofs.YtgljlclnmnfocaaDoor
open Go.RowKit Go.Shelf
set_option linter.unusedVariables false

/-- These cells hold these values, and may be written. -/
def Holds (cs : List (Addr × Value)) (W : World) : Prop := ∀ p ∈ cs, W.cell? p.1 = some p.2 ∧ W.frozen? p.1 = false

theorem Holds.grown {cs : List (Addr × Value)} {A B : World} {row : Option Nat} (h : Holds cs A) (hg : A.grownBy B row) (hr : ∀ r, row = some r → ∃ o : Obj, A.heap[r]? = some o ∧ o.isCells = false) : Holds cs B :=
  fun p hp => ⟨cell_kept (h p hp).1 hg hr, (frozen_kept (h p hp).1 hg hr).trans (h p hp).2⟩
theorem Holds.turned {cs : List (Addr × Value)} {W : World} (h : Holds cs W) {l : Nat} {o : Obj} (o' : Obj) (hl : W.heap[l]? = some o) (ho : o.isCells = false) : Holds cs (W.putObj l o') :=
  h.grown (grownBy_putObj' W l o') (fun r e => by cases e; exact ⟨o, hl, ho⟩)
theorem Holds.other {cs : List (Addr × Value)} {W : World} (h : Holds cs W) (c : Addr) (v : Value) (hc : ∀ p ∈ cs, c ≠ p.1) : Holds cs (W.setCell c v) :=
  fun p hp => ⟨(World.cell?_setCell_other _ _ _ _ (hc p hp)).trans (h p hp).1, (World.frozen?_setCell _ _ _ _).trans (h p hp).2⟩
theorem Holds.cons {p : Addr × Value} {cs : List (Addr × Value)} {W : World} (h1 : W.cell? p.1 = some p.2) (h2 : W.frozen? p.1 = false) (h : Holds cs W) : Holds (p :: cs) W :=
  fun q hq => by
    rcases List.mem_cons.1 hq with rfl | hq
    · exact ⟨h1, h2⟩
    · exact h q hq
theorem Holds.set {c : Addr} {u v : Value} {cs : List (Addr × Value)} {W : World} (h : Holds ((c, u) :: cs) W) (hc : ∀ p ∈ cs, c ≠ p.1) : Holds ((c, v) :: cs) (W.setCell c v) := by
  have h1 := h (c, u) (by simp)
  refine Holds.cons (World.cell?_setCell_same' _ _ _ (by rw [h1.1]; rfl)) ((World.frozen?_setCell _ _ _ _).trans h1.2) (Holds.other (fun p hp => h p (by simp [hp])) _ _ hc)

theorem Holds.set2 {c d : Addr} {u1 u2 v1 v2 : Value} {W : World} (h : Holds [(c, u1), (d, u2)] W) (hc : c ≠ d) : Holds [(c, v1), (d, v2)] ((W.setCell c v1).setCell d v2) := by
  have h1 := h (c, u1) (by simp)
  have h2 := h (d, u2) (by simp)
  have k1 : Holds [(d, u2)] (W.setCell c v1) := Holds.other (Holds.cons (cs := []) h2.1 h2.2 (by simp [Holds])) _ _ (by simpa using hc)
  have k2 : Holds [(c, v1)] (W.setCell c v1) := Holds.set (Holds.cons (cs := []) h1.1 h1.2 (by simp [Holds])) (by simp)
  have k3 : Holds [(c, v1)] ((W.setCell c v1).setCell d v2) := Holds.other k2 _ _ (by simpa using Ne.symm hc)
  have k4 : Holds [(d, v2)] ((W.setCell c v1).setCell d v2) := Holds.set k1 (by simp)
  exact Holds.cons (k3 _ (by simp)).1 (k3 _ (by simp)).2 k4

theorem Keeps.other {ps : List Addr} (W : World) (c : Addr) (v : Value) (hc : ∀ p ∈ ps, c ≠ p) : Keeps ps W (W.setCell c v) :=
  fun p hp u hu => ⟨(World.cell?_setCell_other _ _ _ _ (hc p hp)).trans hu, World.frozen?_setCell _ _ _ _⟩

/-- One result that lies in a cell. -/
theorem results_one {fn : Func} {p : Tmp} {ty : TypeId} (h : fn.results = #[.cell p ty]) (tmps : Array Value) (P : Program) (w : World) :
    (results fn tmps).run P w = ((asAddr (tmps.getD p undef)).run P w).andThen fun a w₁ => (loadVar ty a).run P w₁ := by
  simp only [results, h]
  simp [Sem.run_bind, Result.andThen]
/-- Two results that lie in cells. -/
theorem results_two {fn : Func} {p q : Tmp} {ty tz : TypeId} (h : fn.results = #[.cell p ty, .cell q tz]) (tmps : Array Value) (P : Program) (w : World) :
    (results fn tmps).run P w = ((asAddr (tmps.getD p undef)).run P w).andThen fun a w₁ => ((loadVar ty a).run P w₁).andThen fun v w₂ => ((asAddr (tmps.getD q undef)).run P w₂).andThen fun b w₃ => ((loadVar tz b).run P w₃).andThen fun u w₄ => .ok (.tuple #[v, u]) w₄ := by
  simp only [results, h]
  simp [Sem.run_bind, Result.andThen]

/-- The word at a place among the pieces, counted from f. -/
def wordV (f op : Int) (a : ByteArray) : List ByteArray → ByteArray
  | [] => ⟨#[]⟩
  | p :: r => if f = op then a ++ p else wordV (f + 1) op a r

set_option maxRecDepth 100000 in
set_option maxHeartbeats 2000000 in
theorem word18 (f l op : Int) (a ws : ByteArray) (w : World) (h0 : 0 ≤ f) (hb : f + (bpieces ws).length ≤ 255) (hsz : ws.size ≤ 1099511627776) (ha : a.size ≤ 1099511627776) :
    Calls Tryd.prog 61 #[.agg #[.int .u8 f, .int .u8 l, .string a, .string ws], .int .u8 op] w fun e w' => e = .returned (.string (wordV f op a (bpieces ws))) ∧ Below w.heap.size w w' := by
  obtain ⟨xs, hxs⟩ : ∃ xs, bpieces ws = xs := ⟨_, rfl⟩
  have hlen := bpieces_size ws
  rw [hxs] at hb hlen ⊢
  obtain ⟨V, hV⟩ : ∃ V, wordV f op a xs = V := ⟨_, rfl⟩
  rw [hV]
  refine (callsIn_wide (n := 5)).1 ?_
  refine callsIn_of_wp_marks Tryd.func61 rfl trivial ?_ rfl
  simp only [Tryd.ntmps61, List.size_toArray, List.length_cons, List.length_nil, Nat.reduceAdd, Nat.reduceSub, Array.replicate_succ, Array.replicate_zero, List.push_toArray, List.append_toArray, List.nil_append, List.cons_append]
  gi_wp2_with fail
  refine ⟨trivial, ?_⟩
  refine (callsIn_wide.2 (splitSeq40 ws _)).mono ?_
  rintro e w' ⟨rfl, rfl⟩
  gi_wp2_with fail
  simp only [Nat.add_assoc, Nat.reduceAdd]
  obtain ⟨W0, hW0⟩ : ∃ W0, (((((((w.alloc (.cells #[.int .u8 f, .int .u8 l, .string a, .string ws] 99)).alloc (.cells #[.int .u8 op] 5)).alloc (.cells #[.string ⟨#[]⟩] 9)).alloc (.cells #[.int .u8 f] 5)).alloc (.cells #[.string ws] 9)).alloc (.cells #[.string ⟨#[32]⟩] 9)).alloc (.cells #[.int .i64 0] 3)) = W0 := ⟨_, rfl⟩
  rw [hW0]
  have B0 : Below w.heap.size w W0 := by rw [← hW0]; exact (((((((Below.refl _ w).alloc (by simp) _).alloc (by simp <;> omega) _).alloc (by simp <;> omega) _).alloc (by simp <;> omega) _).alloc (by simp <;> omega) _).alloc (by simp <;> omega) _).alloc (by simp <;> omega) _
  have z0 : W0.heap.size = w.heap.size + 7 := by rw [← hW0]; simp [go_sem]
  have k2 : W0.cell? ⟨w.heap.size, 2, none⟩ = some (.string a) := by rw [← hW0]; simp [go_sem]
  have o1 : W0.cell? ⟨w.heap.size + 1, 0, none⟩ = some (.int .u8 op) := by rw [← hW0]; simp [go_sem]
  have r0 : W0.cell? ⟨w.heap.size + 2, 0, none⟩ = some (.string ⟨#[]⟩) := by rw [← hW0]; simp [go_sem]
  have rf : W0.frozen? ⟨w.heap.size + 2, 0, none⟩ = false := by rw [← hW0]; simp [go_sem]
  have a0 : W0.cell? ⟨w.heap.size + 3, 0, none⟩ = some (.int .u8 f) := by rw [← hW0]; simp [go_sem]
  have af : W0.frozen? ⟨w.heap.size + 3, 0, none⟩ = false := by rw [← hW0]; simp [go_sem]
  have c2 : W0.cell? ⟨w.heap.size + 4, 0, none⟩ = some (.string ws) := by rw [← hW0]; simp [go_sem]
  have f2 : W0.frozen? ⟨w.heap.size + 4, 0, none⟩ = false := by rw [← hW0]; simp [go_sem]
  have c1 : W0.cell? ⟨w.heap.size + 5, 0, none⟩ = some (.string ⟨#[32]⟩) := by rw [← hW0]; simp [go_sem]
  have c3 : W0.cell? ⟨w.heap.size + 6, 0, none⟩ = some (.int .i64 0) := by rw [← hW0]; simp [go_sem]
  have kf : W0.frozen? ⟨w.heap.size, 2, none⟩ = false := by rw [← hW0]; simp [go_sem]
  have of : W0.frozen? ⟨w.heap.size + 1, 0, none⟩ = false := by rw [← hW0]; simp [go_sem]
  clear hW0
  have HF := feeds47 4 (w.heap.size + 5) (w.heap.size + 4) (w.heap.size + 6) (by omega) (by omega) ws W0 c1 c2 f2 c3 hsz
  rw [hxs] at HF
  refine range_feeds rfl (by decide) (gf := 80) (lb := #[.pointer (some ⟨w.heap.size + 5, 0, none⟩), .pointer (some ⟨w.heap.size + 4, 0, none⟩), .pointer (some ⟨w.heap.size + 6, 0, none⟩)]) rfl trivial (enters_of Tryd.func80 (by kernel_rfl) rfl) (encs := fun x : ByteArray => #[.string x]) (fun _ => rfl)
    HF
    (fun r W => Holds [(⟨w.heap.size + 3, 0, none⟩, .int .u8 (f + xs.length - r.length)), (⟨w.heap.size, 2, none⟩, .string a), (⟨w.heap.size + 1, 0, none⟩, .int .u8 op), (⟨w.heap.size + 2, 0, none⟩, .string ⟨#[]⟩)] W ∧ Below w.heap.size w W ∧ r.length ≤ xs.length ∧ (∀ p ∈ r, p.size ≤ ws.size) ∧ wordV (f + xs.length - r.length) op a r = V)
    (fun j W => j = .ret ∧ Holds [(⟨w.heap.size + 2, 0, none⟩, .string V)] W ∧ Below w.heap.size w W)
    ?own ?ownx ?cells ?start
    (fun x => { tmps := #[.agg #[.int .u8 f, .int .u8 l, .string a, .string ws], .int .u8 op, .pointer (some ⟨w.heap.size, 0, none⟩), .pointer (some ⟨w.heap.size + 1, 0, none⟩), .pointer (some ⟨w.heap.size + 2, 0, none⟩), .pointer (some ⟨w.heap.size + 3, 0, none⟩), .string x, .pointer (some ⟨w.heap.size, 0, none⟩), .int .u8 f, .pointer (some ⟨w.heap.size, 3, none⟩), .string ws,
      .func (.func 80) #[] #[.pointer (some ⟨w.heap.size + 5, 0, none⟩), .pointer (some ⟨w.heap.size + 4, 0, none⟩), .pointer (some ⟨w.heap.size + 6, 0, none⟩)], .string x, undef, undef, undef, undef, undef, undef, undef, undef, undef], defers := [] }) ?assign ?body ?done ?stop
  case own =>
    exact fun r A B row hs hg hr => ⟨hs.1.grown hg (fun q e => (hr q e).2), ownFrom_below (β := Unit) (Nat.le_refl _) (by omega) () A B row hs.2.1 hg hr, hs.2.2⟩
  case ownx =>
    exact fun j A B row hs hg hr => ⟨hs.1, hs.2.1.grown hg (fun q e => (hr q e).2), ownFrom_below (β := Unit) (Nat.le_refl _) (by omega) () A B row hs.2.2 hg hr⟩
  case cells =>
    exact fun r A v hs => ⟨hs.1.other _ _ (by simp), hs.2.1.setCell (p := ⟨w.heap.size + 4, 0, none⟩) (by simp) _, hs.2.2⟩
  case start =>
    refine ⟨?_, B0, Nat.le_refl _, hlen, by rw [← hV]; congr 1; omega⟩
    refine Holds.cons (by simp only [a0]; congr 2; omega) af (Holds.cons k2 kf (Holds.cons o1 of (Holds.cons r0 rf (by simp [Holds]))))
  case assign =>
    intro l x W K hK
    have hsem := @Oper.semAt_some
    gi_wp2
    exact hK
  case body =>
    rintro m x r W ⟨hc, hB, hr, hp, hv⟩
    have hsem := @Oper.semAt_some
    have d1 := hc _ (List.mem_cons_self ..)
    have d2 := hc _ (List.mem_cons_of_mem _ (List.mem_cons_self ..))
    have d3 := hc _ (List.mem_cons_of_mem _ (List.mem_cons_of_mem _ (List.mem_cons_self ..)))
    have d4 := hc _ (List.mem_cons_of_mem _ (List.mem_cons_of_mem _ (List.mem_cons_of_mem _ (List.mem_cons_self ..))))
    obtain ⟨q, hq⟩ : ∃ q : Int, f + xs.length - (x :: r).length = q := ⟨_, rfl⟩
    rw [hq] at hc d1 hv
    have q0 : 0 ≤ q := by simp at hq hr; omega
    have q1 : q + 1 ≤ 255 := by simp at hq hr; omega
    have q2 : f + xs.length - r.length = q + 1 := by simp at hq; omega
    have hx : x.size ≤ ws.size := hp x (by simp)
    have hax : ¬ (a.size + x.size > 9223372036854775807) := by omega
    by_cases he : q = op
    · subst he
      gi_wp2_with fail
      refine ⟨(KeepsOthers.setCell _ _ _).from _, rfl, ?_, hB.setCell (p := ⟨w.heap.size + 2, 0, none⟩) (by simp) _⟩
      rw [wordV, if_pos rfl] at hv
      rw [← hv]
      exact Holds.set (Holds.cons d4.1 d4.2 (by simp [Holds])) (by simp)
    · gi_wp2_with fail
      rw [wordV, if_neg he] at hv
      refine ⟨(KeepsOthers.setCell _ _ _).from _, ?_, ?_, hB.setCell (p := ⟨w.heap.size + 3, 0, none⟩) (by simp) _, by simp at hr; omega, fun p h => hp p (by simp [h]), hv⟩
      · exact Keeps.other _ _ _ (by simp)
      · exact Holds.set hc (by simp)
  case done =>
    rintro D W hD ⟨hc, hB, _, _, hv⟩ hK
    have d4 := hc _ (List.mem_cons_of_mem _ (List.mem_cons_of_mem _ (List.mem_cons_of_mem _ (List.mem_cons_self ..))))
    have d5 := d4.1
    have d6 := d4.2
    gi_wp2_with fail
    have hK2 := (KeepsOthers.setCell W ⟨w.heap.size + 2, 0, none⟩ (.string ⟨#[]⟩)).same _ _ hK rfl
    refine ⟨by simp, .inl ⟨_, _, rfl, run_takeDeferred hK2, ?_⟩⟩
    have hH := (Holds.set (v := .string ⟨#[]⟩) (Holds.cons (cs := []) d4.1 d4.2 (by simp [Holds])) (by simp)).turned (.deferred none) hK2 rfl
    have e1 := (hH _ (List.mem_cons_self ..)).1
    have hBB := (hB.setCell (p := ⟨w.heap.size + 2, 0, none⟩) (by simp) (.string ⟨#[]⟩)).trans (belowK_b (w := w) (Nat.le_refl _) _ D _ (.deferred none) (by omega) hK2 rfl rfl)
    generalize World.putObj _ D (.deferred none) = W5 at e1 hBB ⊢
    refine ⟨.string V, ?_, rfl, hBB⟩
    rw [results_one rfl]
    rw [← hv, wordV]
    go_simp
  case stop =>
    rintro D j W hD ⟨rfl, hc, hB⟩ hK
    gi_wp2_with fail
    refine ⟨by simp, .inl ⟨_, _, rfl, run_takeDeferred hK, ?_⟩⟩
    have e1 := ((hc.turned (.deferred none) hK rfl) _ (List.mem_cons_self ..)).1
    have hBB := hB.trans (belowK_b (w := w) (Nat.le_refl _) _ D _ (.deferred none) (by omega) hK rfl rfl)
    generalize World.putObj _ D (.deferred none) = W5 at e1 hBB ⊢
    refine ⟨.string V, ?_, rfl, hBB⟩
    rw [results_one rfl]
    go_simp

theorem text_eq (a b : ByteArray) : (a.toList == b.toList) = decide (a = b) := by
  rw [ByteArray.toList_eq, ByteArray.toList_eq]
  by_cases h : a = b
  · simp [h]
  · rw [decide_eq_false h, beq_eq_false_iff_ne]
    exact fun e => h (ba_ext e)
end Go.Proofs.YtgljlclnmnfocaaDoor
