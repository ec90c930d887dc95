/-
  The walk over Of.
-/
import Derived.Test.YtfcklkmfdjjfoaaDoorRd
import Derived.Test.YtfcklkmfdjjfoaaDoorEql
import Derived.Sort.CutIn
import Derived.Deep.OwnRows
import Derived.RangeFuncBox
namespace Go.Proofs.YtfcklkmfdjjfoaaDoor
open Go.RowKit Go.Shelf
set_option linter.unusedVariables false

/-- One result that lies in a cell. -/
theorem results_one {fn : Func} {p : Tmp} {ty : TypeId} (h : fn.results = #[.cell p ty]) (tmps : Array Value) (P : Program) (w : World) :
    (results fn tmps).run P w = ((asAddr (tmps.getD p undef)).run P w).andThen fun a w₁ => (loadVar ty a).run P w₁ := by
  simp only [results, h]
  simp [Sem.run_bind, Result.andThen]

/-- Of answers: zero, or two lists in memory of their own. -/
def OfO (O : Nat → Int) (n : Nat) (E1 E2 : List Int) (base : Nat) (w : World) (a1 a2 : Option Addr) (m : Nat) : Prop :=
  (¬ ((res O n 0).1 = 0 ∧ E1 = (List.range n).map (enF O n) ∧ E2 = (List.range n).map (elF O n)) ∧ a1 = none ∧ a2 = none ∧ m = 0) ∨
  (Good O n ∧ E1 = (List.range n).map (enF O n) ∧ E2 = (List.range n).map (elF O n) ∧ m = n ∧ ∃ A B, base ≤ A ∧ base ≤ B ∧ A ≠ B ∧ a1 = some ⟨A, 0, none⟩ ∧ a2 = some ⟨B, 0, none⟩ ∧
    RI w A n (fun i => (stF (leB O n) i : Int)) ∧ RI w B n (fun i => (lfF (stF (leB O n)) n i : Int)))

/-- A table as the program holds it. -/
abbrev tabV (sa : Option Addr) (sn sc : Nat) (ea : Option Addr) (en ec : Nat) (la : Option Addr) (ln lc : Nat) (fa : Option Addr) (fn fc : Nat) (hi : Int) : Value :=
  .agg #[.slice sa sn sc, .slice ea en ec, .slice la ln lc, .slice fa fn fc, .int .i64 hi]

/-- An operation is taken first; where it goes is written out. -/
theorem take_at {P : Program} {ops : Array Oper} {Q : Exit → Act → World → Prop} {md : Region.Mode} {S : World → Prop} {i : Nat} {oi : Oper} {d : Option Tmp} {v : Value} {fuel : Nat} {listed : Array Bool} {a : Act} {w : World} (hi : ops[i]? = some oi) (hd : oi.dst = d)
    (hs : Region.noSelect ops = true) (hf : Region.free md ops listed i = true) (hr : (Region.ready md ops listed).contains i = true)
    (hQ : ∀ c a w, Q (.panic c) (a.put d v) w → Q (.panic c) a w) (hy : YieldsIf P ops S oi v a) (hS : S w)
    (h : wpAnyH P md ops Q S fuel (listed.setIfInBounds i true) (a.put d v) w) : wpAnyH P md ops Q S (fuel + 1) listed a w := by
  subst hd
  exact wpAnyH_take hi hs hf hr hQ hy hS h

/-- Two lists of noughts and the cells that hold them, all of them new. -/
def Laid3 (n X : Nat) (w w' : World) : Prop := ∃ A B, w.heap.size ≤ A ∧ w.heap.size ≤ B ∧ w.heap.size ≤ X ∧ A ≠ B ∧ A ≠ X ∧ B ≠ X ∧ RI w' A n (fun _ => 0) ∧ RI w' B n (fun _ => 0) ∧
  w'.cell? ⟨X, 0, none⟩ = some (.slice (some ⟨A, 0, none⟩) n n) ∧ w'.cell? ⟨X, 1, none⟩ = some (.slice (some ⟨B, 0, none⟩) n n) ∧ Below w.heap.size w w'

theorem ri_block {w : World} {B n : Nat} (h : w.heap[B]? = some (.cells (madeCells #[Value.int .i64 0] n) 3)) (hn : n ≤ 1048576) : RI w B n (fun _ => 0) := by
  have e : (madeCells #[Value.int .i64 0] n).toList = fl n (fun _ => 0) := by
    refine (toList_madeCells_one _ _).trans ?_
    apply List.ext_getElem?
    intro j
    by_cases hj : j < n
    · rw [fl_get n _ j hj]; simp [hj]
    · rw [List.getElem?_eq_none (by simp; omega), List.getElem?_eq_none (by rw [fl_len]; omega)]
  refine ⟨(fl_len _ _).trans (by omega), .inr ⟨B, n, madeCells #[Value.int .i64 0] n, rfl, Nat.zero_le _, h, Nat.le_refl _, by unfold maxLen; omega, (size_madeCells _ _).trans (by omega), ?_⟩⟩
  rw [Nat.mul_one, e, List.take_of_length_le (by rw [fl_len]; exact Nat.le_refl _)]
theorem three_heap (w : World) (o1 o2 o3 : Obj) : (((w.alloc o1).alloc o2).alloc o3).drew.heap[w.heap.size]? = some o1 ∧ (((w.alloc o1).alloc o2).alloc o3).drew.heap[w.heap.size + 1]? = some o2 ∧
    (((w.alloc o1).alloc o2).alloc o3).drew.heap[w.heap.size + 1 + 1]? = some o3 ∧ Below w.heap.size w (((w.alloc o1).alloc o2).alloc o3).drew := by
  have b1 := (Below.refl w.heap.size w).alloc (Nat.le_refl _) o1
  have b2 := (Below.refl (w.alloc o1).heap.size (w.alloc o1)).alloc (Nat.le_refl _) o2
  have b3 := (Below.refl ((w.alloc o1).alloc o2).heap.size ((w.alloc o1).alloc o2)).alloc (Nat.le_refl _) o3
  have s1 : (w.alloc o1).heap.size = w.heap.size + 1 := by simp
  have s2 : ((w.alloc o1).alloc o2).heap.size = w.heap.size + 1 + 1 := by simp
  have e2 := World.alloc_heap_new (w.alloc o1) o2
  have e3 := World.alloc_heap_new ((w.alloc o1).alloc o2) o3
  rw [s1] at e2
  rw [s2] at e3
  refine ⟨?_, ?_, e3, ((b1.trans (b2.mono (by omega))).trans (b3.mono (by omega))).drew⟩
  · exact (b3.block _ (by omega)).trans ((b2.block _ (by omega)).trans (World.alloc_heap_new w o1))
  · exact (b3.block _ (by omega)).trans e2
theorem laid3_of {n : Nat} {w w' : World} {A B X : Nat} (T : TypeId) (hA : w'.heap[A]? = some (.cells (madeCells #[Value.int .i64 0] n) 3)) (hB : w'.heap[B]? = some (.cells (madeCells #[Value.int .i64 0] n) 3))
    (hX : w'.heap[X]? = some (.cells #[.slice (some ⟨A, 0, none⟩) n n, .slice (some ⟨B, 0, none⟩) n n] T)) (hd : (w.heap.size ≤ A ∧ w.heap.size ≤ B ∧ w.heap.size ≤ X ∧ A ≠ B ∧ A ≠ X ∧ B ≠ X) ∧ Below w.heap.size w w') (hn : n ≤ 1048576) : Laid3 n X w w' := by
  obtain ⟨⟨d1, d2, d3, d4, d5, d6⟩, hb⟩ := hd
  exact ⟨A, B, d1, d2, d3, d4, d5, d6, ri_block hA hn, ri_block hB hn, by simp [World.cell?, hX], by simp [World.cell?, hX], hb⟩

theorem Kept.set (W : World) (a : Addr) (v : Value) : Kept (fun k => k = a.block) W (W.setCell a v) := by
  have h := (Below.refl 0 W).setCell (p := a) (Nat.zero_le _) v
  exact ⟨h.os, h.tape, h.output, h.size, fun k _ hs => by simp [World.setCell, Array.getElem?_modify, show ¬ a.block = k from fun e => hs e.symm]⟩

/-- Between two rounds of the loop over the segments: all ahead of s is told. -/
structure FMid (L : Nat → Bool) (n X A B base : Nat) (w : World) (s : Nat) (W : World) : Prop where
  le : s ≤ n
  st : RI W A n (fun i => if i < s then (stF L i : Int) else 0)
  lf : RI W B n (fun i => if i < s then (lfF (stF L) n i : Int) else 0)
  x0 : W.cell? ⟨X, 0, none⟩ = some (.slice (some ⟨A, 0, none⟩) n n)
  x1 : W.cell? ⟨X, 1, none⟩ = some (.slice (some ⟨B, 0, none⟩) n n)
  r0 : W.cell? ⟨base + 1, 0, none⟩ = some (.slice none 0 0)
  r1 : W.cell? ⟨base + 1, 1, none⟩ = some (.slice none 0 0)
  f0 : W.frozen? ⟨base + 1, 0, none⟩ = false
  f1 : W.frozen? ⟨base + 1, 1, none⟩ = false
  bel : Below base w W

def FSt (L : Nat → Bool) (n X A B base : Nat) (w : World) (s : Nat) (W : World) : Prop := (s < n → stF L s = s) ∧ FMid L n X A B base w s W

theorem row_not {W : World} {B n : Nat} {f : Nat → Int} (h : RI W B n f) {row : Option Nat} (hr : ∀ q, row = some q → ∃ o : Obj, W.heap[q]? = some o ∧ o.isCells = false) : ¬ (some B = row) := fun e => by
  obtain ⟨o, h1, h2⟩ := hr B e.symm
  obtain ⟨c, h3, _⟩ := Row.block h
  rw [h3] at h1; cases h1; cases h2
theorem FMid.grown {L : Nat → Bool} {n X A B base : Nat} {w : World} {s : Nat} {W W' : World} {row : Option Nat} (h : FMid L n X A B base w s W) (hg : W.grownBy W' row) (hr : ∀ q, row = some q → ∃ o : Obj, W.heap[q]? = some o ∧ o.isCells = false) (hb : ∀ q, row = some q → base ≤ q) : FMid L n X A B base w s W' :=
  ⟨h.le, h.st.kept (Kept.of_grown hg) (row_not h.st hr), h.lf.kept (Kept.of_grown hg) (row_not h.lf hr), cell_kept h.x0 hg hr, cell_kept h.x1 hg hr, cell_kept h.r0 hg hr, cell_kept h.r1 hg hr,
    (frozen_kept h.r0 hg hr).trans h.f0, (frozen_kept h.r1 hg hr).trans h.f1, h.bel.grown hg (by have := block_lt_of_cell h.r0; simp only at this; omega) hb⟩

/-- One pc more. -/
theorem FMid.put {L : Nat → Bool} {n X A B base : Nat} {w : World} {k s b : Nat} {W : World} (h : FMid L n X A B base w k W) (hk : k < n) (h1 : stF L k = s) (h2 : lfF (stF L) n k = b - k) (hb : k ≤ b) (hAB : A ≠ B) (hXA : A ≠ X) (hXB : B ≠ X) (hA : base + 1 < A) (hB : base + 1 < B) :
    FMid L n X A B base w (k + 1) ((W.setCell ⟨A, k, none⟩ (.int .i64 (s : Int))).setCell ⟨B, k, none⟩ (.int .i64 ((b : Int) - (k : Int)))) := by
  have p1 := h.st.put (g := fun i => if i < k + 1 then (stF L i : Int) else 0) k (s : Int) (fun i hi => by
    by_cases e : i = k
    · subst e; simp [h1]
    · by_cases e2 : i < k
      · simp [e, e2, Nat.lt_succ_of_lt e2]
      · have : ¬ i < k + 1 := by omega
        simp [e, e2, this])
  have q1 := h.lf.kept p1.2 (fun e => hAB e.symm)
  have p2 := q1.put (g := fun i => if i < k + 1 then (lfF (stF L) n i : Int) else 0) k ((b : Int) - (k : Int)) (fun i hi => by
    by_cases e : i = k
    · subst e; simp [h2]; omega
    · by_cases e2 : i < k
      · simp [e, e2, Nat.lt_succ_of_lt e2]
      · have : ¬ i < k + 1 := by omega
        simp [e, e2, this])
  have kk : Kept (fun q => q = A ∨ q = B) W ((W.setCell ⟨A, k, none⟩ (.int .i64 (s : Int))).setCell ⟨B, k, none⟩ (.int .i64 ((b : Int) - (k : Int)))) := (p1.2.mono (fun _ x => .inl x)).trans (p2.2.mono (fun _ x => .inr x))
  have fz : ∀ i, ((W.setCell ⟨A, k, none⟩ (.int .i64 (s : Int))).setCell ⟨B, k, none⟩ (.int .i64 ((b : Int) - (k : Int)))).frozen? ⟨base + 1, i, none⟩ = W.frozen? ⟨base + 1, i, none⟩ := fun i => by
    rw [World.frozen?_setCell, World.frozen?_setCell]
  exact ⟨by omega, p1.1.kept p2.2 hAB, p2.1, kk.cell h.x0 (by omega), kk.cell h.x1 (by omega), kk.cell h.r0 (by omega), kk.cell h.r1 (by omega), (fz 0).trans h.f0, (fz 1).trans h.f1, (h.bel.setCell (p := ⟨A, k, none⟩) (by show base ≤ A; omega) _).setCell (p := ⟨B, k, none⟩) (by show base ≤ B; omega) _⟩

theorem FMid.drew {L : Nat → Bool} {n X A B base : Nat} {w : World} {k : Nat} {W : World} (h : FMid L n X A B base w k W) : FMid L n X A B base w k W.drew :=
  ⟨h.le, h.st, h.lf, h.x0, h.x1, h.r0, h.r1, h.f0, h.f1, h.bel.drew⟩

/-- The answer, laid where it is read. -/
theorem some_ans {L : Nat → Bool} {n X A B base : Nat} {w W : World} (h : FMid L n X A B base w n W) (hA : base + 1 < A) (hB : base + 1 < B) :
    let W' := (W.setCell ⟨base + 1, 0, none⟩ (.slice (some ⟨A, 0, none⟩) n n)).setCell ⟨base + 1, 1, none⟩ (.slice (some ⟨B, 0, none⟩) n n)
    RI W' A n (fun i => (stF L i : Int)) ∧ RI W' B n (fun i => (lfF (stF L) n i : Int)) ∧ W'.cell? ⟨base + 1, 0, none⟩ = some (.slice (some ⟨A, 0, none⟩) n n) ∧ W'.cell? ⟨base + 1, 1, none⟩ = some (.slice (some ⟨B, 0, none⟩) n n) ∧ Below base w W' := by
  intro W'
  have k1 : Kept (fun k => k = base + 1) W (W.setCell ⟨base + 1, 0, none⟩ (.slice (some ⟨A, 0, none⟩) n n)) := Kept.set W ⟨base + 1, 0, none⟩ _
  have k2 : Kept (fun k => k = base + 1) (W.setCell ⟨base + 1, 0, none⟩ (.slice (some ⟨A, 0, none⟩) n n)) W' := Kept.set _ ⟨base + 1, 1, none⟩ _
  have kk := k1.trans k2
  refine ⟨(h.st.congr (fun i hi => by rw [if_pos hi])).kept kk (by omega), (h.lf.congr (fun i hi => by rw [if_pos hi])).kept kk (by omega), ?_, ?_, (h.bel.setCell (p := ⟨base + 1, 0, none⟩) (by simp) _).setCell (p := ⟨base + 1, 1, none⟩) (by simp) _⟩
  · show World.cell? _ _ = _
    rw [World.cell?_setCell_other _ _ _ _ (by simp)]
    exact World.cell?_setCell_same' _ _ _ (by rw [h.r0]; rfl)
  · refine World.cell?_setCell_same' _ _ _ ?_
    rw [World.cell?_setCell_other _ _ _ _ (by simp), h.r1]; rfl

theorem ans_turned {L : Nat → Bool} {n A B base D : Nat} {w W' : World} (h : RI W' A n (fun i => (stF L i : Int)) ∧ RI W' B n (fun i => (lfF (stF L) n i : Int)) ∧ W'.cell? ⟨base + 1, 0, none⟩ = some (.slice (some ⟨A, 0, none⟩) n n) ∧ W'.cell? ⟨base + 1, 1, none⟩ = some (.slice (some ⟨B, 0, none⟩) n n) ∧ Below base w W')
    (hD : W'.heap[D]? = some (.deferred (some []))) (hb : base ≤ D) :
    RI (W'.putObj D (.deferred none)) A n (fun i => (stF L i : Int)) ∧ RI (W'.putObj D (.deferred none)) B n (fun i => (lfF (stF L) n i : Int)) ∧ (W'.putObj D (.deferred none)).cell? ⟨base + 1, 0, none⟩ = some (.slice (some ⟨A, 0, none⟩) n n) ∧
      (W'.putObj D (.deferred none)).cell? ⟨base + 1, 1, none⟩ = some (.slice (some ⟨B, 0, none⟩) n n) ∧ Below base w (W'.putObj D (.deferred none)) := by
  obtain ⟨h1, h2, h3, h4, h5⟩ := h
  have hg := grownBy_putObj' W' D (.deferred none)
  have hr : ∀ q, some D = some q → ∃ o : Obj, W'.heap[q]? = some o ∧ o.isCells = false := fun q e => by cases e; exact ⟨_, hD, rfl⟩
  exact ⟨h1.kept (Kept.of_grown hg) (row_not h1 hr), h2.kept (Kept.of_grown hg) (row_not h2 hr), cell_kept h3 hg hr, cell_kept h4 hg hr, h5.grown hg (by have := block_lt_of_cell h3; simp only at this; omega) (fun q e => by cases e; exact hb)⟩

theorem Keeps.other {ps : List Addr} (W : World) (c : Addr) (v : Value) (hc : ∀ p ∈ ps, c ≠ p) : Keeps ps W (W.setCell c v) :=
  fun p hp u hu => ⟨(World.cell?_setCell_other _ _ _ _ (hc p hp)).trans hu, World.frozen?_setCell _ _ _ _⟩
theorem psG_ne {bx G n A k : Nat} (h1 : A ≠ bx) (h2 : A ≠ G) : ∀ p ∈ psG bx G n, (⟨A, k, none⟩ : Addr) ≠ p := by
  intro p hp e
  simp only [psG, List.mem_cons, List.mem_map, List.mem_range] at hp
  rcases hp with rfl | ⟨i, _, rfl⟩
  · injection e with e1; exact h1 e1
  · injection e with e1; exact h2 e1

theorem zero_ans {w w1 : World} (hb : Below w.heap.size w w1) (r0' : w1.cell? ⟨w.heap.size + 1, 0, none⟩ = some (.slice none 0 0)) (r1' : w1.cell? ⟨w.heap.size + 1, 1, none⟩ = some (.slice none 0 0)) :
    Below w.heap.size w ((w1.setCell ⟨w.heap.size + 1, 0, none⟩ (.slice none 0 0)).setCell ⟨w.heap.size + 1, 1, none⟩ (.slice none 0 0)) ∧
    ((w1.setCell ⟨w.heap.size + 1, 0, none⟩ (.slice none 0 0)).setCell ⟨w.heap.size + 1, 1, none⟩ (.slice none 0 0)).cell? ⟨w.heap.size + 1, 0, none⟩ = some (.slice none 0 0) ∧
    ((w1.setCell ⟨w.heap.size + 1, 0, none⟩ (.slice none 0 0)).setCell ⟨w.heap.size + 1, 1, none⟩ (.slice none 0 0)).cell? ⟨w.heap.size + 1, 1, none⟩ = some (.slice none 0 0) := by
  refine ⟨(hb.setCell (by simp) _).setCell (by simp) _, ?_, ?_⟩
  · rw [World.cell?_setCell_other _ _ _ _ (by simp)]
    exact World.cell?_setCell_same' _ _ _ (by rw [r0']; rfl)
  · refine World.cell?_setCell_same' _ _ _ ?_
    rw [World.cell?_setCell_other _ _ _ _ (by simp), r1']; rfl

set_option maxRecDepth 100000 in
set_option maxHeartbeats 8000000 in
theorem ofC (a : Option Addr) (n cap : Nat) (xs : List Inx) (sa : Option Addr) (sn sc : Nat) (ea : Option Addr) (en ec : Nat) (la : Option Addr) (ln lc : Nat) (fa : Option Addr) (fn fc : Nat) (hi : Int) (E1 E2 : List Int)
    (w : World) (hn : n ≤ 1048576) (hcap : n ≤ cap) (hc : CodS w a n xs) (h1 : SegL w ea en ec E1) (h2 : SegL w la ln lc E2) :
    Calls Tryd.prog 9 #[.slice a n cap, tabV sa sn sc ea en ec la ln lc fa fn fc hi] w fun e w' => ∃ a1 a2 m, e = .returned (.agg #[.slice a1 m m, .slice a2 m m]) ∧ OfO (opF xs) n E1 E2 w.heap.size w' a1 a2 m ∧ Below w.heap.size w w' := by
  have HC := hid hc
  have H1 := hid h1
  have H2 := hid h2
  clear hc h1 h2
  obtain ⟨ot, hot⟩ : ∃ ot, ot = Obj.cells #[Value.slice sa sn sc, .slice ea en ec, .slice la ln lc, .slice fa fn fc, .int .i64 hi] 26 := ⟨_, rfl⟩
  obtain ⟨ob, hob⟩ : ∃ ob, ob = Obj.cells #[Value.slice none 0 0, .slice none 0 0] 33 := ⟨_, rfl⟩
  have hb0 : Below w.heap.size w ((w.alloc ot).alloc ob) := ((Below.refl _ w).alloc (Nat.le_refl _) ot).alloc (by simp) ob
  have HM := hid (map_in a n cap xs ((w.alloc ot).alloc ob) hn hcap (HC.out.later hb0 (Nat.le_refl _)))
  have t1 : ((w.alloc ot).alloc ob).cell? ⟨w.heap.size, 1, none⟩ = some (.slice ea en ec) := by rw [hot, hob]; simp [go_sem]
  have t2 : ((w.alloc ot).alloc ob).cell? ⟨w.heap.size, 2, none⟩ = some (.slice la ln lc) := by rw [hot, hob]; simp [go_sem]
  have r0 : ((w.alloc ot).alloc ob).cell? ⟨w.heap.size + 1, 0, none⟩ = some (.slice none 0 0) := by rw [hot, hob]; simp [go_sem]
  have r1 : ((w.alloc ot).alloc ob).cell? ⟨w.heap.size + 1, 1, none⟩ = some (.slice none 0 0) := by rw [hot, hob]; simp [go_sem]
  have fr : ∀ i, ((w.alloc ot).alloc ob).frozen? ⟨w.heap.size + 1, i, none⟩ = false := fun i => by rw [hot, hob]; simp [go_sem]
  have z0 : ((w.alloc ot).alloc ob).heap.size = w.heap.size + 2 := by simp
  refine (callsIn_wide (n := 5)).1 ?_
  refine callsIn_of_wp_marks Tryd.func9 rfl trivial ?_ rfl
  simp only [Tryd.ntmps9, List.size_toArray, List.length_cons, List.length_nil, Nat.reduceAdd, Nat.reduceSub, Array.replicate_succ, Array.replicate_zero, List.push_toArray, List.append_toArray, List.nil_append, List.cons_append]
  gi_wp2_with fail
  refine ⟨trivial, ?_⟩
  rw [← hot, ← hob]
  clear hot hob
  generalize (w.alloc ot).alloc ob = W0 at *
  refine (callsIn_wide.2 HM.out).mono ?_
  rintro e w1 ⟨a1, a2, a3, m, rfl, hM, hb1⟩
  clear HM
  have hs1 := hb1.size
  have hbw := hb0.trans (hb1.mono (by omega))
  have t1' := (hb1.cell (p := ⟨w.heap.size, 1, none⟩) (by show w.heap.size < _; omega)).trans t1
  have t2' := (hb1.cell (p := ⟨w.heap.size, 2, none⟩) (by show w.heap.size < _; omega)).trans t2
  have r0' := (hb1.cell (p := ⟨w.heap.size + 1, 0, none⟩) (by show w.heap.size + 1 < _; omega)).trans r0
  have r1' := (hb1.cell (p := ⟨w.heap.size + 1, 1, none⟩) (by show w.heap.size + 1 < _; omega)).trans r1
  have fr' : ∀ i, w1.frozen? ⟨w.heap.size + 1, i, none⟩ = false := fun i => (frozen_of_block (hb1.block (w.heap.size + 1) (by omega)) i).trans (fr i)
  have HB := hid hbw
  clear t1 t2 r0 r1 fr hb0
  rcases hM with ⟨h0, rfl, rfl, rfl, rfl⟩ | ⟨hr, hg, hm, A, B, C, x1, x2, x3, x4, x5, x6, rfl, rfl, rfl, y1, y2, y3⟩
  · have HN := hid (show ¬ ((res (opF xs) n 0).1 = 0 ∧ E1 = (List.range n).map (enF (opF xs) n) ∧ E2 = (List.range n).map (elF (opF xs) n)) from fun x => h0 x.1)
    have h0' : ((res (opF xs) n 0).1 != 0) = true := by simpa using h0
    have f0 := fr' 0
    have f1 := fr' 1
    clear h0 hbw hb1 fr'
    generalize (res (opF xs) n 0).1 = er0 at h0' ⊢
    generalize (res (opF xs) n 0).2 = er1 at *
    gi_wp2_with fail
    refine ⟨trivial, ?_⟩
    gi_wp2_with fail
    refine ⟨trivial, ?_⟩
    gi_wp2_with fail
    have Z := zero_ans HB.out r0' r1'
    generalize ((w1.setCell ⟨w.heap.size + 1, 0, none⟩ (.slice none 0 0)).setCell ⟨w.heap.size + 1, 1, none⟩ (.slice none 0 0)) = W5 at *
    obtain ⟨hk0, q0, q1⟩ := Z
    refine ⟨.agg #[.slice none 0 0, .slice none 0 0], ?_, none, none, 0, rfl, .inl ⟨HN.out, rfl, rfl, rfl⟩, hk0⟩
    rw [results_one rfl]
    go_simp
  have hm' := hm.symm
  subst hm'
  rw [hr]
  have f0 := fr' 0
  have f1 := fr' 1
  have HG := hid hg
  have HE := hid (eql ea (some ⟨A, 0, none⟩) en n ec n E1 _ w1 (H1.out.later hbw (Nat.le_refl _)) (y1.segL hn))
  have HY1 := hid y1
  have HY2 := hid y2
  have HR := hid hr
  clear hr hg y1 y2 y3 hb1 hbw fr'
  gi_wp2_with fail
  refine ⟨trivial, ?_⟩
  refine (callsIn_wide.2 HE.out).mono ?_
  rintro e w2 ⟨rfl, hk2⟩
  clear HE
  have r0'' := hk2.cell r0' (fun x => x)
  have r1'' := hk2.cell r1' (fun x => x)
  have t2'' := hk2.cell t2' (fun x => x)
  have f0' : w2.frozen? ⟨w.heap.size + 1, 0, none⟩ = false := (frozen_of_block (hk2.block (w.heap.size + 1) (by omega) (fun x => x)) 0).trans f0
  have f1' : w2.frozen? ⟨w.heap.size + 1, 1, none⟩ = false := (frozen_of_block (hk2.block (w.heap.size + 1) (by omega) (fun x => x)) 1).trans f1
  have hbw2 := below_kept HB.out hk2 HB.out.size (fun _ x => x.elim)
  have HY1' := hid (HY1.out.kept hk2 (fun x => x))
  have HY2' := hid (HY2.out.kept hk2 (fun x => x))
  have hs2 := hk2.size
  have HB2 := hid hbw2
  clear r0' r1' t1' t2' f0 f1 HY1 HY2 HB hk2
  by_cases hE1 : ¬ E1 = (List.range n).map (enF (opF xs) n)
  · have HN := hid (show ¬ ((res (opF xs) n 0).1 = 0 ∧ E1 = (List.range n).map (enF (opF xs) n) ∧ E2 = (List.range n).map (elF (opF xs) n)) from fun x => hE1 x.2.1)
    rw [decide_eq_false hE1]
    clear hbw2 hE1
    gi_wp2_with fail
    refine ⟨trivial, ?_⟩
    gi_wp2_with fail
    have Z := zero_ans HB2.out r0'' r1''
    generalize ((w2.setCell ⟨w.heap.size + 1, 0, none⟩ (.slice none 0 0)).setCell ⟨w.heap.size + 1, 1, none⟩ (.slice none 0 0)) = W5 at *
    obtain ⟨hk0, q0, q1⟩ := Z
    refine ⟨.agg #[.slice none 0 0, .slice none 0 0], ?_, none, none, 0, rfl, .inl ⟨HN.out, rfl, rfl, rfl⟩, hk0⟩
    rw [results_one rfl]
    go_simp
  have hE1 := Classical.not_not.1 hE1
  rw [decide_eq_true hE1]
  have HEE := hid hE1
  have HE := hid (eql la (some ⟨B, 0, none⟩) ln n lc n E2 _ w2 (H2.out.later hbw2 (Nat.le_refl _)) (HY2'.out.segL hn))
  clear hE1 hbw2
  gi_wp2_with fail
  refine ⟨trivial, ?_⟩
  refine (callsIn_wide.2 HE.out).mono ?_
  rintro e w3 ⟨rfl, hk2⟩
  clear HE
  have r0' := hk2.cell r0'' (fun x => x)
  have r1' := hk2.cell r1'' (fun x => x)
  have f0 : w3.frozen? ⟨w.heap.size + 1, 0, none⟩ = false := (frozen_of_block (hk2.block (w.heap.size + 1) (by omega) (fun x => x)) 0).trans f0'
  have f1 : w3.frozen? ⟨w.heap.size + 1, 1, none⟩ = false := (frozen_of_block (hk2.block (w.heap.size + 1) (by omega) (fun x => x)) 1).trans f1'
  have hbw3 := below_kept HB2.out hk2 HB2.out.size (fun _ x => x.elim)
  have HY1 := hid (HY1'.out.kept hk2 (fun x => x))
  have hs3 := hk2.size
  have HB3 := hid hbw3
  clear r0'' r1'' t2'' f0' f1' HY1' HY2' HB2 hk2
  by_cases hE2 : ¬ E2 = (List.range n).map (elF (opF xs) n)
  · have HN := hid (show ¬ ((res (opF xs) n 0).1 = 0 ∧ E1 = (List.range n).map (enF (opF xs) n) ∧ E2 = (List.range n).map (elF (opF xs) n)) from fun x => hE2 x.2.2)
    rw [decide_eq_false hE2]
    clear hbw3 hE2
    gi_wp2_with fail
    have Z := zero_ans HB3.out r0' r1'
    generalize ((w3.setCell ⟨w.heap.size + 1, 0, none⟩ (.slice none 0 0)).setCell ⟨w.heap.size + 1, 1, none⟩ (.slice none 0 0)) = W5 at *
    obtain ⟨hk0, q0, q1⟩ := Z
    refine ⟨.agg #[.slice none 0 0, .slice none 0 0], ?_, none, none, 0, rfl, .inl ⟨HN.out, rfl, rfl, rfl⟩, hk0⟩
    rw [results_one rfl]
    go_simp
  have hE2 := Classical.not_not.1 hE2
  rw [decide_eq_true hE2]
  have HEF := hid hE2
  have hmk := run_make_row' (P := Tryd.prog) 24 3 (.int .i64 0) 8 Tryd.underlying24 Tryd.infInts rfl .i64 .i64 n (by omega) (by omega)
  have hn0 := HG.out.1
  obtain ⟨b, off, rfl, hcd⟩ := HC.out.2.resolve_left (by omega)
  have HCD := hid hcd
  clear hE2 hbw3 hcd HC H1 H2
  have hfol : Tryd.prog.follows .mixedOrders = true := by kernel_rfl
  gi_wp2_with fail
  gi_cut [10] from 14 (fun s10 wc => ∃ X, s10 = .pointer (some ⟨X, 0, none⟩) ∧ Laid3 n X w3 wc)
  case first =>
    gi_region
    all_goals
      gi_wp2_with fail
      gi_meet
      case rel =>
        first
          | exact ⟨_, rfl, laid3_of _ (three_heap w3 _ _ _).1 (three_heap w3 _ _ _).2.1 (three_heap w3 _ _ _).2.2.1 ⟨by omega, (three_heap w3 _ _ _).2.2.2⟩ hn⟩
          | exact ⟨_, rfl, laid3_of _ (three_heap w3 _ _ _).1 (three_heap w3 _ _ _).2.2.1 (three_heap w3 _ _ _).2.1 ⟨by omega, (three_heap w3 _ _ _).2.2.2⟩ hn⟩
          | exact ⟨_, rfl, laid3_of _ (three_heap w3 _ _ _).2.1 (three_heap w3 _ _ _).1 (three_heap w3 _ _ _).2.2.1 ⟨by omega, (three_heap w3 _ _ _).2.2.2⟩ hn⟩
          | exact ⟨_, rfl, laid3_of _ (three_heap w3 _ _ _).2.1 (three_heap w3 _ _ _).2.2.1 (three_heap w3 _ _ _).1 ⟨by omega, (three_heap w3 _ _ _).2.2.2⟩ hn⟩
          | exact ⟨_, rfl, laid3_of _ (three_heap w3 _ _ _).2.2.1 (three_heap w3 _ _ _).1 (three_heap w3 _ _ _).2.1 ⟨by omega, (three_heap w3 _ _ _).2.2.2⟩ hn⟩
          | exact ⟨_, rfl, laid3_of _ (three_heap w3 _ _ _).2.2.1 (three_heap w3 _ _ _).2.1 (three_heap w3 _ _ _).1 ⟨by omega, (three_heap w3 _ _ _).2.2.2⟩ hn⟩
  case rest =>
    obtain ⟨X, rfl, A2, B2, d1, d2, d3, d4, d5, d6, hA2, hB2, cx0, cx1, hbc⟩ := hcut
    have hsc := hbc.size
    have hbw := HB3.out.trans (hbc.mono HB3.out.size)
    have HL := hid (leadersC A b off n cap xs wc hn hcap (HCD.out.later hbw (Nat.le_refl _)) HG.out (HY1.out.later hbc (Nat.le_refl _)))
    have r0c := (hbc.cell (p := ⟨w.heap.size + 1, 0, none⟩) (by show w.heap.size + 1 < _; omega)).trans r0'
    have r1c := (hbc.cell (p := ⟨w.heap.size + 1, 1, none⟩) (by show w.heap.size + 1 < _; omega)).trans r1'
    have f0c := (frozen_of_block (hbc.block (w.heap.size + 1) (by omega)) 0).trans f0
    have f1c := (frozen_of_block (hbc.block (w.heap.size + 1) (by omega)) 1).trans f1
    have HA2 := hid hA2
    have HB2 := hid hB2
    have HX0 := hid cx0
    have HX1 := hid cx1
    have HR0 := hid r0c
    have HR1 := hid r1c
    have HF0 := hid f0c
    have HF1 := hid f1c
    have HBW := hid hbw
    have lA2 := hA2.lt
    have lB2 := hB2.lt
    have lX : X < wc.heap.size := block_lt_of_cell cx0
    clear hA2 hB2 cx0 cx1 r0c r1c f0c f1c hbw r0' r1' f0 f1 hmk
    gi_wp2_with fail
    refine ⟨trivial, ?_⟩
    refine (callsIn_wide.2 HL.out).mono ?_
    rintro e w5 ⟨G, rfl, hG0, hG, hb5⟩
    have lG := hG.lt
    have hs5 := hb5.size
    have HG5 := hid hG
    have HB5 := hid hb5
    clear hG hb5 HL
    gi_wp2_with fail
    refine ⟨trivial, ?_⟩
    refine (callsIn_wide.2 (segmentsC _ _ _ w5)).mono ?_
    rintro e w6 ⟨rfl, rfl⟩
    gi_wp2_with fail
    obtain ⟨W0, hW0⟩ : ∃ W0, w5.alloc (.cells #[.slice (some ⟨G, 0, none⟩) n n] 35) = W0 := ⟨_, rfl⟩
    rw [hW0]
    have b6 : Below w5.heap.size w5 W0 := by rw [← hW0]; exact (Below.refl _ w5).alloc (Nat.le_refl _) _
    have z6 : W0.heap.size = w5.heap.size + 1 := by rw [← hW0]; simp
    have hsn : Seen (leB (opF xs) n) w5.heap.size G n W0 := by
      refine ⟨by rw [← hW0, World.cell?_alloc_new]; rfl, fun i hi => ?_⟩
      rw [b6.cell (p := ⟨G, i, none⟩) (by exact lG)]
      exact HG5.out.cell i hi
    have b56 : Below wc.heap.size wc W0 := HB5.out.trans (b6.mono hs5)
    have HF := hid (feedsSeg 4 w5.heap.size G n (leB (opF xs) n) W0 hn hsn)
    have hwc : w.heap.size + 1 < wc.heap.size := by omega
    have h00 : FSt (leB (opF xs) n) n X A2 B2 w.heap.size w 0 W0 := by
      refine ⟨fun _ => rfl, by omega, (HA2.out.later b56 (Nat.le_refl _)).congr (fun i _ => by simp), (HB2.out.later b56 (Nat.le_refl _)).congr (fun i _ => by simp), ?_, ?_, ?_, ?_, ?_, ?_, HBW.out.trans (b56.mono HBW.out.size)⟩
      · exact (b56.cell (p := ⟨X, 0, none⟩) (by exact lX)).trans HX0.out
      · exact (b56.cell (p := ⟨X, 1, none⟩) (by exact lX)).trans HX1.out
      · exact (b56.cell (p := ⟨w.heap.size + 1, 0, none⟩) (by exact hwc)).trans HR0.out
      · exact (b56.cell (p := ⟨w.heap.size + 1, 1, none⟩) (by exact hwc)).trans HR1.out
      · exact (frozen_of_block (b56.block (w.heap.size + 1) hwc) 0).trans HF0.out
      · exact (frozen_of_block (b56.block (w.heap.size + 1) hwc) 1).trans HF1.out
    have H00 := hid h00
    clear h00 b56 b6 hsn hW0
    refine range_feedsS rfl (by decide) (gf := 61) (lb := #[.pointer (some ⟨w5.heap.size, 0, none⟩)]) rfl trivial (enters_of Tryd.func61 (by kernel_rfl) rfl)
      (encs := fun s : Nat => #[.int .i64 (s : Int), .int .i64 ((s + lfF (stF (leB (opF xs) n)) n s : Nat) : Int)]) (fun _ => rfl) HF.out
      (fun s W => FSt (leB (opF xs) n) n X A2 B2 w.heap.size w s W) ?own H00.out
      (fun s => { tmps := #[.slice (some ⟨b, off, none⟩) n cap, tabV sa sn sc ea en ec la ln lc fa fn fc hi, undef, .pointer (some ⟨w.heap.size, 0, none⟩), .pointer (some ⟨w.heap.size + 1, 0, none⟩), .slice (some ⟨A, 0, none⟩) n n, .slice (some ⟨B, 0, none⟩) n n, .slice (some ⟨C, 0, none⟩) n n, .int .i64 0, .int .i64 0, .pointer (some ⟨X, 0, none⟩), .int .i64 (s : Int), .int .i64 ((s + lfF (stF (leB (opF xs) n)) n s : Nat) : Int), undef, u14, u15, u16, u17, u18, u19, u20, u21, u22, u23, u24, u25, u26, u27, u28, u29, u30, u31, u32, u33, u34, u35, u36, u37, u38, u39, u40, u41, u42, u43, u44, u45, .slice (some ⟨b, off, none⟩) n cap, .slice (some ⟨A, 0, none⟩) n n, .slice (some ⟨G, 0, none⟩) n n, .func (.func 61) #[] #[.pointer (some ⟨w5.heap.size, 0, none⟩)], .int .i64 (s : Int), .int .i64 ((s + lfF (stF (leB (opF xs) n)) n s : Nat) : Int), u52, u53, u54, u55, u56, u57, u58, u59, u60, u61, u62, u63, u64, u65, u66, u67, u68, u69, u70], defers := [] }) ?assign ?body ?done
    case own =>
      exact fun s W W' row hs hg hr => ⟨hs.1, hs.2.grown hg (fun q e => (hr q e).2) (fun q e => by have := (hr q e).1; omega)⟩
    case assign =>
      intro l s W K hK
      have hsem := @Oper.semAt_some
      gi_wp2
      exact hK
    case body =>
      rintro l s W hm ⟨hbeg, hst⟩
      have hsem := @Oper.semAt_some
      obtain ⟨c1, c2, c3, c4⟩ := lfF_spec (S := stF (leB (opF xs) n)) hm
      have hbs := hbeg hm
      have hnx := fun h => st_behind (L := leB (opF xs) n) hm h
      have hall : ∀ k, s ≤ k → k < s + lfF (stF (leB (opF xs) n)) n s → stF (leB (opF xs) n) k = s ∧ lfF (stF (leB (opF xs) n)) n k = s + lfF (stF (leB (opF xs) n)) n s - k := fun k h1 h2 => by
        have e1 := c2 (k - s) (by omega)
        rw [show s + (k - s) = k by omega, hbs] at e1
        refine ⟨e1, ?_⟩
        have e2 := lfF_whole (L := leB (opF xs) n) (p := k) (n := n) (by omega)
        rw [e1] at e2
        omega
      have HALL := hid hall
      have HNX := hid hnx
      have HST := hid hst
      clear hall hnx hst hbeg hbs c2 c4
      have hsb : s < s + lfF (stF (leB (opF xs) n)) n s := by omega
      generalize hb : s + lfF (stF (leB (opF xs) n)) n s = be at *
      have HBE := hid hb
      clear hb
      gi_wp2_with fail
      gi_loopw [13] (fun i wr => ∃ k : Nat, s ≤ k ∧ k ≤ be ∧ i = .int .i64 k ∧ FMid (leB (opF xs) n) n X A2 B2 w.heap.size w k wr ∧ KeepsOthers W wr ∧ Keeps (psG w5.heap.size G n) W wr) (fun i _ => n - (intOf i).toNat)
      case atStart => exact ⟨s, by omega, by omega, rfl, HST.out, KeepsOthers.refl _, Keeps.refl _ _⟩
      case round =>
        obtain ⟨k, k1, k2, rfl, hmid, hko, hkp⟩ := hrel
        by_cases hkb : k < be
        · have hkb' : (k : Int) < (be : Int) := by omega
          have g0 := hmid.x0
          have g1 := hmid.x1
          have g2 := hmid.st.cell k (by omega)
          have g3 := hmid.st.free k
          have g4 := hmid.lf.cell k (by omega)
          have g5 := hmid.lf.free k
          have hput := hmid.put (by omega) (HALL.out k k1 hkb).1 (HALL.out k k1 hkb).2 k2 d4 d5 d6 (by omega) (by omega)
          have hko2 := (hko.trans (KeepsOthers.setCell wr ⟨A2, k, none⟩ (.int .i64 (s : Int)))).trans (KeepsOthers.setCell _ ⟨B2, k, none⟩ (.int .i64 ((be : Int) - (k : Int))))
          have hkp2 := (hkp.trans (Keeps.other wr ⟨A2, k, none⟩ (.int .i64 (s : Int)) (psG_ne (by omega) (by omega)))).trans (Keeps.other _ ⟨B2, k, none⟩ (.int .i64 ((be : Int) - (k : Int))) (psG_ne (by omega) (by omega)))
          have HP := hid hput
          have HO2 := hid hko2
          have HP2 := hid hkp2
          have hkn : (k : Int) < (n : Int) := by omega
          rw [if_neg (by omega)] at g2 g4
          clear hmid hko hkp hput hko2 hkp2
          gi_wp2_with fail
          refine region_round (S := fun W => W.cell? ⟨X, 0, none⟩ = some (.slice (some ⟨A2, 0, none⟩) n n) ∧ W.cell? ⟨X, 1, none⟩ = some (.slice (some ⟨B2, 0, none⟩) n n)) (by kernel_rfl) (by kernel_rfl) (fun ⟨_, _, h⟩ => h) ?_ (fun hHeld => ?_)
          · ((try dsimp only); go_keep)
          refine take_at (i := 0) (d := some 58) (v := ?_) rfl (by kernel_rfl) (by kernel_rfl) (by kernel_rfl) (by kernel_rfl) (fun _ _ _ h => h) (Or.inl ⟨by kernel_rfl, ?_⟩) hHeld ?_
          rotate_left 1
          · (intro w hSw; (try dsimp only at hSw); go_simp; try with_reducible rfl)
          try simp only [Act.put, List.setIfInBounds_toArray, List.set_cons_zero, List.set_cons_succ]
          refine take_at (i := 1) (d := some 59) (v := ?_) rfl (by kernel_rfl) (by kernel_rfl) (by kernel_rfl) (by kernel_rfl) (fun _ _ _ h => h) (Or.inl ⟨by kernel_rfl, ?_⟩) hHeld ?_
          rotate_left 1
          · (intro w hSw; (try dsimp only at hSw); go_simp; try with_reducible rfl)
          try simp only [Act.put, List.setIfInBounds_toArray, List.set_cons_zero, List.set_cons_succ]
          refine take_at (i := 2) (d := some 60) (v := ?_) rfl (by kernel_rfl) (by kernel_rfl) (by kernel_rfl) (by kernel_rfl) (fun _ _ _ h => h) (Or.inl ⟨by kernel_rfl, ?_⟩) hHeld ?_
          rotate_left 1
          · (intro w hSw; (try dsimp only at hSw); go_simp; try with_reducible rfl)
          try simp only [Act.put, List.setIfInBounds_toArray, List.set_cons_zero, List.set_cons_succ]
          refine take_at (i := 3) (d := some 61) (v := ?_) rfl (by kernel_rfl) (by kernel_rfl) (by kernel_rfl) (by kernel_rfl) (fun _ _ _ h => h) (Or.inl ⟨by kernel_rfl, ?_⟩) hHeld ?_
          rotate_left 1
          · (intro w hSw; (try dsimp only at hSw); go_simp; try with_reducible rfl)
          try simp only [Act.put, List.setIfInBounds_toArray, List.set_cons_zero, List.set_cons_succ]
          refine take_at (i := 4) (d := some 62) (v := ?_) rfl (by kernel_rfl) (by kernel_rfl) (by kernel_rfl) (by kernel_rfl) (fun _ _ _ h => h) (Or.inl ⟨by kernel_rfl, ?_⟩) hHeld ?_
          rotate_left 1
          · (intro w hSw; (try dsimp only at hSw); go_simp; try with_reducible rfl)
          try simp only [Act.put, List.setIfInBounds_toArray, List.set_cons_zero, List.set_cons_succ]
          refine take_at (i := 5) (d := some 63) (v := ?_) rfl (by kernel_rfl) (by kernel_rfl) (by kernel_rfl) (by kernel_rfl) (fun _ _ _ h => h) (Or.inl ⟨by kernel_rfl, ?_⟩) hHeld ?_
          rotate_left 1
          · (intro w hSw; (try dsimp only at hSw); go_simp; try with_reducible rfl)
          try simp only [Act.put, List.setIfInBounds_toArray, List.set_cons_zero, List.set_cons_succ]
          refine take_at (i := 6) (d := some 64) (v := ?_) rfl (by kernel_rfl) (by kernel_rfl) (by kernel_rfl) (by kernel_rfl) (fun _ _ _ h => h) (Or.inl ⟨by kernel_rfl, ?_⟩) hHeld ?_
          rotate_left 1
          · (intro w hSw; (try dsimp only at hSw); go_simp; try with_reducible rfl)
          try simp only [Act.put, List.setIfInBounds_toArray, List.set_cons_zero, List.set_cons_succ]
          refine take_at (i := 7) (d := some 65) (v := ?_) rfl (by kernel_rfl) (by kernel_rfl) (by kernel_rfl) (by kernel_rfl) (fun _ _ _ h => h) (Or.inl ⟨by kernel_rfl, ?_⟩) hHeld ?_
          rotate_left 1
          · (intro w hSw; (try dsimp only at hSw); go_simp; try with_reducible rfl)
          try simp only [Act.put, List.setIfInBounds_toArray, List.set_cons_zero, List.set_cons_succ]
          refine take_at (i := 8) (d := some 66) (v := ?_) rfl (by kernel_rfl) (by kernel_rfl) (by kernel_rfl) (by kernel_rfl) (fun _ _ _ h => h) (Or.inl ⟨by kernel_rfl, ?_⟩) hHeld ?_
          rotate_left 1
          · (intro w hSw; (try dsimp only at hSw); go_simp; try with_reducible rfl)
          try simp only [Act.put, List.setIfInBounds_toArray, List.set_cons_zero, List.set_cons_succ]
          refine take_at (i := 9) (d := some 67) (v := ?_) rfl (by kernel_rfl) (by kernel_rfl) (by kernel_rfl) (by kernel_rfl) (fun _ _ _ h => h) (Or.inl ⟨by kernel_rfl, ?_⟩) hHeld ?_
          rotate_left 1
          · (intro w hSw; (try dsimp only at hSw); go_simp; try with_reducible rfl)
          try simp only [Act.put, List.setIfInBounds_toArray, List.set_cons_zero, List.set_cons_succ]
          refine take_at (i := 10) (d := some 68) (v := ?_) rfl (by kernel_rfl) (by kernel_rfl) (by kernel_rfl) (by kernel_rfl) (fun _ _ _ h => h) (Or.inl ⟨by kernel_rfl, ?_⟩) hHeld ?_
          rotate_left 1
          · (intro w hSw; (try dsimp only at hSw); go_simp; try with_reducible rfl)
          try simp only [Act.put, List.setIfInBounds_toArray, List.set_cons_zero, List.set_cons_succ]
          refine wpAnyH_ready (rs := [11]) (by kernel_rfl) (by simp) ?_
          refine AllReadyH.cons rfl (fun K hK => ?_) AllReadyH.nil
          go_simp
          refine hK.out _ _ ?_ (fun hHeld => ?_)
          · ((try dsimp only); go_keep)
          clear hK K
          try simp only [Act.put, List.setIfInBounds_toArray, List.set_cons_zero, List.set_cons_succ]
          refine take_at (i := 12) (d := some 69) (v := ?_) rfl (by kernel_rfl) (by kernel_rfl) (by kernel_rfl) (by kernel_rfl) (fun _ _ _ h => h) (Or.inl ⟨by kernel_rfl, ?_⟩) hHeld ?_
          rotate_left 1
          · (intro w hSw; (try dsimp only at hSw); go_simp; try with_reducible rfl)
          try simp only [Act.put, List.setIfInBounds_toArray, List.set_cons_zero, List.set_cons_succ]
          refine wpAnyH_ready (rs := [13]) (by kernel_rfl) (by simp) ?_
          refine AllReadyH.cons rfl (fun K hK => ?_) AllReadyH.nil
          go_simp
          refine hK.out _ _ ?_ (fun hHeld => ?_)
          · ((try dsimp only); go_keep)
          clear hK K
          try simp only [Act.put, List.setIfInBounds_toArray, List.set_cons_zero, List.set_cons_succ]
          refine wpAnyH_done (by kernel_rfl) ?_ _
          gi_wp2_with fail
          exact ⟨⟨k + 1, by omega, by omega, by go_num, HP.out.drew, HO2.out.trans (KeepsOthers.drew _), fun p hp v hv => HP2.out p hp v hv⟩, by simp [intOf]; omega⟩
        · obtain rfl : k = be := by omega
          have hkb' : ¬ (k : Int) < (k : Int) := by omega
          have HM := hid hmid
          have HO := hid hko
          have HP := hid hkp
          clear hmid hko hkp
          gi_wp2_with fail
          exact ⟨HO.out.from _, HP.out, HNX.out, HM.out⟩
    case done =>
      rintro D s W hD hm ⟨_, hst⟩ hK
      have hsn : s = n := by have := hst.le; omega
      subst hsn
      have g0 := hst.x0
      have g1 := hst.x1
      have g2 := hst.r0
      have g3 := hst.r1
      have g4 := hst.f0
      have g5 := hst.f1
      have Z := some_ans hst (by omega) (by omega)
      have hK2 := ((KeepsOthers.setCell W ⟨w.heap.size + 1, 0, none⟩ (.slice (some ⟨A2, 0, none⟩) s s)).trans (KeepsOthers.setCell _ ⟨w.heap.size + 1, 1, none⟩ (.slice (some ⟨B2, 0, none⟩) s s))).same _ _ hK rfl
      have HZ := hid Z
      have HK2 := hid hK2
      clear hst Z hK2 hm hK
      gi_wp2_with fail
      refine ⟨by simp, .inl ⟨_, _, rfl, run_takeDeferred HK2.out, ?_⟩⟩
      have T := ans_turned HZ.out HK2.out (by omega)
      generalize World.putObj _ D (.deferred none) = W5 at T ⊢
      obtain ⟨t1, t2, t3, t4, t5⟩ := T
      refine ⟨.agg #[.slice (some ⟨A2, 0, none⟩) s s, .slice (some ⟨B2, 0, none⟩) s s], ?_, _, _, s, rfl, .inr ⟨HG.out, HEE.out, HEF.out, rfl, A2, B2, by omega, by omega, d4, rfl, rfl, t1, t2⟩, t5⟩
      rw [results_one rfl]
      go_simp
end Go.Proofs.YtfcklkmfdjjfoaaDoor
