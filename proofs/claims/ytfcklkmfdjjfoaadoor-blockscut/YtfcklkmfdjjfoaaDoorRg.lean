/-
  The walks over the document's same and Of.
-/
import Derived.Test.YtfcklkmfdjjfoaaDoorRf
namespace Go.Proofs.YtfcklkmfdjjfoaaDoor
open Go.RowKit
set_option linter.unusedVariables false

set_option maxHeartbeats 1000000 in
theorem sm_in (b1 o1 b2 o2 n c1 c2 : Nat) (xs ys : List Int) (w : World) (hz : xs.length = n) (hy : ys.length = n) (hn : n ≤ 140737488355328)
    (hc1 : ∀ j, j < n → w.cell? ⟨b1, o1 + j, none⟩ = some (.int .i64 (xs.getD j 0)))
    (hc2 : ∀ j, j < n → w.cell? ⟨b2, o2 + j, none⟩ = some (.int .i64 (ys.getD j 0))) :
    Calls Tryd.prog 33 #[.slice (some ⟨b1, o1, none⟩) n c1, .slice (some ⟨b2, o2, none⟩) n c2] w fun e w' => e = .returned (.bool (decide (xs = ys))) ∧ Kept (fun _ => False) w w' := by
  have hne : ((n : Int) != n) = false := by simp
  go_enter Tryd.func33, Tryd.ntmps33
  go_wp2
  go_loopw [5] (fun i wr => ∃ k m : Nat, k ≤ n ∧ i = .int .i64 k ∧ wr = w.drewN m ∧ xs.take k = ys.take k) (fun i _ => n - (intOf i).toNat)
  case atStart => exact ⟨0, 0, by omega, rfl, rfl, by simp⟩
  case round =>
    obtain ⟨k, m, hk, rfl, rfl, heq⟩ := hrel
    by_cases hlt : k < n
    · have g1 : w.cell? ⟨b1, o1 + k, none⟩ = some (.int .i64 (xs.getD k 0)) := hc1 k hlt
      have g2 : w.cell? ⟨b2, o2 + k, none⟩ = some (.int .i64 (ys.getD k 0)) := hc2 k hlt
      have hstep : xs.getD k 0 = ys.getD k 0 → xs.take (k + 1) = ys.take (k + 1) := fun e => by
        rw [List.getD_eq_getElem?_getD, List.getD_eq_getElem?_getD, List.getElem?_eq_getElem (show k < xs.length by omega), List.getElem?_eq_getElem (show k < ys.length by omega)] at e
        simp only [Option.getD_some] at e
        rw [List.take_succ_eq_append_getElem (show k < xs.length by omega), List.take_succ_eq_append_getElem (show k < ys.length by omega), heq, e]
      have hdiff : xs.getD k 0 ≠ ys.getD k 0 → xs ≠ ys := fun h e => h (by rw [e])
      have HST := hid hstep
      have HDI := hid hdiff
      clear hc1 hc2 heq hstep hdiff
      have hlt' : (k : Int) < (n : Int) := by omega
      generalize xs.getD k 0 = u at *
      generalize ys.getD k 0 = v at *
      by_cases huv : u = v
      · have HS2 := hid (HST.out huv)
        clear HST HDI
        subst huv
        have hb : (u != u) = false := by simp
        have hb' : (u == u) = true := by simp
        go_wp2
        go_quiet (fail)
        go_wp2
        exact ⟨⟨k + 1, m + nq, by omega, by go_num, rfl, HS2.out⟩, by simp [intOf]; omega⟩
      · have hb : (u != v) = true := by simpa using huv
        have hb' : (u == v) = false := by simpa using huv
        have HUV := hid huv
        clear huv
        go_wp2
        go_quiet (fail)
        go_wp2
        go_ret
        exact ⟨by rw [decide_eq_false (HDI.out HUV.out)]; rfl, (Kept.drewN _ w m).trans (Kept.drewN _ _ nq)⟩
    · have hkn : k = n := by omega
      have HE := hid heq
      clear hc1 hc2 heq
      go_wp2
      go_ret
      refine ⟨?_, Kept.drewN _ w m⟩
      have := HE.out
      rw [List.take_of_length_le (by omega), List.take_of_length_le (by omega)] at this
      rw [decide_eq_true this]; rfl

set_option maxHeartbeats 400000 in
theorem sm_none (a1 a2 : Option Addr) (c1 c2 : Nat) (w : World) :
    Calls Tryd.prog 33 #[.slice a1 0 c1, .slice a2 0 c2] w fun e w' => e = .returned (.bool true) ∧ Kept (fun _ => False) w w' := by
  go_enter Tryd.func33, Tryd.ntmps33
  go_wp2
  refine wp_loop_rounds 1 ?_
  rw [rounds_succ]
  go_wp2
  go_ret
  exact ⟨rfl, Kept.refl _ _⟩

set_option maxHeartbeats 400000 in
theorem sm_len (a1 a2 : Option Addr) (n1 n2 c1 c2 : Nat) (w : World) (h : n1 ≠ n2) (h1 : n1 ≤ 140737488355328) (h2 : n2 ≤ 140737488355328) :
    Calls Tryd.prog 33 #[.slice a1 n1 c1, .slice a2 n2 c2] w fun e w' => e = .returned (.bool false) ∧ Kept (fun _ => False) w w' := by
  have hb : ((n1 : Int) != n2) = true := by simp; omega
  have hb' : ((n1 : Int) == n2) = false := by simp; omega
  go_enter Tryd.func33, Tryd.ntmps33
  go_wp2
  go_ret
  exact ⟨rfl, Kept.refl _ _⟩

/-- same. -/
theorem sm (a1 a2 : Option Addr) (n1 n2 c1 c2 : Nat) (xs ys : List Int) (w : World) (h1 : SegL w a1 n1 c1 xs) (h2 : SegL w a2 n2 c2 ys) :
    Calls Tryd.prog 33 #[.slice a1 n1 c1, .slice a2 n2 c2] w fun e w' => e = .returned (.bool (decide (xs = ys))) ∧ Kept (fun _ => False) w w' := by
  obtain ⟨hz1, _, hn1, g1⟩ := h1
  obtain ⟨hz2, _, hn2, g2⟩ := h2
  by_cases hne : n1 = n2
  · subst hne
    by_cases h0 : n1 = 0
    · subst h0
      refine (sm_none a1 a2 c1 c2 w).mono fun e w' ⟨he, hw⟩ => ⟨?_, hw⟩
      rw [List.eq_nil_of_length_eq_zero hz1, List.eq_nil_of_length_eq_zero hz2, decide_eq_true rfl]; exact he
    rcases g1 with g1 | ⟨b1, o1, rfl, g1⟩
    · exact absurd g1 h0
    rcases g2 with g2 | ⟨b2, o2, rfl, g2⟩
    · exact absurd g2 h0
    exact sm_in b1 o1 b2 o2 n1 c1 c2 xs ys w hz1 hz2 hn1 g1 g2
  · refine (sm_len a1 a2 n1 n2 c1 c2 w hne hn1 hn2).mono fun e w' ⟨he, hw⟩ => ⟨?_, hw⟩
    rw [decide_eq_false (fun e => hne (by rw [← hz1, ← hz2, e]))]; exact he

/-- The table is what Map says. -/
def okT (O : Nat → Int) (n : Nat) (E1 E2 : List Int) : Prop := (res O n 0).1 = 0 ∧ E1 = (List.range n).map (enF O n) ∧ E2 = (List.range n).map (elF O n)
/-- Is it? -/
def okB (O : Nat → Int) (n : Nat) (E1 E2 : List Int) : Bool := decide ((res O n 0).1 = 0) && (decide (E1 = (List.range n).map (enF O n)) && decide (E2 = (List.range n).map (elF O n)))
theorem okB_iff {O : Nat → Int} {n : Nat} {E1 E2 : List Int} : okB O n E1 E2 = true ↔ okT O n E1 E2 := by simp [okB, okT]
/-- The lists that Of answers. -/
def stL (O : Nat → Int) (n : Nat) (E1 E2 : List Int) : List Int := if okB O n E1 E2 = true then (List.range n).map (fun i => (stF (leB O n) i : Int)) else []
def lfL (O : Nat → Int) (n : Nat) (E1 E2 : List Int) : List Int := if okB O n E1 E2 = true then (List.range n).map (fun i => (lfF (stF (leB O n)) n i : Int)) else []
theorem stL_no {O : Nat → Int} {n : Nat} {E1 E2 : List Int} (h : ¬ okT O n E1 E2) : stL O n E1 E2 = [] ∧ lfL O n E1 E2 = [] := by
  unfold stL lfL; exact ⟨if_neg (fun x => h (okB_iff.1 x)), if_neg (fun x => h (okB_iff.1 x))⟩
theorem stL_yes {O : Nat → Int} {n : Nat} {E1 E2 : List Int} (h : okT O n E1 E2) : stL O n E1 E2 = (List.range n).map (fun i => (stF (leB O n) i : Int)) ∧ lfL O n E1 E2 = (List.range n).map (fun i => (lfF (stF (leB O n)) n i : Int)) := by
  unfold stL lfL; exact ⟨if_pos (okB_iff.2 h), if_pos (okB_iff.2 h)⟩

/-- The two lists as they grow, in the cells of X. -/
structure OSt (X : Nat) (w5 : World) (v1 v2 : Value) (l1 l2 : List Int) (wr : World) : Prop where
  x0 : wr.cell? ⟨X, 0, none⟩ = some v1
  x1 : wr.cell? ⟨X, 1, none⟩ = some v2
  f0 : wr.frozen? ⟨X, 0, none⟩ = false
  f1 : wr.frozen? ⟨X, 1, none⟩ = false
  a1 : LI wr (X + 1) v1 l1
  a2 : LI wr (X + 1) v2 l2
  ap : Ap v1 v2
  kept : Kept (fun b => b = X) w5 wr
  le : w5.heap.size = X + 1

theorem OSt.low {X : Nat} {w5 : World} {v1 v2 : Value} {l1 l2 : List Int} {wr : World} (h : OSt X w5 v1 v2 l1 l2 wr) : X + 1 ≤ wr.heap.size := by have := h.kept.size; have := h.le; omega

/-- One more onto the first. -/
theorem OSt.push0 {X : Nat} {w5 : World} {v1 v2 : Value} {l1 l2 : List Int} {wr w9 : World} {z : Int} {B c k : Nat} (h : OSt X w5 v1 v2 l1 l2 wr) (o : Obj) (hl : LI w9 (X + 1) (.slice (some ⟨B, 0, none⟩) k c) (l1 ++ [z])) (hB : v1.ownBlock = some B ∨ (wr.alloc o).heap.size ≤ B) (hk : Kept (fun b => v1.ownBlock = some b) (wr.alloc o) w9) :
    w9.cell? ⟨X, 0, none⟩ = some v1 ∧ w9.frozen? ⟨X, 0, none⟩ = false ∧ OSt X w5 (.slice (some ⟨B, 0, none⟩) k c) v2 (l1 ++ [z]) l2 (w9.setCell ⟨X, 0, none⟩ (.slice (some ⟨B, 0, none⟩) k c)) := by
  have hlow := h.low
  have ka := Kept.alloc (fun b => v1.ownBlock = some b) wr o
  have kk := ka.trans hk
  have nX : ¬ v1.ownBlock = some X := fun e => by have := (h.a1.block e).1; omega
  have hX : X < wr.heap.size := by omega
  have b9 := kk.block X hX nX
  have c0 := (cell_of_block b9 0).trans h.x0
  have c1 := (cell_of_block b9 1).trans h.x1
  have f0 := (frozen_of_block b9 0).trans h.f0
  have f1 := (frozen_of_block b9 1).trans h.f1
  have ks := Kept.set w9 ⟨X, 0, none⟩ (.slice (some ⟨B, 0, none⟩) k c)
  refine ⟨c0, f0, ?_, ?_, ?_, ?_, ?_, ?_, ?_, ?_, h.le⟩
  · exact World.cell?_setCell_same' _ _ _ (by rw [c0]; rfl)
  · rw [World.cell?_setCell_other _ _ _ _ (by simp)]; exact c1
  · rw [World.frozen?_setCell]; exact f0
  · rw [World.frozen?_setCell]; exact f1
  · exact hl.kept ks (fun b hb e => by have := (hl.block hb).1; simp only at e; omega)
  · refine (h.a2.kept kk (fun b hb e => h.ap b e hb)).kept ks (fun b hb e => ?_)
    have := (h.a2.block hb).1
    simp only at e; omega
  · exact ap_step h.ap h.a2 (by
      rcases hB with hB | hB
      · exact .inl hB
      · right; simp at hB; omega)
  · refine Kept.then (Kept.then h.kept kk (fun b hb e => ?_)) ks (fun b hb e => e)
    have := (h.a1.block e).1
    have := h.le
    omega
/-- One more onto the second. -/
theorem OSt.push1 {X : Nat} {w5 : World} {v1 v2 : Value} {l1 l2 : List Int} {wr w9 : World} {z : Int} {B c k : Nat} (h : OSt X w5 v1 v2 l1 l2 wr) (o : Obj) (hl : LI w9 (X + 1) (.slice (some ⟨B, 0, none⟩) k c) (l2 ++ [z])) (hB : v2.ownBlock = some B ∨ (wr.alloc o).heap.size ≤ B) (hk : Kept (fun b => v2.ownBlock = some b) (wr.alloc o) w9) :
    w9.cell? ⟨X, 1, none⟩ = some v2 ∧ w9.frozen? ⟨X, 1, none⟩ = false ∧ OSt X w5 v1 (.slice (some ⟨B, 0, none⟩) k c) l1 (l2 ++ [z]) (w9.setCell ⟨X, 1, none⟩ (.slice (some ⟨B, 0, none⟩) k c)) := by
  have hlow := h.low
  have ka := Kept.alloc (fun b => v2.ownBlock = some b) wr o
  have kk := ka.trans hk
  have nX : ¬ v2.ownBlock = some X := fun e => by have := (h.a2.block e).1; omega
  have hX : X < wr.heap.size := by omega
  have b9 := kk.block X hX nX
  have c0 := (cell_of_block b9 0).trans h.x0
  have c1 := (cell_of_block b9 1).trans h.x1
  have f0 := (frozen_of_block b9 0).trans h.f0
  have f1 := (frozen_of_block b9 1).trans h.f1
  have ks := Kept.set w9 ⟨X, 1, none⟩ (.slice (some ⟨B, 0, none⟩) k c)
  refine ⟨c1, f1, ?_, ?_, ?_, ?_, ?_, ?_, ?_, ?_, h.le⟩
  · rw [World.cell?_setCell_other _ _ _ _ (by simp)]; exact c0
  · exact World.cell?_setCell_same' _ _ _ (by rw [c1]; rfl)
  · rw [World.frozen?_setCell]; exact f0
  · rw [World.frozen?_setCell]; exact f1
  · refine (h.a1.kept kk (fun b hb e => h.ap b hb e)).kept ks (fun b hb e => ?_)
    have := (h.a1.block hb).1
    simp only at e; omega
  · exact hl.kept ks (fun b hb e => by have := (hl.block hb).1; simp only at e; omega)
  · exact (ap_step h.ap.symm h.a1 (by
      rcases hB with hB | hB
      · exact .inl hB
      · right; simp at hB; omega)).symm
  · refine Kept.then (Kept.then h.kept kk (fun b hb e => ?_)) ks (fun b hb e => e)
    have := (h.a2.block e).1
    have := h.le
    omega
theorem OSt.drewN {X : Nat} {w5 : World} {v1 v2 : Value} {l1 l2 : List Int} {wr : World} (h : OSt X w5 v1 v2 l1 l2 wr) (q : Nat) : OSt X w5 v1 v2 l1 l2 (wr.drewN q) :=
  ⟨h.x0, h.x1, h.f0, h.f1, h.a1.kept (Kept.drewN (fun _ => False) wr q) (fun _ _ x => x), h.a2.kept (Kept.drewN (fun _ => False) wr q) (fun _ _ x => x), h.ap, h.kept.trans (Kept.drewN _ wr q), h.le⟩

/-- The beginning that stands ahead of pc. -/
def stP (L : Nat → Bool) : Nat → Nat
  | 0 => 0
  | k + 1 => stF L k
theorem stP_step {L : Nat → Bool} {k : Nat} (h0 : L 0 = true) : stF L k = if L k = true ∨ k - stP L k = 16 then k else stP L k := by
  rcases k with _ | k
  · rw [if_pos (.inl h0)]; rfl
  · exact st_succ L k
theorem stP_le (L : Nat → Bool) (k : Nat) : stP L k ≤ k := by
  rcases k with _ | k
  · exact Nat.le_refl _
  · have := st_le L k; show stF L k ≤ k + 1; omega

set_option maxRecDepth 100000 in
set_option maxHeartbeats 8000000 in
theorem refOf (a : Option Addr) (n cap : Nat) (xs : List Inx) (sa : Option Addr) (sn sc : Nat) (ea : Option Addr) (en ec : Nat) (la : Option Addr) (ln lc : Nat) (fa : Option Addr) (fn fc : Nat) (hi : Int) (E1 E2 : List Int)
    (w : World) (hn : n ≤ 1048576) (hcap : n ≤ cap) (hc : CodS w a n xs) (h1 : SegL w ea en ec E1) (h2 : SegL w la ln lc E2) :
    Calls Tryd.prog 14 #[.slice a n cap, tabV sa sn sc ea en ec la ln lc fa fn fc hi] w fun e w' => ∃ a1 n1 c1 a2 n2 c2, e = .returned (.agg #[.slice a1 n1 c1, .slice a2 n2 c2]) ∧ LI w' w.heap.size (.slice a1 n1 c1) (stL (opF xs) n E1 E2) ∧ LI w' w.heap.size (.slice a2 n2 c2) (lfL (opF xs) n E1 E2) ∧ Below w.heap.size w w' := by
  have HC := hid hc
  have H1 := hid h1
  have H2 := hid h2
  clear hc h1 h2
  obtain ⟨ot, hot⟩ : ∃ ot, ot = Obj.cells #[Value.slice sa sn sc, .slice ea en ec, .slice la ln lc, .slice fa fn fc, .int .i64 hi] 26 := ⟨_, rfl⟩
  obtain ⟨ob, hob⟩ : ∃ ob, ob = Obj.cells #[Value.slice none 0 0, .slice none 0 0] 33 := ⟨_, rfl⟩
  have hb0 : Below w.heap.size w ((w.alloc ot).alloc ob) := ((Below.refl _ w).alloc (Nat.le_refl _) ot).alloc (by simp) ob
  have HM := hid (refMap a n cap xs ((w.alloc ot).alloc ob) hn hcap (HC.out.later hb0 (Nat.le_refl _)))
  have t1 : ((w.alloc ot).alloc ob).cell? ⟨w.heap.size, 1, none⟩ = some (.slice ea en ec) := by rw [hot, hob]; simp [go_sem]
  have t2 : ((w.alloc ot).alloc ob).cell? ⟨w.heap.size, 2, none⟩ = some (.slice la ln lc) := by rw [hot, hob]; simp [go_sem]
  have r0 : ((w.alloc ot).alloc ob).cell? ⟨w.heap.size + 1, 0, none⟩ = some (.slice none 0 0) := by rw [hot, hob]; simp [go_sem]
  have r1 : ((w.alloc ot).alloc ob).cell? ⟨w.heap.size + 1, 1, none⟩ = some (.slice none 0 0) := by rw [hot, hob]; simp [go_sem]
  have fr : ∀ i, ((w.alloc ot).alloc ob).frozen? ⟨w.heap.size + 1, i, none⟩ = false := fun i => by rw [hot, hob]; simp [go_sem]
  have z0 : ((w.alloc ot).alloc ob).heap.size = w.heap.size + 2 := by simp
  go_enter Tryd.func14, Tryd.ntmps14
  go_wp2_with fail
  rw [← hot, ← hob]
  clear hot hob
  generalize (w.alloc ot).alloc ob = W0 at *
  refine HM.out.mono ?_
  rintro e w1 ⟨a1, a2, a3, n1, n2, n3, c1, c2, c3, rfl, hM, hb1⟩
  clear HM
  have hs1 := hb1.size
  have hbw := hb0.trans (hb1.mono (by omega))
  have t1' := (hb1.cell (p := ⟨w.heap.size, 1, none⟩) (by show w.heap.size < _; omega)).trans t1
  have t2' := (hb1.cell (p := ⟨w.heap.size, 2, none⟩) (by show w.heap.size < _; omega)).trans t2
  have r0' := (hb1.cell (p := ⟨w.heap.size + 1, 0, none⟩) (by show w.heap.size + 1 < _; omega)).trans r0
  have r1' := (hb1.cell (p := ⟨w.heap.size + 1, 1, none⟩) (by show w.heap.size + 1 < _; omega)).trans r1
  have fr' : ∀ i, w1.frozen? ⟨w.heap.size + 1, i, none⟩ = false := fun i => (frozen_of_block (hb1.block (w.heap.size + 1) (by omega)) i).trans (fr i)
  have HB := hid hbw
  clear t1 t2 r0 r1 fr hb0
  rcases hM with ⟨h0, e1, e2, e3⟩ | ⟨hr, l1, l2, l3⟩
  · have HN := hid (stL_no (O := opF xs) (n := n) (E1 := E1) (E2 := E2) (fun x => h0 x.1))
    have h0' : ((res (opF xs) n 0).1 != 0) = true := by simpa using h0
    have f0 := fr' 0
    have f1 := fr' 1
    clear h0 hbw hb1 fr' e1 e2 e3
    generalize (res (opF xs) n 0).1 = er0 at h0' ⊢
    generalize (res (opF xs) n 0).2 = er1 at *
    go_wp2_with fail
    have Z := zero_ans HB.out r0' r1'
    generalize ((w1.setCell ⟨w.heap.size + 1, 0, none⟩ (.slice none 0 0)).setCell ⟨w.heap.size + 1, 1, none⟩ (.slice none 0 0)) = W5 at *
    obtain ⟨hk0, q0, q1⟩ := Z
    refine bodyPost_ret (v := .agg #[.slice none 0 0, .slice none 0 0]) ?_ rfl ?_
    · rw [results_one rfl]
      go_simp
    · exact ⟨_, _, _, _, _, _, rfl, by rw [HN.out.1]; exact LI.nil _ _, by rw [HN.out.2]; exact LI.nil _ _, hk0⟩
  have hr0 : (res (opF xs) n 0).1 = 0 := by rw [hr]
  have hg := res_good hr0
  have hn0 := hg.1
  rw [hr]
  have f0 := fr' 0
  have f1 := fr' 1
  have k1 := l1.segL (by simp; omega) l1.cap
  have k2 := l2.segL (by simp; omega) l2.cap
  have HE := hid (sm a1 ea n1 en c1 ec _ E1 w1 k1 (H1.out.later hbw (Nat.le_refl _)))
  have HK2 := hid k2
  have HG := hid hg
  have HR0 := hid hr0
  clear hr hg l1 l2 l3 k1 k2 hb1 hbw fr' hr0
  go_wp2_with fail
  refine HE.out.mono ?_
  rintro e w2 ⟨rfl, hk2⟩
  clear HE
  have r0'' := hk2.cell r0' (fun x => x)
  have r1'' := hk2.cell r1' (fun x => x)
  have t2'' := hk2.cell t2' (fun x => x)
  have f0' : w2.frozen? ⟨w.heap.size + 1, 0, none⟩ = false := (frozen_of_block (hk2.block (w.heap.size + 1) (by omega) (fun x => x)) 0).trans f0
  have f1' : w2.frozen? ⟨w.heap.size + 1, 1, none⟩ = false := (frozen_of_block (hk2.block (w.heap.size + 1) (by omega) (fun x => x)) 1).trans f1
  have hbw2 := below_kept HB.out hk2 HB.out.size (fun _ x => x.elim)
  have HK2' := hid (HK2.out.keep hk2 (fun _ _ _ _ x => x))
  have hs2 := hk2.size
  have HB2 := hid hbw2
  clear r0' r1' t1' t2' f0 f1 HK2 HB hk2
  by_cases hE1 : ¬ (List.range n).map (enF (opF xs) n) = E1
  · have HN := hid (stL_no (O := opF xs) (n := n) (E1 := E1) (E2 := E2) (fun x => hE1 x.2.1.symm))
    rw [decide_eq_false hE1]
    clear hbw2 hE1
    go_wp2_with fail
    have Z := zero_ans HB2.out r0'' r1''
    generalize ((w2.setCell ⟨w.heap.size + 1, 0, none⟩ (.slice none 0 0)).setCell ⟨w.heap.size + 1, 1, none⟩ (.slice none 0 0)) = W5 at *
    obtain ⟨hk0, q0, q1⟩ := Z
    refine bodyPost_ret (v := .agg #[.slice none 0 0, .slice none 0 0]) ?_ rfl ?_
    · rw [results_one rfl]
      go_simp
    · exact ⟨_, _, _, _, _, _, rfl, by rw [HN.out.1]; exact LI.nil _ _, by rw [HN.out.2]; exact LI.nil _ _, hk0⟩
  have hE1 := Classical.not_not.1 hE1
  rw [decide_eq_true hE1]
  have HEE := hid hE1
  have HE := hid (sm a2 la n2 ln c2 lc _ E2 w2 HK2'.out (H2.out.later hbw2 (Nat.le_refl _)))
  clear hE1 hbw2
  go_wp2_with fail
  refine HE.out.mono ?_
  rintro e w3 ⟨rfl, hk2⟩
  clear HE
  have r0' := hk2.cell r0'' (fun x => x)
  have r1' := hk2.cell r1'' (fun x => x)
  have f0 : w3.frozen? ⟨w.heap.size + 1, 0, none⟩ = false := (frozen_of_block (hk2.block (w.heap.size + 1) (by omega) (fun x => x)) 0).trans f0'
  have f1 : w3.frozen? ⟨w.heap.size + 1, 1, none⟩ = false := (frozen_of_block (hk2.block (w.heap.size + 1) (by omega) (fun x => x)) 1).trans f1'
  have hbw3 := below_kept HB2.out hk2 HB2.out.size (fun _ x => x.elim)
  have hs3 := hk2.size
  have HB3 := hid hbw3
  clear r0'' r1'' t2'' f0' f1' HK2' HB2 hk2
  by_cases hE2 : ¬ (List.range n).map (elF (opF xs) n) = E2
  · have HN := hid (stL_no (O := opF xs) (n := n) (E1 := E1) (E2 := E2) (fun x => hE2 x.2.2.symm))
    rw [decide_eq_false hE2]
    clear hbw3 hE2
    go_wp2_with fail
    have Z := zero_ans HB3.out r0' r1'
    generalize ((w3.setCell ⟨w.heap.size + 1, 0, none⟩ (.slice none 0 0)).setCell ⟨w.heap.size + 1, 1, none⟩ (.slice none 0 0)) = W5 at *
    obtain ⟨hk0, q0, q1⟩ := Z
    refine bodyPost_ret (v := .agg #[.slice none 0 0, .slice none 0 0]) ?_ rfl ?_
    · rw [results_one rfl]
      go_simp
    · exact ⟨_, _, _, _, _, _, rfl, by rw [HN.out.1]; exact LI.nil _ _, by rw [HN.out.2]; exact LI.nil _ _, hk0⟩
  have hE2 := Classical.not_not.1 hE2
  rw [decide_eq_true hE2]
  have HY := hid (stL_yes (O := opF xs) (n := n) (E1 := E1) (E2 := E2) ⟨HR0.out, HEE.out.symm, hE2.symm⟩)
  have HL := hid (refLeads a n cap xs w3 hn hcap (HC.out.later hbw3 (Nat.le_refl _)))
  have hld : ldL (opF xs) n = (List.range n).map (leB (opF xs) n) := by unfold ldL; rw [if_pos HR0.out]
  rw [hld] at HL
  clear hE2 hbw3 H1 H2 hld
  go_wp2_with fail
  refine HL.out.mono ?_
  rintro e w4 ⟨v, rfl, hlb, hb4⟩
  obtain ⟨va, vc, rfl⟩ := hlb.slice
  have hsg := hlb.seg (by simp; omega)
  rw [List.length_map, List.length_range] at *
  have hs4 := hb4.size
  have r0 := (hb4.cell (p := ⟨w.heap.size + 1, 0, none⟩) (by show w.heap.size + 1 < _; omega)).trans r0'
  have r1 := (hb4.cell (p := ⟨w.heap.size + 1, 1, none⟩) (by show w.heap.size + 1 < _; omega)).trans r1'
  have g0 := (frozen_of_block (hb4.block (w.heap.size + 1) (by omega)) 0).trans f0
  have g1 := (frozen_of_block (hb4.block (w.heap.size + 1) (by omega)) 1).trans f1
  have HB4 := hid (HB3.out.trans (hb4.mono HB3.out.size))
  obtain ⟨G, rfl, hG⟩ := hsg.2.2.resolve_left (by omega)
  have hG2 : ∀ j, j < n → w4.cell? ⟨G, j, none⟩ = some (.bool (leB (opF xs) n j)) := fun j hj => by rw [hG j hj]; simp [hj]
  have lG : G < w4.heap.size := block_lt_of_cell (hG2 0 hn0)
  obtain ⟨ox, hox⟩ : ∃ ox, ox = Obj.cells #[Value.slice none 0 0, .slice none 0 0] 33 := ⟨_, rfl⟩
  have hst0 : OSt w4.heap.size (w4.alloc ox) (.slice none 0 0) (.slice none 0 0) [] [] (w4.alloc ox) :=
    ⟨by rw [hox, World.cell?_alloc_new]; rfl, by rw [hox, World.cell?_alloc_new]; rfl, by rw [hox]; simp [go_sem], by rw [hox]; simp [go_sem], LI.nil _ _, LI.nil _ _, Ap.nil _, Kept.refl _ _, by simp⟩
  have kx := Kept.alloc (fun _ => False) w4 ox
  have HG4 := hid (show ∀ j, j < n → (w4.alloc ox).cell? ⟨G, j, none⟩ = some (.bool (leB (opF xs) n j)) from fun j hj => kx.cell (hG2 j hj) (fun x => x))
  have R0 := hid (kx.cell r0 (fun x => x))
  have R1 := hid (kx.cell r1 (fun x => x))
  have zr : ∀ i, (w4.alloc ox).frozen? ⟨w.heap.size + 1, i, none⟩ = w4.frozen? ⟨w.heap.size + 1, i, none⟩ := fun i => frozen_of_block (kx.block _ (by omega) (fun x => x)) i
  have F0 := hid ((zr 0).trans g0)
  have F1 := hid ((zr 1).trans g1)
  have HST0 := hid hst0
  have HB5 := hid (HB4.out.alloc HB4.out.size ox)
  have zx : (w4.alloc ox).heap.size = w4.heap.size + 1 := by simp
  have hR4 : w.heap.size + 1 < w4.heap.size := by omega
  have hL0 : leB (opF xs) n 0 = true := by simp [leB, begB]
  have HL0 := hid hL0
  clear hlb hsg hb4 hG hG2 hst0 kx zr r0 r1 g0 g1 r0' r1' f0 f1 hL0
  go_wp2_with fail
  rw [← hox]
  clear hox
  generalize w4.alloc ox = w5 at *
  generalize leB (opF xs) n = L at *
  go_loopw [12, 13] (fun s p wr => ∃ (k : Nat) (v1 : Value), k ≤ n ∧ p = .int .i64 k ∧ s = .int .i64 (stP L k) ∧ OSt w4.heap.size w5 v1 (.slice none 0 0) ((List.range k).map (fun i => (stF L i : Int))) [] wr) (fun _ p _ => n - (intOf p).toNat)
  case atStart => exact ⟨0, _, by omega, rfl, rfl, HST0.out⟩
  case round =>
    obtain ⟨k, v1, hk, rfl, rfl, hos⟩ := hrel
    have hlow := hos.low
    by_cases hlt : k < n
    · have hlt' : (k : Int) < (n : Int) := by omega
      have d0 : wr.cell? ⟨G, k, none⟩ = some (.bool (L k)) := hos.kept.cell (HG4.out k hlt) (fun e => by omega)
      have d1 := hos.x0
      obtain ⟨va, vcp, hva⟩ := hos.a1.slice
      rw [List.length_map, List.length_range] at hva
      subst hva
      have hll : ((List.range k).map (fun i => (stF L i : Int))).length ≤ 1073741824 := by simp; omega
      have hpl := stP_le L k
      have hss := stP_step (k := k) HL0.out
      have hmap : (List.range k).map (fun i => (stF L i : Int)) ++ [(stF L k : Int)] = (List.range (k + 1)).map (fun i => (stF L i : Int)) := by rw [List.range_succ, List.map_append]; rfl
      have HMAP := hid hmap
      have HOS := hid hos
      have hnx : stP L (k + 1) = stF L k := rfl
      have HNX := hid hnx
      have hsal : w4.heap.size + 1 ≤ (wr.alloc (.cells #[.int .i64 (stF L k)] 3)).heap.size := by simp; omega
      have HO2 := hid (hos.a1.later ((Below.refl wr.heap.size wr).alloc (Nat.le_refl _) (.cells #[.int .i64 (stF L k)] 3)) (Nat.le_refl _))
      clear hos hmap hnx
      by_cases hcase : L k = true ∨ k - stP L k = 16
      · rw [if_pos hcase] at hss
        rw [hss] at HMAP hsal HO2
        have HSS := hid hss
        clear hss
        by_cases hLk : L k = true
        · rw [hLk] at d0
          clear hcase
          generalize stP L k = sp at *
          go_wp2_with (first
            | (at_builtin; refine app_intK _ rfl (.tmp 62) (.tmp 64) rfl (w4.heap.size + 1) _ ((List.range k).map (fun i => (stF L i : Int))) rfl HO2.out hsal ⟨wr.heap.size, 0, none⟩ (k : Int) rfl (by simp [Addr.add]) hll ?_; intro B1 C1 k1 w9 hk1 m1 n1 o1; have hk2 : k1 = k + 1 := (by rw [hk1]; simp); clear hk1; subst hk2; obtain ⟨y0, y1, y2⟩ := HOS.out.push0 _ m1 n1 o1; have Y2 := hid y2; clear m1 n1 o1 y2))
          refine ⟨⟨k + 1, .slice (some ⟨B1, 0, none⟩) (k + 1) C1, by omega, by go_num, by rw [HNX.out, HSS.out], ?_⟩, by simp [intOf]; omega⟩
          have := Y2.out
          rw [HMAP.out] at this
          exact this
        · have hLk' : L k = false := by simpa using hLk
          rw [hLk'] at d0
          have h16 : ((k : Int) - ((stP L k : Nat) : Int) == 16) = true := by
            rcases hcase with h | h
            · exact absurd h hLk
            · simp; omega
          clear hcase hLk hLk'
          generalize stP L k = sp at *
          go_wp2_with (first
            | (at_builtin; refine app_intK _ rfl (.tmp 62) (.tmp 64) rfl (w4.heap.size + 1) _ ((List.range k).map (fun i => (stF L i : Int))) rfl HO2.out hsal ⟨wr.heap.size, 0, none⟩ (k : Int) rfl (by simp [Addr.add]) hll ?_; intro B1 C1 k1 w9 hk1 m1 n1 o1; have hk2 : k1 = k + 1 := (by rw [hk1]; simp); clear hk1; subst hk2; obtain ⟨y0, y1, y2⟩ := HOS.out.push0 _ m1 n1 o1; have Y2 := hid y2; clear m1 n1 o1 y2))
          refine ⟨⟨k + 1, .slice (some ⟨B1, 0, none⟩) (k + 1) C1, by omega, by go_num, by rw [HNX.out, HSS.out], ?_⟩, by simp [intOf]; omega⟩
          have := Y2.out
          rw [HMAP.out] at this
          exact this
      · rw [if_neg hcase] at hss
        rw [hss] at HMAP hsal HO2
        have hLk' : L k = false := by
          have : ¬ L k = true := fun x => hcase (.inl x)
          simpa using this
        have h16 : ((k : Int) - ((stP L k : Nat) : Int) == 16) = false := by
          have : ¬ k - stP L k = 16 := fun x => hcase (.inr x)
          simp; omega
        rw [hLk'] at d0
        have HSS := hid hss
        clear hcase hss hLk'
        generalize stP L k = sp at *
        go_wp2_with (first
          | (at_builtin; refine app_intK _ rfl (.tmp 62) (.tmp 64) rfl (w4.heap.size + 1) _ ((List.range k).map (fun i => (stF L i : Int))) rfl HO2.out hsal ⟨wr.heap.size, 0, none⟩ (sp : Int) rfl (by simp [Addr.add]) hll ?_; intro B1 C1 k1 w9 hk1 m1 n1 o1; have hk2 : k1 = k + 1 := (by rw [hk1]; simp); clear hk1; subst hk2; obtain ⟨y0, y1, y2⟩ := HOS.out.push0 _ m1 n1 o1; have Y2 := hid y2; clear m1 n1 o1 y2))
        refine ⟨⟨k + 1, .slice (some ⟨B1, 0, none⟩) (k + 1) C1, by omega, by go_num, by rw [HNX.out, HSS.out], ?_⟩, by simp [intOf]; omega⟩
        have := Y2.out
        rw [HMAP.out] at this
        exact this
    · obtain rfl : k = n := by omega
      have hlt' : ¬ (k : Int) < (k : Int) := by omega
      have HOS := hid hos
      clear hos
      generalize wr = wa at *
      go_wp2_with fail
      go_loopw [14] (fun p wr => ∃ (q : Nat) (v1 v2 : Value), q ≤ k ∧ p = .int .i64 q ∧ OSt w4.heap.size w5 v1 v2 ((List.range k).map (fun i => (stF L i : Int))) ((List.range q).map (fun i => (lfF (stF L) k i : Int))) wr) (fun p _ => k - (intOf p).toNat)
      case atStart => exact ⟨0, _, _, by omega, rfl, HOS.out⟩
      case round =>
        obtain ⟨q, u1, u2, hq, rfl, hos⟩ := hrel
        have hlow := hos.low
        by_cases hqk : q < k
        · have hqk' : (q : Int) < (k : Int) := by omega
          have d1 := hos.x0
          obtain ⟨va, vcp, hva⟩ := hos.a1.slice
          obtain ⟨ua, ucp, hua⟩ := hos.a2.slice
          rw [List.length_map, List.length_range] at hva hua
          subst hva
          subst hua
          have hsc := hos.a1.cell.2
          obtain ⟨SB, hSB, hsc2⟩ := hsc.resolve_left (by omega)
          subst hSB
          have hsc3 : ∀ j, j < k → wr.cell? ⟨SB, j, none⟩ = some (.int .i64 (stF L j)) := fun j hj => by rw [hsc2 j hj]; simp [hj]
          have HSC := hid hsc3
          have HOS2 := hid hos
          clear hos hsc hsc2 hsc3 HOS
          generalize wr = wz at *
          go_wp2_with fail
          go_loopw [15] (fun p wr => ∃ j m : Nat, 1 ≤ j ∧ q + j ≤ k ∧ p = .int .i64 j ∧ (∀ i, i < j → stF L (q + i) = stF L q) ∧ wr = wz.drewN m) (fun p _ => k - (intOf p).toNat)
          case atStart => exact ⟨1, 0, by omega, by omega, rfl, fun i hi => (by obtain rfl : i = 0 := (by omega); rfl), rfl⟩
          case round =>
            obtain ⟨j, m, hj1, hjk, rfl, hall, rfl⟩ := hrel
            have HALL := hid hall
            clear hall
            by_cases hin : q + j < k
            · have hin' : (q : Int) + (j : Int) < (k : Int) := by omega
              have hdc : decide ((q : Int) + (j : Int) < (k : Int)) = true := decide_eq_true hin'
              have hdn : decide (q + j < k) = true := decide_eq_true hin
              have g1 : wz.cell? ⟨SB, q + j, none⟩ = some (.int .i64 (stF L (q + j))) := HSC.out (q + j) hin
              have g2 : wz.cell? ⟨SB, q, none⟩ = some (.int .i64 (stF L q)) := HSC.out q (by omega)
              by_cases heq : stF L (q + j) = stF L q
              · have HEQ := hid heq
                rw [heq] at g1
                clear heq
                generalize stF L q = sq at *
                have hbb : ((sq : Int) == (sq : Int)) = true := by simp
                go_wp2_with fail
                go_quiet (fail)
                go_wp2_with fail
                exact ⟨⟨j + 1, m + nq, by omega, by omega, by go_num, fun i hi => by
                  by_cases e : i = j
                  · subst e; exact HEQ.out
                  · exact HALL.out i (by omega), rfl⟩, by simp [intOf]; omega⟩
              · have hbb : (((stF L (q + j) : Nat) : Int) == ((stF L q : Nat) : Int)) = false := by simp; omega
                have hlf : lfF (stF L) k q = j := lfF_eq hj1 HALL.out hjk (.inr heq)
                have HLF := hid hlf
                clear hlf heq
                generalize stF L q = sq at *
                generalize stF L (q + j) = sj at *
                go_wp2_with fail
                go_quiet (fail)
                have hos3 := (HOS2.out.drewN m).drewN nq
                have d9 := hos3.x1
                have hll : ((List.range q).map (fun i => (lfF (stF L) k i : Int))).length ≤ 1073741824 := by simp; omega
                have hmap : (List.range q).map (fun i => (lfF (stF L) k i : Int)) ++ [(j : Int)] = (List.range (q + 1)).map (fun i => (lfF (stF L) k i : Int)) := by rw [List.range_succ, List.map_append, ← HLF.out]; rfl
                have HMAP := hid hmap
                have hsal : w4.heap.size + 1 ≤ (((wz.drewN m).drewN nq).alloc (.cells #[.int .i64 (j : Int)] 3)).heap.size := by have := hos3.low; simp; omega
                have HO2 := hid (hos3.a2.later ((Below.refl ((wz.drewN m).drewN nq).heap.size ((wz.drewN m).drewN nq)).alloc (Nat.le_refl _) (.cells #[.int .i64 (j : Int)] 3)) (Nat.le_refl _))
                have HO3 := hid hos3
                clear hos3 hmap
                generalize ((wz.drewN m).drewN nq) = wd at *
                go_wp2_with (first
                  | (at_builtin; refine app_intK _ rfl (.tmp 97) (.tmp 99) rfl (w4.heap.size + 1) _ ((List.range q).map (fun i => (lfF (stF L) k i : Int))) rfl HO2.out hsal ⟨wd.heap.size, 0, none⟩ (j : Int) rfl (by simp [Addr.add]) hll ?_; intro B1 C1 k1 w9 hk1 m1 n1 o1; have hk2 : k1 = q + 1 := (by rw [hk1]; simp); clear hk1; subst hk2; obtain ⟨y0, y1, y2⟩ := HO3.out.push1 _ m1 n1 o1; have Y2 := hid y2; clear m1 n1 o1 y2))
                refine ⟨⟨q + 1, .slice (some ⟨SB, 0, none⟩) k vcp, .slice (some ⟨B1, 0, none⟩) (q + 1) C1, by omega, by go_num, ?_⟩, by simp [intOf]; omega⟩
                have := Y2.out
                rw [HMAP.out] at this
                exact this
            · have hin' : ¬ (q : Int) + (j : Int) < (k : Int) := by omega
              have hdc : decide ((q : Int) + (j : Int) < (k : Int)) = false := decide_eq_false hin'
              have hdn : decide (q + j < k) = false := decide_eq_false hin
              have hlf : lfF (stF L) k q = j := lfF_eq hj1 HALL.out hjk (.inl (by omega))
              have HLF := hid hlf
              clear hlf
              go_wp2_with fail
              go_quiet (fail)
              have hos3 := (HOS2.out.drewN m).drewN nq
              have d9 := hos3.x1
              have hll : ((List.range q).map (fun i => (lfF (stF L) k i : Int))).length ≤ 1073741824 := by simp; omega
              have hmap : (List.range q).map (fun i => (lfF (stF L) k i : Int)) ++ [(j : Int)] = (List.range (q + 1)).map (fun i => (lfF (stF L) k i : Int)) := by rw [List.range_succ, List.map_append, ← HLF.out]; rfl
              have HMAP := hid hmap
              have hsal : w4.heap.size + 1 ≤ (((wz.drewN m).drewN nq).alloc (.cells #[.int .i64 (j : Int)] 3)).heap.size := by have := hos3.low; simp; omega
              have HO2 := hid (hos3.a2.later ((Below.refl ((wz.drewN m).drewN nq).heap.size ((wz.drewN m).drewN nq)).alloc (Nat.le_refl _) (.cells #[.int .i64 (j : Int)] 3)) (Nat.le_refl _))
              have HO3 := hid hos3
              clear hos3 hmap
              generalize ((wz.drewN m).drewN nq) = wd at *
              go_wp2_with (first
                | (at_builtin; refine app_intK _ rfl (.tmp 97) (.tmp 99) rfl (w4.heap.size + 1) _ ((List.range q).map (fun i => (lfF (stF L) k i : Int))) rfl HO2.out hsal ⟨wd.heap.size, 0, none⟩ (j : Int) rfl (by simp [Addr.add]) hll ?_; intro B1 C1 k1 w9 hk1 m1 n1 o1; have hk2 : k1 = q + 1 := (by rw [hk1]; simp); clear hk1; subst hk2; obtain ⟨y0, y1, y2⟩ := HO3.out.push1 _ m1 n1 o1; have Y2 := hid y2; clear m1 n1 o1 y2))
              refine ⟨⟨q + 1, .slice (some ⟨SB, 0, none⟩) k vcp, .slice (some ⟨B1, 0, none⟩) (q + 1) C1, by omega, by go_num, ?_⟩, by simp [intOf]; omega⟩
              have := Y2.out
              rw [HMAP.out] at this
              exact this
        · obtain rfl : q = k := by omega
          have hqk' : ¬ (q : Int) < (q : Int) := by omega
          have HOS9 := hid hos
          have d1 := hos.x0
          have d2 := hos.x1
          have kk := hos.kept
          have s0 := kk.cell R0.out (fun e => by omega)
          have s1 := kk.cell R1.out (fun e => by omega)
          have s2 : wr.frozen? ⟨w.heap.size + 1, 0, none⟩ = false := (frozen_of_block (kk.block _ (by omega) (fun e => by omega)) 0).trans F0.out
          have s3 : wr.frozen? ⟨w.heap.size + 1, 1, none⟩ = false := (frozen_of_block (kk.block _ (by omega) (fun e => by omega)) 1).trans F1.out
          obtain ⟨va, vcp, hva⟩ := hos.a1.slice
          obtain ⟨ua, ucp, hua⟩ := hos.a2.slice
          rw [List.length_map, List.length_range] at hva hua
          subst hva
          subst hua
          have hfin : Below w.heap.size w wr := below_kept HB5.out kk HB5.out.size (fun b e => by omega)
          have HFIN := hid hfin
          clear hos kk hfin
          go_wp2_with fail
          have ks : Kept (fun b => b = w.heap.size + 1) wr ((wr.setCell ⟨w.heap.size + 1, 0, none⟩ (.slice va q vcp)).setCell ⟨w.heap.size + 1, 1, none⟩ (.slice ua q ucp)) := (Kept.set wr ⟨w.heap.size + 1, 0, none⟩ _).trans (Kept.set _ ⟨w.heap.size + 1, 1, none⟩ _)
          have t0 : ((wr.setCell ⟨w.heap.size + 1, 0, none⟩ (.slice va q vcp)).setCell ⟨w.heap.size + 1, 1, none⟩ (.slice ua q ucp)).cell? ⟨w.heap.size + 1, 0, none⟩ = some (.slice va q vcp) := by
            rw [World.cell?_setCell_other _ _ _ _ (by simp)]
            exact World.cell?_setCell_same' _ _ _ (by rw [s0]; rfl)
          have t1 : ((wr.setCell ⟨w.heap.size + 1, 0, none⟩ (.slice va q vcp)).setCell ⟨w.heap.size + 1, 1, none⟩ (.slice ua q ucp)).cell? ⟨w.heap.size + 1, 1, none⟩ = some (.slice ua q ucp) := by
            refine World.cell?_setCell_same' _ _ _ ?_
            rw [World.cell?_setCell_other _ _ _ _ (by simp), s1]; rfl
          generalize ((wr.setCell ⟨w.heap.size + 1, 0, none⟩ (.slice va q vcp)).setCell ⟨w.heap.size + 1, 1, none⟩ (.slice ua q ucp)) = W5 at *
          have KS := hid ks
          clear ks
          refine bodyPost_ret (v := .agg #[.slice va q vcp, .slice ua q ucp]) ?_ rfl ?_
          · rw [results_one rfl]
            go_simp
          · refine ⟨_, _, _, _, _, _, rfl, ?_, ?_, below_kept HFIN.out KS.out HFIN.out.size (fun b e => by omega)⟩
            · rw [HY.out.1]
              exact (HOS9.out.a1.kept KS.out (fun b hb e => by have := (HOS9.out.a1.block hb).1; omega)).mono (by omega)
            · rw [HY.out.2]
              exact (HOS9.out.a2.kept KS.out (fun b hb e => by have := (HOS9.out.a2.block hb).1; omega)).mono (by omega)
end Go.Proofs.YtfcklkmfdjjfoaaDoor
