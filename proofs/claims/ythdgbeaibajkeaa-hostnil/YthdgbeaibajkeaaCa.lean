/-
  The walk over Call.
-/
import Derived.Test.YthdgbeaibajkeaaRr
namespace Go.Proofs.Ythdgbeaibajkeaa
open Go.RowKit
set_option linter.unusedVariables false

/-- The memory in which Call asks what is left. -/
def wC (w : World) (p : Option Addr) (s : ByteArray) : World :=
  (((w.alloc (.cells #[.string s] 9)).alloc (.cells #[.slice none 0 0] 31)).alloc (.cells #[.bool false] 4)).alloc (.cells #[.pointer p] 28)
theorem wC_size (w : World) (p : Option Addr) (s : ByteArray) : (wC w p s).heap.size = w.heap.size + 4 := by simp [wC]
theorem wC_below (w : World) (p : Option Addr) (s : ByteArray) : Below w.heap.size w (wC w p s) :=
  ((((Below.refl _ w).alloc (Nat.le_refl _) _).alloc (by simp) _).alloc (by simp; omega) _).alloc (by simp; omega) _
theorem wC_0 (w : World) (p : Option Addr) (s : ByteArray) : (wC w p s).heap[w.heap.size]? = some (.cells #[.string s] 9) :=
  blk_later (below_new _ _) (blk_later (below_new _ _) (blk_later (below_new _ _) (alloc_at rfl)))
theorem wC_1 (w : World) (p : Option Addr) (s : ByteArray) : (wC w p s).heap[w.heap.size + 1]? = some (.cells #[.slice none 0 0] 31) :=
  blk_later (below_new _ _) (blk_later (below_new _ _) (alloc_at (by simp)))
theorem wC_2 (w : World) (p : Option Addr) (s : ByteArray) : (wC w p s).heap[w.heap.size + 2]? = some (.cells #[.bool false] 4) :=
  blk_later (below_new _ _) (alloc_at (by simp))
theorem wC_3 (w : World) (p : Option Addr) (s : ByteArray) : (wC w p s).heap[w.heap.size + 3]? = some (.cells #[.pointer p] 28) := alloc_at (by simp)

theorem kept_put (w : World) (b : Nat) (o : Obj) : Kept (fun k => k = b) w (w.putObj b o) :=
  ⟨rfl, rfl, rfl, by simp, fun k hk hs => World.putObj_heap_other hs⟩

set_option maxHeartbeats 4000000 in
theorem call14_none (p : Option Addr) (s : ByteArray) (w : World)
    (hl : ∀ W, Below w.heap.size w W → Calls Try.prog 12 #[.pointer p] W fun e w' => e = .returned (.int .i64 0) ∧ w' = W) :
    Calls Try.prog 14 #[.pointer p, .string s] w fun e w' => e = .returned (.tuple #[.slice none 0 0, .bool false]) ∧ Below w.heap.size w w' := by
  have HL := hid hl
  clear hl
  refine (callsIn_wide (n := 3)).1 ?_
  refine callsIn_of_wp_marks Try.func14 rfl trivial ?_ rfl
  simp only [Try.ntmps14, List.size_toArray, List.length_cons, List.length_nil, Nat.reduceAdd, Nat.reduceSub, Array.replicate_succ, Array.replicate_zero, List.push_toArray, List.append_toArray, List.nil_append, List.cons_append]
  gi_wp2_with fail
  refine ⟨trivial, ?_⟩
  refine (callsIn_wide.2 (replies20 p _)).mono ?_
  rintro e w' ⟨rfl, hw⟩
  have hw' : w' = wC w p s := hw
  clear hw
  subst hw'
  have z4 := wC_size w p s
  have b4 := wC_below w p s
  have d1 := wC_1 w p s
  have d2 := wC_2 w p s
  have d3 := wC_3 w p s
  gi_wp2_with fail
  generalize wC w p s = W4 at *
  refine range_raw (gf := 24) (lb := #[.pointer (some ⟨w.heap.size + 1 + 1 + 1, 0, none⟩)]) rfl (fun _ _ => rfl) (by omega) ?_
  intro fn rec W1 hrec hb1 hz1 hD hL
  have b1 : Below w.heap.size w W1 := b4.trans (hb1.mono b4.size)
  have e1 := blk_later hb1 d1
  have e2 := blk_later hb1 d2
  have e3 := blk_later hb1 d3
  refine (iter24_none (W4.heap.size + 1) (w.heap.size + 1 + 1 + 1) p W1 2 (cell_at e3) (HL.out W1 b1)).mono ?_
  rintro e W2 ⟨hv, rfl⟩
  refine ⟨hv, .ready, none, (fun h => nomatch h), hL, ?_⟩
  rintro W3 hW3
  have k3 := kept_put W2 (W4.heap.size + 1) (.loop (rec .exhausted none))
  rw [← hW3] at k3
  have D3 : W3.heap[W4.heap.size]? = some (.deferred (some [])) := (k3.block _ (by omega) (by omega)).trans hD
  have f1 : W3.heap[w.heap.size + 1]? = _ := (k3.block _ (by omega) (by omega)).trans e1
  have f2 : W3.heap[w.heap.size + 1 + 1]? = _ := (k3.block _ (by omega) (by omega)).trans e2
  have b3 : Below w.heap.size w W3 := below_kept b1 k3 b1.size (fun k e => by omega)
  have c1 : W3.cell? ⟨w.heap.size + 1, 0, none⟩ = some (.slice none 0 0) := cell_at f1
  have c2 : W3.cell? ⟨w.heap.size + 1 + 1, 0, none⟩ = some (.bool false) := cell_at f2
  have g1 : W3.frozen? ⟨w.heap.size + 1, 0, none⟩ = false := free_at f1
  have g2 : W3.frozen? ⟨w.heap.size + 1 + 1, 0, none⟩ = false := free_at f2
  have HD := hid D3
  have HB3 := hid b3
  have HZ := hid z4
  clear hW3 k3 D3 f1 f2 b3 e1 e2 e3 hL hD hb1 b1 b4 d1 d2 d3 hz1 z4 hv
  dsimp only
  gi_wp2_with fail
  have hz := HZ.out
  have hbs := HB3.out.size
  have kk := (kept_set W3 (w.heap.size + 1) 0 (.slice none 0 0)).mono (T := fun k => w.heap.size ≤ k ∧ k < W4.heap.size) (fun k e => by omega)
  have kk2 := kk.trans ((kept_set _ (w.heap.size + 1 + 1) 0 (.bool false)).mono (fun k e => by omega))
  have q1 : ((W3.setCell ⟨w.heap.size + 1, 0, none⟩ (.slice none 0 0)).setCell ⟨w.heap.size + 1 + 1, 0, none⟩ (.bool false)).cell? ⟨w.heap.size + 1, 0, none⟩ = some (.slice none 0 0) := by
    rw [World.cell?_setCell_other _ _ _ _ (by simp)]
    exact World.cell?_setCell_same' _ _ _ (by rw [c1]; rfl)
  have q2 : ((W3.setCell ⟨w.heap.size + 1, 0, none⟩ (.slice none 0 0)).setCell ⟨w.heap.size + 1 + 1, 0, none⟩ (.bool false)).cell? ⟨w.heap.size + 1 + 1, 0, none⟩ = some (.bool false) :=
    World.cell?_setCell_same' _ _ _ (by rw [World.cell?_setCell_other _ _ _ _ (by simp), c2]; rfl)
  generalize (W3.setCell ⟨w.heap.size + 1, 0, none⟩ (.slice none 0 0)).setCell ⟨w.heap.size + 1 + 1, 0, none⟩ (.bool false) = X at *
  have hlt : W4.heap.size < W3.heap.size := blk_lt HD.out
  have hK : X.heap[W4.heap.size]? = some (.deferred (some [])) := (kk2.block _ hlt (by omega)).trans HD.out
  have kp := kept_put X W4.heap.size (.deferred none)
  have r1 := kp.cell q1 (by omega)
  have r2 := kp.cell q2 (by omega)
  refine ⟨by simp, .inl ⟨_, _, rfl, run_takeDeferred hK, ?_⟩⟩
  refine ⟨.tuple #[.slice none 0 0, .bool false], ?_, rfl, below_kept (below_kept HB3.out kk2 hbs (fun k h => h.1)) kp (Nat.le_trans hbs kk2.size) (fun k e => by omega)⟩
  simp [results, Try.f14, go_sem, r1, r2]

/-- Where a host stands behind a call: at block H. -/
def HC (H : Nat) (t : Int) (n b off : Nat) (W : World) : Prop :=
  W.cell? ⟨H, 0, none⟩ = some (.int .i64 t) ∧ (∃ a' c', W.cell? ⟨H, 1, none⟩ = some (.slice a' n c') ∧ n ≤ c' ∧ (n = 0 ∨ a' = some ⟨b, off, none⟩)) ∧ W.frozen? ⟨H, 0, none⟩ = false ∧ W.frozen? ⟨H, 1, none⟩ = false
theorem HC.keep {H : Nat} {t : Int} {n b off : Nat} {W W' : World} (h : HC H t n b off W) (e : W'.heap[H]? = W.heap[H]?) : HC H t n b off W' := by
  obtain ⟨h0, ⟨a', c', h1, h2⟩, h3, h4⟩ := h
  exact ⟨(cell_of_block e 0).trans h0, ⟨a', c', (cell_of_block e 1).trans h1, h2⟩, (frozen_of_block e 0).trans h3, (frozen_of_block e 1).trans h4⟩

set_option maxHeartbeats 8000000 in
theorem call14_one (Q : Nat → Prop) (H b off n c : Nat) (t : Int) (x : Rp) (s : ByteArray) (w : World)
    (h0 : w.cell? ⟨H, 0, none⟩ = some (.int .i64 t)) (h1 : w.cell? ⟨H, 1, none⟩ = some (.slice (some ⟨b, off, none⟩) (n + 1) c))
    (f0 : w.frozen? ⟨H, 0, none⟩ = false) (f1 : w.frozen? ⟨H, 1, none⟩ = false) (ht : 0 ≤ t ∧ t < 9223372036854775807) (hn : n + 1 ≤ 2000) (hc : n + 1 ≤ c)
    (hx : RpAt Q w b off x) (hbH : b ≠ H) (hQ : ∀ k, Q k → k ≠ H) (hs : s.size ≤ 140737488355328) :
    Calls Try.prog 14 #[.pointer (some ⟨H, 0, none⟩), .string s] w fun e w' => e = .returned (.tuple (toldV x s)) ∧ Kept (fun k => k = H) w w' ∧ HC H (t + 1) n b (off + 2) w' := by
  have hH : H < w.heap.size := block_lt_of_cell h0
  obtain ⟨ta, tn, tc, tb, htv⟩ : ∃ ta tn tc tb, toldV x s = #[.slice ta tn tc, .bool tb] := by unfold toldV; split <;> exact ⟨_, _, _, _, rfl⟩
  refine (callsIn_wide (n := 3)).1 ?_
  refine callsIn_of_wp_marks Try.func14 rfl trivial ?_ rfl
  simp only [Try.ntmps14, List.size_toArray, List.length_cons, List.length_nil, Nat.reduceAdd, Nat.reduceSub, Array.replicate_succ, Array.replicate_zero, List.push_toArray, List.append_toArray, List.nil_append, List.cons_append]
  gi_wp2_with fail
  refine ⟨trivial, ?_⟩
  refine (callsIn_wide.2 (replies20 (some ⟨H, 0, none⟩) _)).mono ?_
  rintro e w' ⟨rfl, hw⟩
  have hw' : w' = wC w (some ⟨H, 0, none⟩) s := hw
  clear hw
  subst hw'
  have z4 := wC_size w (some ⟨H, 0, none⟩) s
  have b4 := wC_below w (some ⟨H, 0, none⟩) s
  have d0 := wC_0 w (some ⟨H, 0, none⟩) s
  have d1 := wC_1 w (some ⟨H, 0, none⟩) s
  have d2 := wC_2 w (some ⟨H, 0, none⟩) s
  have d3 := wC_3 w (some ⟨H, 0, none⟩) s
  gi_wp2_with fail
  generalize wC w (some ⟨H, 0, none⟩) s = W4 at *
  refine range_raw (gf := 24) (lb := #[.pointer (some ⟨w.heap.size + 1 + 1 + 1, 0, none⟩)]) rfl (fun _ _ => rfl) (by omega) ?_
  intro fn rec W1 hrec hb1 hz1 hD hL
  have b1 : Below w.heap.size w W1 := b4.trans (hb1.mono b4.size)
  have e0 := blk_later hb1 d0
  have e1 := blk_later hb1 d1
  have e2 := blk_later hb1 d2
  have e3 := blk_later hb1 d3
  have hx1 := hx.later b1
  have hHb := b1.block H hH
  refine (iter24_one (W4.heap.size + 1) (w.heap.size + 1 + 1 + 1) H b off n c t x W1 2
    (fun B => B.heap[W4.heap.size + 1]? = some (.loop (rec .done (some .ret))) ∧ B.heap[W4.heap.size]? = some (.deferred (some [])) ∧ B.cell? ⟨w.heap.size + 1, 0, none⟩ = some (.slice ta tn tc) ∧ B.cell? ⟨w.heap.size + 1 + 1, 0, none⟩ = some (.bool tb) ∧ Kept (fun k => k = H) w B ∧ HC H (t + 1) n b (off + 2) B)
    (cell_at e3) (later_cell b1 h0) (later_cell b1 h1) ((frozen_of_block hHb 0).trans f0) ((frozen_of_block hHb 1).trans f1) ht hn hc hx1.1 hx1.2.1 (by omega) hbH ?_).mono ?_
  · intro A hkA q0 q1 q2 q3
    have aL : A.heap[W4.heap.size + 1]? = some (.loop (rec .ready none)) := (hkA.block _ (by omega) (by omega)).trans hL
    have aD : A.heap[W4.heap.size]? = some (.deferred (some [])) := (hkA.block _ (by omega) (by omega)).trans hD
    have a0 : A.heap[w.heap.size]? = _ := (hkA.block _ (by omega) (by omega)).trans e0
    have a1 : A.heap[w.heap.size + 1]? = _ := (hkA.block _ (by omega) (by omega)).trans e1
    have a2 : A.heap[w.heap.size + 1 + 1]? = _ := (hkA.block _ (by omega) (by omega)).trans e2
    have ax := hx1.kept hkA hbH hQ
    have aH : HC H (t + 1) n b (off + 2) A := ⟨q0, q1, q2, q3⟩
    have kA : Kept (fun k => k = H) w A := ⟨hkA.os.trans b1.os, hkA.tape.trans b1.tape, hkA.output.trans b1.output, Nat.le_trans b1.size hkA.size, fun k hk hs => (hkA.block k (by omega) hs).trans (b1.block k hk)⟩
    have zA : W1.heap.size ≤ A.heap.size := hkA.size
    refine yield_ret hrec aL rfl ?_
    obtain ⟨oA, hoA⟩ : ∃ oA, oA = Obj.cells #[.slice x.a x.n x.c, .bool x.tr] 33 := ⟨_, rfl⟩
    have bA := below_new A oA
    have nA := heap_alloc_new A oA
    have zA1 : (A.alloc oA).heap.size = A.heap.size + 1 := by simp
    have aL1 := blk_later bA aL
    have kP := kept_put (A.alloc oA) (W4.heap.size + 1) (.loop (rec .busy none))
    have a0' : ((A.alloc oA).putObj (W4.heap.size + 1) (.loop (rec .busy none))).heap[w.heap.size]? = _ := (kP.block _ (by omega) (by omega)).trans (blk_later bA a0)
    have a1' : ((A.alloc oA).putObj (W4.heap.size + 1) (.loop (rec .busy none))).heap[w.heap.size + 1]? = _ := (kP.block _ (by omega) (by omega)).trans (blk_later bA a1)
    have a2' : ((A.alloc oA).putObj (W4.heap.size + 1) (.loop (rec .busy none))).heap[w.heap.size + 1 + 1]? = _ := (kP.block _ (by omega) (by omega)).trans (blk_later bA a2)
    have aD' : ((A.alloc oA).putObj (W4.heap.size + 1) (.loop (rec .busy none))).heap[W4.heap.size]? = _ := (kP.block _ (by omega) (by omega)).trans (blk_later bA aD)
    have aL' : ((A.alloc oA).putObj (W4.heap.size + 1) (.loop (rec .busy none))).heap[W4.heap.size + 1]? = some (.loop (rec .busy none)) := World.putObj_heap_same (by omega)
    have nA' : ((A.alloc oA).putObj (W4.heap.size + 1) (.loop (rec .busy none))).heap[A.heap.size]? = _ := (kP.block _ (by omega) (by omega)).trans nA
    have aH' := aH.keep ((kP.block H (by omega) (by omega)).trans (bA.block H (by omega)))
    have kw : Kept (fun k => k = H) w ((A.alloc oA).putObj (W4.heap.size + 1) (.loop (rec .busy none))) := (kA.trans (Kept.alloc _ A oA)).then kP (fun k hk e => by omega)
    have ax' : SegU Q ((A.alloc oA).putObj (W4.heap.size + 1) (.loop (rec .busy none))) x.a x.n x.c x.l := hx.2.2.kept kw hQ
    have HT := hid (told21 Q x s _ ax' hs)
    have hW : W4.heap.size < A.heap.size := by omega
    have hWw : w.heap.size + 1 + 1 < W4.heap.size := by omega
    have nA2 := nA'.trans (congrArg some hoA)
    have x0 : ((A.alloc oA).putObj (W4.heap.size + 1) (.loop (rec .busy none))).cell? ⟨A.heap.size, 0, none⟩ = some (.slice x.a x.n x.c) := cell_at nA2
    have x1 : ((A.alloc oA).putObj (W4.heap.size + 1) (.loop (rec .busy none))).cell? ⟨A.heap.size, 1, none⟩ = some (.bool x.tr) := cell_at nA2
    have x2 : ((A.alloc oA).putObj (W4.heap.size + 1) (.loop (rec .busy none))).cell? ⟨w.heap.size, 0, none⟩ = some (.string s) := cell_at a0'
    have F := hid (And.intro aL1 (And.intro aL' (And.intro aD' (And.intro a1' (And.intro a2' (And.intro aH' kw))))))
    have HOA := hid hoA
    clear q0 q1 q2 q3 hkA hx1 hHb e0 e1 e2 e3 b1 hL hD hb1 d0 d1 d2 d3 z4 hz1 zA1 zA kA ax aH ax' a0' a1' a2' aD' aL' nA' nA2 aH' kw aL1 kP bA nA aL aD a0 a1 a2 b4 h0 h1 f0 f1 hx hoA
    have hsem := @Oper.semAt_some
    gi_wp2_with fail
    rw [← HOA.out]
    refine ⟨F.out.1, ?_⟩
    generalize (A.alloc oA).putObj (W4.heap.size + 1) (.loop (rec .busy none)) = V at *
    gi_wp2_with fail
    refine ⟨trivial, ?_⟩
    refine (CallsIn.inRound (W4.heap.size + 1) (callsIn_wide.2 HT.out)).mono ?_
    rintro e V1 ⟨rfl, hbV⟩
    rw [htv]
    obtain ⟨_, F1, F2, F3, F4, F5, F6⟩ := F.out
    have y1 : V1.cell? ⟨w.heap.size + 1, 0, none⟩ = some (.slice none 0 0) := cell_at (blk_later hbV F3)
    have y2 : V1.cell? ⟨w.heap.size + 1 + 1, 0, none⟩ = some (.bool false) := cell_at (blk_later hbV F4)
    have z1 : V1.frozen? ⟨w.heap.size + 1, 0, none⟩ = false := free_at (blk_later hbV F3)
    have z2 : V1.frozen? ⟨w.heap.size + 1 + 1, 0, none⟩ = false := free_at (blk_later hbV F4)
    have HF := hid (And.intro (blk_later hbV F1) (And.intro (blk_later hbV F2) (And.intro (F5.keep (hbV.block H (Nat.lt_of_lt_of_le hH F6.size))) (F6.then (Kept.of_below hbV) (fun k hk h => by have := F6.size; omega)))))
    clear F F1 F2 F3 F4 F5 F6 hbV HT x0 x1 x2
    gi_wp2_with fail
    have k1 := kept_set V1 (w.heap.size + 1) 0 (.slice ta tn tc)
    have k2 := k1.mono (T := fun k => w.heap.size ≤ k ∧ k < W4.heap.size) (fun k e => by omega)
    have k3 := k2.trans ((kept_set _ (w.heap.size + 1 + 1) 0 (.bool tb)).mono (fun k e => by omega))
    have q1 : ((V1.setCell ⟨w.heap.size + 1, 0, none⟩ (.slice ta tn tc)).setCell ⟨w.heap.size + 1 + 1, 0, none⟩ (.bool tb)).cell? ⟨w.heap.size + 1, 0, none⟩ = some (.slice ta tn tc) := by
      rw [World.cell?_setCell_other _ _ _ _ (by simp)]
      exact World.cell?_setCell_same' _ _ _ (by rw [y1]; rfl)
    have q2 : ((V1.setCell ⟨w.heap.size + 1, 0, none⟩ (.slice ta tn tc)).setCell ⟨w.heap.size + 1 + 1, 0, none⟩ (.bool tb)).cell? ⟨w.heap.size + 1 + 1, 0, none⟩ = some (.bool tb) :=
      World.cell?_setCell_same' _ _ _ (by rw [World.cell?_setCell_other _ _ _ _ (by simp), y2]; rfl)
    generalize (V1.setCell ⟨w.heap.size + 1, 0, none⟩ (.slice ta tn tc)).setCell ⟨w.heap.size + 1 + 1, 0, none⟩ (.bool tb) = X at *
    obtain ⟨G1, G2, G3, G4⟩ := HF.out
    have X1 : X.heap[W4.heap.size + 1]? = some (.loop (rec .busy none)) := (k3.block _ (blk_lt G1) (by omega)).trans G1
    have kp := kept_put X (W4.heap.size + 1) (.loop (rec .done (some .ret)))
    refine ⟨X1, World.putObj_heap_same (blk_lt X1), ?_, kp.cell q1 (by omega), kp.cell q2 (by omega), ?_, ?_⟩
    · exact (kp.block _ (Nat.lt_of_lt_of_le (blk_lt G2) k3.size) (by omega)).trans ((k3.block _ (blk_lt G2) (by omega)).trans G2)
    · exact (G4.then k3 (fun k hk h => by omega)).then kp (fun k hk h => by omega)
    · have hHV : H < V1.heap.size := Nat.lt_of_lt_of_le hH G4.size
      exact G3.keep ((kp.block H (Nat.lt_of_lt_of_le hHV k3.size) (by omega)).trans (k3.block H hHV (by omega)))
  · rintro e W2 ⟨hv, G1, G2, G3, G4, G5, G6⟩
    refine ⟨hv, .done, some .ret, (fun h => nomatch h), G1, ?_⟩
    rintro W3 hW3
    have k3 := kept_put W2 (W4.heap.size + 1) (.loop (rec .exhausted (some .ret)))
    rw [← hW3] at k3
    have D3 : W3.heap[W4.heap.size]? = some (.deferred (some [])) := (k3.block _ (blk_lt G2) (by omega)).trans G2
    have r1 := k3.cell G3 (by omega)
    have r2 := k3.cell G4 (by omega)
    have kp := kept_put W3 W4.heap.size (.deferred none)
    have s1 := kp.cell r1 (by omega)
    have s2 := kp.cell r2 (by omega)
    have hHW : H < W2.heap.size := Nat.lt_of_lt_of_le hH G5.size
    have K5 := hid ((G5.then k3 (fun k hk h => by omega)).then kp (fun k hk h => by omega))
    have K6 := hid (G6.keep ((kp.block H (Nat.lt_of_lt_of_le hHW k3.size) (by omega)).trans (k3.block H hHW (by omega))))
    have HD := hid D3
    clear k3 kp G1 G2 G3 G4 G5 G6 D3 r1 r2 hW3 z4 hz1 hb1 hD hL e0 e1 e2 e3 hx1 hHb b1 b4 d0 d1 d2 d3
    dsimp only
    gi_wp2_with fail
    refine ⟨by simp, .inl ⟨_, _, rfl, run_takeDeferred HD.out, ?_⟩⟩
    refine ⟨.tuple #[.slice ta tn tc, .bool tb], ?_, rfl, K5.out, K6.out⟩
    simp [results, Try.f14, go_sem, s1, s2]
end Go.Proofs.Ythdgbeaibajkeaa
