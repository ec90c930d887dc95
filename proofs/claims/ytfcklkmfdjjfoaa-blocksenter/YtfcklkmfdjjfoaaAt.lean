/-
  The walks over planAt, labels, Labels.
-/
import Derived.Test.YtfcklkmfdjjfoaaMap
import Derived.Test.YtfcklkmfdjjfoaaList
import Derived.Handy
namespace Go.Proofs.Ytfcklkmfdjjfoaa
open Go.RowKit
set_option linter.unusedVariables false

set_option maxRecDepth 100000 in
set_option maxHeartbeats 1000000 in
theorem planAt_out (a : Option Addr) (n cap : Nat) (pc : Int) (w : World) (hp : pc < 0 ∨ (n : Int) ≤ pc) :
    Calls Try.prog 18 #[.slice a n cap, .int .i64 pc] w fun e w' => e = .returned (.tuple #[.agg #[nilV, nilV, nilV], .bool false]) ∧ Below w.heap.size w w' := by
  go_enter Try.func18, Try.ntmps18
  have HB := hid ((Below.refl w.heap.size w).alloc (Nat.le_refl _) (Obj.cells #[nilV, nilV, nilV] 46))
  by_cases h : pc < 0
  · go_wp2_with fail
    refine bodyPost_ret (v := .tuple #[.agg #[nilV, nilV, nilV], .bool false]) ?_ rfl ⟨rfl, HB.out⟩
    rw [results_cell_tmp rfl]
    go_simp
  · have h2 : (n : Int) ≤ pc := by omega
    go_wp2_with fail
    refine bodyPost_ret (v := .tuple #[.agg #[nilV, nilV, nilV], .bool false]) ?_ rfl ⟨rfl, HB.out⟩
    rw [results_cell_tmp rfl]
    go_simp

set_option maxRecDepth 100000 in
set_option maxHeartbeats 1000000 in
theorem planAt_in (a : Option Addr) (n cap : Nat) (xs : List Inx) (pc : Nat) (w : World) (hn : n ≤ 1048576) (hcap : n ≤ cap) (hc : CodS w a n xs) (hp : pc < n) :
    Calls Try.prog 18 #[.slice a n cap, .int .i64 pc] w fun e w' => ∃ a1 a2 a3 m, e = .returned (.tuple #[.agg #[.slice a1 m m, .slice a2 m m, .slice a3 m m], .bool (decide ((res (opF xs) n 0).1 = 0))]) ∧ MapO (opF xs) n w.heap.size w' a1 a2 a3 m ∧ Below w.heap.size w w' := by
  have hb0 := (Below.refl w.heap.size w).alloc (Nat.le_refl _) (Obj.cells #[nilV, nilV, nilV] 46)
  have H1 := hid (map_in a n cap xs _ hn hcap (hc.later hb0 (Nat.le_refl _)))
  have hp1 : ¬ (pc : Int) < 0 := by omega
  have hp2 : ¬ (n : Int) ≤ (pc : Int) := by omega
  have HB0 := hid hb0
  clear hc hb0
  go_enter Try.func18, Try.ntmps18
  go_wp2_with fail
  refine H1.out.mono ?_
  rintro e w1 ⟨a1, a2, a3, m, rfl, hM, hb1⟩
  have q : ∀ j, j < 3 → w1.cell? ⟨w.heap.size, j, none⟩ = some nilV := fun j hj => by
    rw [hb1.cell (p := ⟨w.heap.size, j, none⟩) (by simp), World.cell?_alloc_new]
    rcases j with _ | _ | _ | j <;> first | rfl | omega
  have f : ∀ j, w1.frozen? ⟨w.heap.size, j, none⟩ = false := fun j => by
    rw [frozen_of_block (hb1.block w.heap.size (by simp))]; simp
  have q0 := q 0 (by omega)
  have q1 := q 1 (by omega)
  have q2 := q 2 (by omega)
  have f0 := f 0
  have f1 := f 1
  have f2 := f 2
  have hs1 := hb1.size
  simp only [World.size_alloc] at hs1
  have hb2 : Below w.heap.size w w1 := HB0.out.trans (hb1.mono (by simp))
  have hb3 := ((hb2.setCell (p := ⟨w.heap.size, 0, none⟩) (by simp) (.slice a1 m m)).setCell (p := ⟨w.heap.size, 1, none⟩) (by simp) (.slice a2 m m)).setCell (p := ⟨w.heap.size, 2, none⟩) (by simp) (.slice a3 m m)
  have hK : Kept (fun k => k = w.heap.size) w1 (((w1.setCell ⟨w.heap.size, 0, none⟩ (.slice a1 m m)).setCell ⟨w.heap.size, 1, none⟩ (.slice a2 m m)).setCell ⟨w.heap.size, 2, none⟩ (.slice a3 m m)) := by
    refine ⟨rfl, rfl, rfl, by simp, fun k hk hs => ?_⟩
    rw [heap_setCell_other _ _ _ _ (fun e => hs e), heap_setCell_other _ _ _ _ (fun e => hs e), heap_setCell_other _ _ _ _ (fun e => hs e)]
  have HM := hid hM
  have HB := hid hb3
  have HK := hid hK
  clear hM hb1 hb2 hb3 hK q f HB0
  have hs2 : w.heap.size + 1 ≤ w1.heap.size := hs1
  by_cases h0 : (res (opF xs) n 0).1 = 0
  · have hz : ((res (opF xs) n 0).1 == 0) = true := by rw [h0]; rfl
    have H0 := hid h0
    clear h0
    generalize hr1 : (res (opF xs) n 0).1 = r1 at *
    generalize hr2 : (res (opF xs) n 0).2 = r2 at *
    go_wp2_with fail
    refine bodyPost_ret (v := .tuple #[.agg #[.slice a1 m m, .slice a2 m m, .slice a3 m m], .bool true]) ?_ rfl ⟨a1, a2, a3, m, ?_, ?_, HB.out⟩
    · rw [results_cell_tmp rfl]
      go_simp
    · rw [hr1, H0.out]; rfl
    · exact HM.out.keep HK.out (fun k hk e => by simp only [World.size_alloc] at hk; omega) (by simp)
  · have hz : ((res (opF xs) n 0).1 == 0) = false := by simpa using h0
    have H0 := hid h0
    clear h0
    generalize hr1 : (res (opF xs) n 0).1 = r1 at *
    generalize hr2 : (res (opF xs) n 0).2 = r2 at *
    go_wp2_with fail
    refine bodyPost_ret (v := .tuple #[.agg #[.slice a1 m m, .slice a2 m m, .slice a3 m m], .bool false]) ?_ rfl ⟨a1, a2, a3, m, ?_, ?_, HB.out⟩
    · rw [results_cell_tmp rfl]
      go_simp
    · rw [hr1, decide_eq_false H0.out]
    · exact HM.out.keep HK.out (fun k hk e => by simp only [World.size_alloc] at hk; omega) (by simp)

/-- The labels at i. -/
def labs (O : Nat → Int) (i : Nat) : List Int := (stk O i).map (fun t : Nat => (t : Int)) ++ [-1]
/-- Those behind q. -/
def rst (O : Nat → Int) (q : Int) : List Int := if q = -1 then [] else labs O q.toNat

theorem labs_step (O : Nat → Int) (i : Nat) : labs O i = top (stk O i) :: rst O (top (stk O i)) := by
  rcases stk_cases O i with h | ⟨t, ht, hO, h⟩
  · unfold labs; rw [h]; rfl
  · unfold labs; rw [h]
    have : ¬ (t : Int) = -1 := by omega
    simp [top, rst, this, labs]
theorem top_lt (O : Nat → Int) (i : Nat) : -1 ≤ top (stk O i) ∧ top (stk O i) < i := by
  rcases stk_cases O i with h | ⟨t, ht, hO, h⟩
  · rw [h]; simp [top]; omega
  · rw [h]; simp [top]; omega
theorem labs_len {O : Nat → Int} {k : Nat} (h : Okp O k) : (labs O k).length ≤ 33 := by
  have := stk_len h
  simp [labs]; exact this
theorem labs_mem {O : Nat → Int} {i : Nat} : ∀ z ∈ labs O i, -1 ≤ z ∧ z < i := fun z hz => by
  simp only [labs, List.mem_append, List.mem_map, List.mem_singleton] at hz
  rcases hz with ⟨t, ht, rfl⟩ | rfl
  · have := (stk_mem O i t ht).1; omega
  · omega
theorem good_okp {O : Nat → Int} {n i : Nat} (h : Good O n) (hi : i < n) : Okp O i := fun j hj => h.2.1 j (by omega)

set_option maxRecDepth 100000 in
set_option maxHeartbeats 1000000 in
theorem labels (A B C n i : Nat) (O : Nat → Int) (w : World) (hn : n ≤ 1048576) (hi : i < n) (hl : (labs O i).length ≤ 33) (hC : RI w C n (owF O n)) :
    Calls Try.prog 19 #[planV A B C n, .int .i64 i] w fun e w' => ∃ v, e = .returned v ∧ LI w' w.heap.size v (labs O i) ∧ Below w.heap.size w w' := by
  unfold planV
  obtain ⟨op, hop⟩ : ∃ op, op = Obj.cells #[Value.slice (some ⟨A, 0, none⟩) n n, .slice (some ⟨B, 0, none⟩) n n, .slice (some ⟨C, 0, none⟩) n n] 46 := ⟨_, rfl⟩
  have hCl := hC.lt
  have hC1 := hC.kept (Kept.alloc (fun _ => False) w op) (fun x => x)
  have p2 : (w.alloc op).cell? ⟨w.heap.size, 2, none⟩ = some (.slice (some ⟨C, 0, none⟩) n n) := by rw [hop, World.cell?_alloc_new]; rfl
  have hb0 := (Below.refl w.heap.size w).alloc (Nat.le_refl _) op
  have hs1 : (w.alloc op).heap.size = w.heap.size + 1 := by simp
  have HC := hid hC1
  have HP2 := hid p2
  have HB0 := hid hb0
  have HL := hid hl
  clear hC hC1 p2 hb0 hl
  subst hop
  go_enter Try.func19, Try.ntmps19
  go_wp2_with fail
  generalize hw1 : w.alloc (Obj.cells #[Value.slice (some ⟨A, 0, none⟩) n n, .slice (some ⟨B, 0, none⟩) n n, .slice (some ⟨C, 0, none⟩) n n] 46) = w1 at *
  go_loopw [1, 5] (fun p v wr => ∃ (q : Int) (l : List Int), p = .int .i64 q ∧ -1 ≤ q ∧ q < n ∧ LI wr (w.heap.size + 1) v l ∧ l ++ rst O q = labs O i ∧ Below (w.heap.size + 1) w1 wr) (fun p _ _ => (intOf p + 1).toNat)
  case atStart =>
    refine ⟨(i : Int), [], rfl, by omega, by omega, LI.nil _ _, ?_, Below.refl _ _⟩
    have : ¬ (i : Int) = -1 := by omega
    simp [rst, this]
  case round =>
    obtain ⟨q, l, rfl, hq0, hq1, hli, he, hb⟩ := hrel
    obtain ⟨la, lc, rfl⟩ := hli.slice
    have hsz := hb.size
    by_cases hq : q = -1
    · subst hq
      have hl2 : l = labs O i := by rw [← he]; simp [rst]
      subst hl2
      have HLI := hid hli
      have HB := hid hb
      clear hli hb he
      go_wp2_with fail
      go_ret
      exact ⟨_, rfl, HLI.out.mono (by omega), HB0.out.trans (HB.out.mono (by omega))⟩
    · obtain ⟨j, rfl⟩ : ∃ j : Nat, q = (j : Int) := ⟨q.toNat, by omega⟩
      have hj : j < n := by omega
      have hz : owF O n j = top (stk O j) := by unfold owF; rw [if_pos hj]
      have c1 : wr.cell? ⟨C, j, none⟩ = some (.int .i64 (top (stk O j))) := by
        rw [hb.cell (p := ⟨C, j, none⟩) (by simp only; omega), HC.out.cell j hj, hz]
      have c2 : wr.cell? ⟨w.heap.size, 2, none⟩ = some (.slice (some ⟨C, 0, none⟩) n n) := by
        rw [hb.cell (p := ⟨w.heap.size, 2, none⟩) (by simp only; omega), HP2.out]
      have hr : rst O (j : Int) = labs O j := by
        have : ¬ (j : Int) = -1 := by omega
        simp [rst, this]
      rw [hr, labs_step] at he
      have htl := top_lt O j
      have hll : l.length ≤ 1073741824 := by
        have h1 := HL.out
        rw [← he] at h1
        simp at h1; omega
      have HE := hid he
      have hjb : ((j : Int) != -1) = true := by simp
      generalize top (stk O j) = z at *
      have hal := hli.later ((Below.refl wr.heap.size wr).alloc (Nat.le_refl _) (.cells #[.int .i64 z] 3)) (Nat.le_refl _)
      have HLI := hid hal
      have HB := hid (hb.alloc (by omega) (.cells #[.int .i64 z] 3))
      clear hli hb he hal hz hr
      have hsa : w.heap.size + 1 ≤ (wr.alloc (.cells #[.int .i64 z] 3)).heap.size := by simp; omega
      go_wp2_with (first
        | (at_builtin; refine app_int _ rfl (.tmp 13) (.tmp 15) rfl (w.heap.size + 1) _ l rfl HLI.out hsa ⟨wr.heap.size, 0, none⟩ z rfl (by simp [Addr.add]) hll ?_; intro B1 cap1 w2 hL2 hB2 hb2; have HL2 := hid hL2; have HB2 := hid (HB.out.trans hb2); clear hL2 hb2))
      refine ⟨⟨z, l ++ [z], rfl, by omega, by omega, HL2.out, ?_, HB2.out⟩, ?_⟩
      · rw [List.append_assoc]; exact HE.out
      · simp only [intOf]; omega

/-- What Labels answers. -/
def labV (O : Nat → Int) (n : Nat) (pc : Int) : List Int := if (res O n 0).1 = 0 ∧ 0 ≤ pc ∧ pc < n then labs O pc.toNat else []

end Go.Proofs.Ytfcklkmfdjjfoaa
