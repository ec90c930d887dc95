/-
  The walks over leaders and Leaders.
-/
import Derived.Test.YtfcklkmfdjjfoaaDoorLd
namespace Go.Proofs.YtfcklkmfdjjfoaaDoor
open Go.RowKit
set_option linter.unusedVariables false

/-- Behind the first k rounds. -/
structure LSt (O : Nat → Int) (n B : Nat) (w : World) (k : Nat) (wr : World) : Prop where
  row : RB wr B n (ldF O n k)
  bel : Below w.heap.size w wr

theorem RI.later {w w' : World} {B n : Nat} {f : Nat → Int} {base : Nat} (h : RI w B n f) (hb : Below base w w') (hB : w.heap.size ≤ base) : RI w' B n f :=
  Row.keep h (hb.block B (by have := RI.lt h; omega))
theorem RB.later {w w' : World} {B n : Nat} {f : Nat → Bool} {base : Nat} (h : RB w B n f) (hb : Below base w w') (hB : w.heap.size ≤ base) : RB w' B n f :=
  Row.keep h (hb.block B (by have := RB.lt h; omega))

theorem LSt.mid {O : Nat → Int} {n B : Nat} {w : World} {k : Nat} {wr : World} (h : LSt O n B w k wr) (hB : w.heap.size ≤ B) (ob : Obj) (v : Bool) (hv : v = (ldF O n k k || begB O k)) :
    RB ((wr.setCell ⟨B, k, none⟩ (.bool v)).alloc ob) B n (lhF O n k) ∧ Below w.heap.size w ((wr.setCell ⟨B, k, none⟩ (.bool v)).alloc ob) := by
  have p := h.row.put (g := lhF O n k) k v (fun i hi => by rw [hv]; exact lh_step O n k i)
  have q := h.bel.setCell (p := ⟨B, k, none⟩) (by simpa using hB) (.bool v)
  exact ⟨p.1.kept (Kept.alloc (fun _ => False) _ ob) (fun x => x), q.alloc q.size ob⟩

set_option maxRecDepth 100000 in
set_option maxHeartbeats 4000000 in
theorem leadersC (A b off n cap : Nat) (xs : List Inx) (w : World) (hn : n ≤ 1048576) (hcap : n ≤ cap) (hc : Cod w b off n xs) (hg : Good (opF xs) n) (hA : RI w A n (enF (opF xs) n)) :
    Calls Tryd.prog 31 #[.slice (some ⟨b, off, none⟩) n cap, .slice (some ⟨A, 0, none⟩) n n] w fun e w' => ∃ B, e = .returned (.slice (some ⟨B, 0, none⟩) n n) ∧ w.heap.size ≤ B ∧ RB w' B n (leB (opF xs) n) ∧ Below w.heap.size w w' := by
  obtain ⟨i0, hi, hz0, hz1, hz2⟩ := info_parts Tryd.infBools
  have hb2 : i0.bytes * n ≤ 281474976710656 := by rw [hz2]; omega
  have hml : n ≤ maxLen := by unfold maxLen; omega
  have HC := hid hc
  have HG := hid hg
  have HA := hid hA
  clear hc hg hA
  go_enter Tryd.func31, Tryd.ntmps31
  go_wp2_with (first | (at_make; refine wpList_make_full _ rfl _ _ 35 rfl w.heap.size 4 i0 (.bool false) 1 Tryd.underlying35 hi hz0 hz1 .i64 .i64 _ _ n rfl rfl (by omega) (by omega) hb2 hml (Nat.le_refl _) ?_; intro w1 hown hgrow))
  have hrow : RB w1 w.heap.size n (ldF (opF xs) n 0) := made_rb hown _ (fun i => by simp [ldF, ifB])
  have hbel : Below w.heap.size w w1 := (Below.refl _ _).grown hgrow (Nat.le_refl _) (by simp)
  have HST := hid (show LSt (opF xs) n w.heap.size w 0 w1 from ⟨hrow, hbel⟩)
  have hBw : w.heap.size ≤ w.heap.size := Nat.le_refl _
  clear hown hgrow hi hz0 hz1 hz2 hb2 hml hrow hbel
  go_loopw [6, 15] (fun g i wr => ∃ k : Nat, k ≤ n ∧ g = .bool (begB (opF xs) k) ∧ i = .int .i64 k ∧ LSt (opF xs) n w.heap.size w k wr) (fun _ i _ => n - (intOf i).toNat)
  case atStart => exact ⟨0, by omega, rfl, rfl, HST.out⟩
  case round =>
    obtain ⟨k, hk, rfl, rfl, hst⟩ := hrel
    by_cases hlt : k < n
    · have hcr := HC.out.later hst.bel (Nat.le_refl _)
      have hAr := HA.out.later hst.bel (Nat.le_refl _)
      have g0 := hcr.op hlt
      have hr := hcr.range hlt
      obtain ⟨av, g1⟩ : ∃ av, wr.cell? ⟨b, off + k * 3 + 1, none⟩ = some (.int .i64 av) := ⟨_, hcr.num hlt⟩
      obtain ⟨la, ln, lc, g2⟩ : ∃ la ln lc, wr.cell? ⟨b, off + k * 3 + 2, none⟩ = some (.slice la ln lc) := ⟨_, _, _, hcr.lab hlt⟩
      have hbg : begB (opF xs) (k + 1) = cutB (opF xs k) := rfl
      obtain ⟨c, hcO⟩ : ∃ c, opF xs k = c := ⟨_, rfl⟩
      rw [hcO] at g0 hr hbg
      obtain ⟨ob, hob⟩ : ∃ ob, ob = Obj.cells #[Value.int .u8 c, .int .i64 av, .slice la ln lc] 67 := ⟨_, rfl⟩
      have kf := Kept.alloc (fun _ => False) wr ob
      have hR := hst.row
      have d0 : wr.cell? ⟨w.heap.size, k, none⟩ = some (.bool (ldF (opF xs) n k k)) := hR.cell k hlt
      have d1 : wr.frozen? ⟨w.heap.size, k, none⟩ = false := hR.free k
      have hlB := hst.row.lt
      have nB : ¬ w.heap.size = wr.heap.size := by omega
      obtain ⟨v, hv⟩ : ∃ v, v = (ldF (opF xs) n k k || begB (opF xs) k) := ⟨_, rfl⟩
      have hmid := hst.mid hBw ob v hv
      have x0 : ((wr.setCell ⟨w.heap.size, k, none⟩ (.bool v)).alloc ob).cell? ⟨wr.heap.size, 0, none⟩ = some (.int .u8 c) := by
        have := World.cell?_alloc_new (wr.setCell ⟨w.heap.size, k, none⟩ (.bool v)) #[Value.int .u8 c, .int .i64 av, .slice la ln lc] 67 0
        rw [hob]; simpa using this
      have HM := hid hmid
      have HBG := hid hbg
      have HO := hid hcO
      have hC := hid (cutC c ((wr.setCell ⟨w.heap.size, k, none⟩ (.bool v)).alloc ob) hr.1 hr.2)
      have hlt' : (k : Int) < (n : Int) := by omega
      subst hob
      clear hst hcr hAr kf hR hmid hbg hcO
      generalize ldF (opF xs) n k k = u at *
      generalize begB (opF xs) k = g at *
      rcases u with _ | _
      all_goals
        simp only [Bool.false_or, Bool.true_or] at hv
        subst hv
        go_wp2_with fail
        refine hC.out.mono ?_
        rintro e w5 ⟨rfl, hw5⟩
        rw [← hw5] at HM
        by_cases h4 : c = 4
        · subst h4
          obtain ⟨j, e1, e2, e3, _⟩ := good_open HG.out hlt (by rw [HO.out]; rfl)
          have hA2 := (HA.out.later HM.out.2 (Nat.le_refl _)).cell k hlt
          rw [e1] at hA2
          have hp := HM.out.1.put (g := ldF (opF xs) n (k + 1)) j true (fun i hi => ld_if HO.out e1)
          have f1 := HM.out.1.cell j (by omega)
          have f2 := HM.out.1.free j
          have HP := hid hp.1
          have HBL := hid (HM.out.2.setCell (p := ⟨w.heap.size, j, none⟩) (by simp) (.bool true))
          have hjn : (j : Int) < (n : Int) := by omega
          clear hp hw5
          generalize lhF (opF xs) n k j = q at *
          generalize cutB 4 = cb at *
          go_wp2_with fail
          exact ⟨⟨k + 1, by omega, by rw [HBG.out], by go_num, HP.out, HBL.out⟩, by simp [intOf]; omega⟩
        · have HP := hid (HM.out.1.congr (fun i _ => ld_else (by rw [HO.out]; exact h4)))
          rw [decide_eq_false h4]
          clear hw5
          generalize cutB c = cb at *
          go_wp2_with fail
          exact ⟨⟨k + 1, by omega, by rw [HBG.out], by go_num, HP.out, HM.out.2⟩, by simp [intOf]; omega⟩
    · obtain rfl : k = n := by omega
      have hlt' : ¬ (k : Int) < (k : Int) := by omega
      have HS := hid hst
      clear hst
      go_wp2_with fail
      go_ret
      exact ⟨_, rfl, hBw, HS.out.row.congr (fun i hi => (ldF_all hi).symm), HS.out.bel⟩
end Go.Proofs.YtfcklkmfdjjfoaaDoor
