/-
  The walk over OpsFind: each opcode's word finds it, and no other byte has that word.
-/
import Derived.Test.YtmbbmlchbnjoiaaDoorWorks
import Derived.Test.YtmbbmlchbnjoiaaDoorPureB
import Derived.Deep.CutRange
import Derived.Deep.CutBlock
namespace Go.Proofs.YtmbbmlchbnjoiaaDoor
open Go.RowKit
set_option linter.unusedVariables false

/-- An equation, kept out of sight. -/
structure Seen {α : Type} (a b : α) : Prop where
  out : a = b
theorem keep_eq {α : Type} {a b : α} (h : a = b) : Seen a b := ⟨h⟩

theorem arith_q (j : Nat) (h : 0 < j) (h90 : j < 90) : ∃ q : Nat, j = q + 1 ∧ q < 90 ∧ q + 1 < 90 ∧ (q : Int) < 90 ∧ wrap64 ((j : Int) - 1) = q ∧ decide ((0 : Int) < (j : Int)) = true := by
  refine ⟨j - 1, by omega, by omega, by omega, by omega, by unfold wrap64; omega, by simp; omega⟩
theorem arith_j (j n : Nat) (h90 : j < 90) (hn : n ≤ 90) : (j : Int) < 90 ∧ wrap64 ((j : Int) + 1) = j + 1 ∧ wrap64 ((n : Int) + 1) = n + 1 := by
  refine ⟨by omega, by unfold wrap64; omega, by unfold wrap64; omega⟩
theorem dec_ge {y z : Int} (h : y < z) : decide (z ≤ y) = false := by simp; omega
theorem meas90 (j : Nat) (h : j < 90) : 90 - (intOf (.int .i64 ((j : Int) + 1))).toNat < 90 - (intOf (.int .i64 (j : Int))).toNat := by simp [intOf]; omega

set_option maxRecDepth 100000 in
set_option maxHeartbeats 8000000 in
theorem opsFind5 (c o : Int) (w : World) (hk : KindsOk w) (h0 : 0 ≤ c) (h1 : c ≤ 255) (o0 : 0 ≤ o) (o1 : o ≤ 255) : Calls Tryd.prog 5 #[.int .u8 c, .int .u8 o] w fun e w' => e = .returned (.bool true) ∧ Below w.heap.size w w' := by
  have hp := hk.pos
  have hc := of6 c w hk h0 h1
  have ho := fun W hW => of6 o W hW o0 o1
  obtain ⟨V, hV⟩ : ∃ V, ofV c = V := ⟨_, rfl⟩
  obtain ⟨U, hU⟩ : ∃ U, ofV o = U := ⟨_, rfl⟩
  rw [hV] at hc
  rw [hU] at ho
  obtain ⟨⟨k, wd, tk, pp, ps, pl⟩, ok⟩ := V
  obtain ⟨⟨k2, wd2, tk2, pp2, ps2, pl2⟩, ok2⟩ := U
  have HV := hid hV
  have HU := hid hU
  have HC := hid hc
  have HO := hid ho
  clear hc ho hV hU
  go_enter Tryd.func5, Tryd.ntmps5
  go_wp2_with fail
  refine HC.out.mono ?_
  rintro e w1 ⟨rfl, hb1⟩
  simp only [rv, rowV]
  have HB1 := hid (hb1.alloc hb1.size (.cells #[.int .u8 k, .string wd, .int .i8 tk, .string pp, .string ps, .bool pl] 24))
  clear hb1 HC
  go_wp2_with fail
  refine (HO.out _ (hk.later HB1.out hp)).mono ?_
  rintro e w2 ⟨rfl, hb2⟩
  simp only [rv, rowV]
  have HB2 := hid ((HB1.out.trans (hb2.mono HB1.out.size)).alloc (by have := HB1.out.size; have := hb2.size; omega) (.cells #[.int .u8 k2, .string wd2, .int .i8 tk2, .string pp2, .string ps2, .bool pl2] 24))
  have hH : Holds (rowAt w1.heap.size (k, wd, tk, pp, ps, pl)) (w1.alloc (.cells #[.int .u8 k, .string wd, .int .i8 tk, .string pp, .string ps, .bool pl] 24)) := by
    unfold rowAt
    refine Holds.cons ?_ ?_ (Holds.cons ?_ ?_ (Holds.cons ?_ ?_ (Holds.cons ?_ ?_ (Holds.cons ?_ ?_ (Holds.cons ?_ ?_ (by simp [Holds])))))) <;> simp [go_sem]
  have hH2 := hH.later hb2 (by simp [rowAt])
  have hlt : w1.heap.size < w2.heap.size := World.block_lt_of_cell? w2 ⟨w1.heap.size, 0, none⟩ (rowAt_cells hH2).1.1
  have HH := hid (hH2.grown (World.grownBy_alloc w2 (.cells #[.int .u8 k2, .string wd2, .int .i8 tk2, .string pp2, .string ps2, .bool pl2] 24) none) (fun r e => by cases e))
  have HP := hid (show (w2.alloc (.cells #[.int .u8 k2, .string wd2, .int .i8 tk2, .string pp2, .string ps2, .bool pl2] 24)).cell? ⟨w2.heap.size, 1, none⟩ = some (.string wd2) by simp [go_sem])
  have HQ := hid (show w2.heap.size < (w2.alloc (.cells #[.int .u8 k2, .string wd2, .int .i8 tk2, .string pp2, .string ps2, .bool pl2] 24)).heap.size by simp)
  obtain ⟨⟨c0, c1, c2, c3, c4, c5⟩, _⟩ := rowAt_cells hH2
  clear hb2 HB1 HO hH hH2
  cases ok
  · have hz := fine_none h0 h1 HV.out
    simp only [zeroRow, Prod.mk.injEq] at hz
    obtain ⟨rfl, rfl, rfl, rfl, rfl, rfl⟩ := hz
    have HW := hid (works9 _ (hk.later HB2.out hp))
    go_wp2_with fail
    refine HW.out.mono ?_
    rintro e w3 ⟨rfl, hb3⟩
    have HB3 := hid (HB2.out.trans (hb3.mono HB2.out.size))
    have hH3 := HH.out.later hb3 (by simp [rowAt]; omega)
    obtain ⟨⟨d0, d1, d2, d3, d4, d5⟩, _⟩ := rowAt_cells hH3
    clear hb3 c0 c1 c2 c3 c4 c5
    go_wp2_with fail
    go_ret
    exact ⟨rfl, HB3.out⟩
  · obtain ⟨e1, rfl, e3, e4, e5, e6⟩ := fine_row h0 h1 HV.out
    have hf := find10 wd _ (hk.later HB2.out hp)
    rw [e1] at hf
    have HF := hid hf
    clear hf
    go_wp2_with fail
    refine HF.out.mono ?_
    rintro e w3 ⟨rfl, hb3⟩
    have HB3 := hid (HB2.out.trans (hb3.mono HB2.out.size))
    have hH3 := hid (HH.out.later hb3 (by simp [rowAt]; omega))
    have hP3 := (hb3.cell (p := ⟨w2.heap.size, 1, none⟩) HQ.out).trans HP.out
    obtain ⟨⟨d0, d1, d2, d3, d4, d5⟩, _⟩ := rowAt_cells hH3.out
    have HA := hid (all12 w3 (hk.later HB3.out hp))
    clear hb3 c0 c1 c2 c3 c4 c5 HP HH HB2 HF
    have hcases : ok2 = false ∨ (ok2 = true ∧ k = o) ∨ (ok2 = true ∧ ¬ k = o ∧ (wd.toList == wd2.toList) = false) := by
      cases ok2
      · exact .inl rfl
      · by_cases hko : k = o
        · exact .inr (.inl ⟨rfl, hko⟩)
        · refine .inr (.inr ⟨rfl, hko, ?_⟩)
          rw [text_eq, decide_eq_false]
          exact fun e => hko (one_word h0 h1 o0 o1 HV.out HU.out e)
    clear HV HU e1
    go_upto_region 6 with fail
    go_cut [59] from 14 to 59 (fun v wx => v = .bool false ∧ wx = w3)
    case first =>
      rcases hcases with rfl | ⟨rfl, rfl⟩ | ⟨rfl, hko, hwd⟩
      all_goals
        go_wp2_with fail
        go_meet
        exact ⟨rfl, rfl⟩
    case rest =>
      obtain ⟨rfl, hwc⟩ := hcut
      subst wc
      clear hcases hP3
      go_wp2_with fail
      refine HA.out.mono ?_
      rintro e w4 ⟨v, rfl, hm, hb4⟩
      have HB4 := hid (HB3.out.trans (hb4.mono HB3.out.size))
      have HH4 := hid (hH3.out.later hb4 (by simp [rowAt]; have := World.block_lt_of_cell? w3 ⟨w1.heap.size, 0, none⟩ d0; simpa using this))
      rcases hm with ⟨_, hz⟩ | ⟨B, cap, rfl, hrow, _⟩
      · exact absurd (congrArg List.length hz) (by rw [all_len]; decide)
      rw [all_len] at hrow ⊢
      have hcell : ∀ j, j < 90 → w4.cell? ⟨B, j, none⟩ = some (.int .u8 ((opsTo 7).getD j 0)) := fun j hj => by
        rw [hrow.cell j hj]
        have : j < (opsTo 7).length := by rw [all_len]; exact hj
        simp [List.getD, this]
      have HCE := hid hcell
      have HE6 := keep_eq e6
      clear hb4 hrow hcell HA d0 d1 d2 d3 d4 d5 e6
      go_wp2_with fail
      go_loopw [12, 13] (fun nn i wr => ∃ j m n : Nat, i = .int .i64 j ∧ nn = .int .i64 n ∧ Seen n (cnt k j) ∧ j ≤ 90 ∧ wr = w4.drewN m) (fun n i wr => 90 - (intOf i).toNat)
      case atStart => exact ⟨0, 0, 0, rfl, rfl, ⟨rfl⟩, by decide, rfl⟩
      case round =>
        obtain ⟨j, m, n, rfl, rfl, HN, hj, rfl⟩ := hrel
        have hn : n ≤ 90 := HN.out ▸ cnt_le k j
        by_cases hlast : j = 90
        · subst hlast
          have hone : n = 1 := HN.out.trans ((cnt_all k).trans HE6.out)
          subst hone
          have hB5 := below_drewN HB4.out m
          have HW := hid (works9 (w4.drewN m) (hk.later hB5 hp))
          clear HN HE6 HCE
          go_wp2_with fail
          refine HW.out.mono ?_
          rintro e w5 ⟨rfl, hb5⟩
          have HB6 := hid (hB5.trans (hb5.mono hB5.size))
          have hH5 := (HH4.out.later (below_drewN (Below.refl w4.heap.size w4) m) (by simp [rowAt]; have := World.block_lt_of_cell? w4 ⟨w1.heap.size, 0, none⟩ (rowAt_cells HH4.out).1.1; simpa using this)).later hb5 (by simp [rowAt]; have := World.block_lt_of_cell? w4 ⟨w1.heap.size, 0, none⟩ (rowAt_cells HH4.out).1.1; simpa using this)
          obtain ⟨⟨d0, d1, d2, d3, d4, d5⟩, _⟩ := rowAt_cells hH5
          have e3' : (pp.size : Int) ≤ 2 := by exact_mod_cast e3
          have e4' : (ps.size : Int) ≤ 1 := by exact_mod_cast e4
          clear hb5 hH5 e3 e4 hB5 HW HH4 HB4
          cases pl
          · have e5' : pp = ⟨#[]⟩ ∧ ps = ⟨#[]⟩ := e5.resolve_left (by decide)
            obtain ⟨rfl, rfl⟩ := e5'
            clear e5
            go_wp2_with fail
            go_ret
            exact ⟨by simp, HB6.out⟩
          · clear e5
            go_wp2_with fail
            go_ret
            exact ⟨by simp, HB6.out⟩
        · have hlt90 : j < 90 := by omega
          have hs := cnt_succ k j hlt90
          rw [← HN.out] at hs
          obtain ⟨hlt90', hw1, hw2⟩ := arith_j j n hlt90 hn
          have HW1 := keep_eq hw1
          have HW2 := keep_eq hw2
          have g1 := HCE.out j hlt90
          obtain ⟨z, hz⟩ : ∃ z, (opsTo 7).getD j 0 = z := ⟨_, rfl⟩
          rw [hz] at g1 hs
          have HZ := keep_eq hz
          have HJ := hid hlt90
          have hstep : ∃ n2 : Nat, Seen n2 (cnt k (j + 1)) ∧ (((z == k) = true ∧ n2 = n + 1) ∨ ((z == k) = false ∧ n2 = n)) := by
            by_cases hzk : z = k
            · exact ⟨n + 1, ⟨by rw [hs, if_pos hzk]⟩, .inl ⟨by simp [hzk], rfl⟩⟩
            · exact ⟨n, ⟨by rw [hs, if_neg hzk]; rfl⟩, .inr ⟨by simp [hzk], rfl⟩⟩
          obtain ⟨n2, HN2, hd⟩ := hstep
          clear hz hs HN hn hlast hj HE6 HB4 HH4
          rcases Nat.eq_zero_or_pos j with hj0 | hjp
          · subst hj0
            have hgd : decide ((0 : Int) < ((0 : Nat) : Int)) = false := by decide
            clear HZ HCE
            rcases hd with ⟨hd', rfl⟩ | ⟨hd', rfl⟩
            all_goals
              go_wp2_with fail
              go_quiet (fail)
              go_wp2_with fail
              exact ⟨⟨1, m + nq, _, rfl, (by first | rfl | exact congrArg (Value.int .i64) HW2.out), HN2, by decide, rfl⟩, by simp [intOf]⟩
          · obtain ⟨q, hq, hq1, hq2, hq0, hw3, hgd⟩ := arith_q j hjp hlt90
            have g0 := HCE.out q hq1
            have hri := rises q hq2
            rw [← hq, HZ.out] at hri
            obtain ⟨y, hy⟩ : ∃ y, (opsTo 7).getD q 0 = y := ⟨_, rfl⟩
            rw [hy] at g0 hri
            have hqj : q = j - 1 := by rw [hq]; rfl
            rw [hqj] at g0
            have hyz := dec_ge hri
            have hjI : (0 : Int) < (j : Int) := Int.ofNat_lt.2 hjp
            have hjN : 0 < j := hjp
            clear hy hq hlt90 HCE hq1 hq2 HZ hgd hjp hw3 hq0 hqj hw1 hw2 q
            rcases hd with ⟨hd', rfl⟩ | ⟨hd', rfl⟩
            all_goals
              have hw2 := HW2.out
              go_wp2_with fail
              clear hw2
              go_quiet (fail)
              have hw1 := HW1.out
              go_wp2_with fail
              exact ⟨⟨j + 1, m + nq, _, (by first | rfl | exact congrArg (Value.int .i64) HW1.out), (by first | rfl | exact congrArg (Value.int .i64) HW2.out), HN2, HJ.out, rfl⟩, (by first | exact meas90 j HJ.out | (rw [HW1.out]; exact meas90 j HJ.out))⟩
end Go.Proofs.YtmbbmlchbnjoiaaDoor
