/-
  The walk over MemMade.
-/
import Derived.Test.YtedkmfklobipaaaDoorMd
namespace Go.Proofs.YtedkmfklobipaaaDoor
open Go.RowKit
set_option linter.unusedVariables false

set_option maxRecDepth 100000 in
set_option maxHeartbeats 8000000 in
theorem made_a_c1 (p m : Int) (v : Value) (n : Nat) (ln : Nat → Nat) (g : Nat → Nat → Int) (c : Int) (w : World) (h : PSeg w v n ln g) (hg : ∀ i j, 0 ≤ g i j ∧ g i j ≤ 255) (ht : Tens w.heap.size w) (hmy : mayB p m = false) (hmc : mayB n c = false) :
    Calls Tryd.prog 3 #[.int .i64 p, .int .i64 m, v, .int .i64 c] w fun e w' => e = .returned (.bool true) ∧ Below w.heap.size w w' := by
  have HP := hid h
  have HT := hid ht
  have HGG := hid hg
  obtain ⟨va, vc, hv, _⟩ := h
  subst hv
  clear ht hg
  have HMY := hid hmy
  have HMC := hid hmc
  clear hmy hmc
  go_enter Tryd.func3, Tryd.ntmps3
  go_wp2_with fail
  refine (works_yes w).mono ?_
  rintro e w1 ⟨rfl, hb⟩
  have HB1 := hid hb
  have HP1 := hid (HP.out.keep (kept_below hb))
  clear hb
  go_wp2_with fail
  refine (sizeP _ n ln g w1 HP1.out).mono ?_
  rintro e w' ⟨s, rfl, hs, hw⟩
  have hw' := hw.symm; subst hw'; clear hw
  by_cases hbig : 1048576 < s
  · have hbig' : (1048576 : Int) < s := by omega
    clear hs
    go_wp2_with fail
    go_ret
    exact ⟨rfl, HB1.out⟩
  have hbig' : ¬ (1048576 : Int) < s := by omega
  have hsz := hs (by omega)
  have HN := hid (show n ≤ 1048576 by have := szP_n n ln; omega)
  have HLN := hid (show ∀ i, i < n → ln i ≤ 1048576 from fun i hi => by have := szP_ln n ln hi; omega)
  clear hs hsz hbig
  go_wp2_with fail
  refine (new_no p m w1 HMY.out).mono ?_
  rintro e w' ⟨rfl, hw⟩
  have hw' := hw.symm; subst hw'; clear hw
  go_wp2_with fail
  refine (rnew_no p m w1 HMY.out).mono ?_
  rintro e w' ⟨rfl, hw⟩
  have hw' := hw.symm; subst hw'; clear hw
  obtain ⟨w3, hw3⟩ : ∃ w3, w3 = w1 := ⟨_, rfl⟩
  rw [← hw3] at HB1 HP1 ⊢
  have HB3 := HB1
  have HP3 := HP1
  clear hw3 HB1 HP1
  go_wp2_with fail
  refine (wideP _ n ln g w3 HP3.out HN.out HLN.out ((HT.out.later HB3.out).up HB3.out.size)).mono ?_
  rintro e w4 ⟨QF, CF, rfl, hW, hb⟩
  obtain ⟨L, hL⟩ : ∃ L, L = w3.heap.size := ⟨_, rfl⟩
  rw [← hL] at hW ⊢
  have HLL := hid (show w.heap.size ≤ L by rw [hL]; exact HB3.out.size)
  have HW4 := hid hW
  have HB4 := hid (HB3.out.trans (hb.mono HB3.out.size))
  have HP4 := hid (HP3.out.keep (kept_below hb))
  clear hW hb HB3 HP3 hL
  go_wp2_with fail
  refine (from_no _ n ln g c w4 (HW4.out.pseg HN.out HLN.out) (by rw [HMC.out]; rfl)).mono ?_
  rintro e w' ⟨rfl, hw⟩
  have hw' := hw.symm; subst hw'; clear hw
  go_wp2_with fail
  refine (rfrom_no1 _ n ln g c w4 HP4.out HMC.out).mono ?_
  rintro e w' ⟨rfl, hw⟩
  have hw' := hw.symm; subst hw'; clear hw
  obtain ⟨w6, hw6⟩ : ∃ w6, w6 = w4 := ⟨_, rfl⟩
  rw [← hw6] at HW4 HB4 HP4 ⊢
  have HW6 := HW4
  have HB6 := HB4
  have HP6 := HP4
  clear hw6 HW4 HB4 HP4
  go_wp2_with fail
  refine (eqp_same _ _ n ln g w6 (HW6.out.pseg HN.out HLN.out) HP6.out).mono ?_
  rintro e w7 ⟨rfl, hk⟩
  have HW7 := hid (HW6.out.kept hk (fun _ _ x => x))
  have HB7 := hid (below_kept HB6.out hk HB6.out.size (fun _ x => x.elim))
  clear hk HW6 HB6 HP6
  go_wp2_with fail
  refine (spareP L n ln g QF CF w.heap.size w7 HW7.out HN.out HLN.out (HT.out.later HB7.out) HB7.out.size).mono ?_
  rintro e w8 ⟨rfl, hb⟩
  have HW8 := hid (HW7.out.later hb)
  have HB8 := hid (HB7.out.trans (hb.mono HB7.out.size))
  clear hb HW7 HB7
  go_wp2_with fail
  go_ret
  exact ⟨rfl, HB8.out⟩

set_option maxRecDepth 100000 in
set_option maxHeartbeats 8000000 in
theorem made_a_c2 (p m : Int) (v : Value) (n : Nat) (ln : Nat → Nat) (g : Nat → Nat → Int) (c : Nat) (w : World) (h : PSeg w v n ln g) (hg : ∀ i j, 0 ≤ g i j ∧ g i j ≤ 255) (ht : Tens w.heap.size w) (hmy : mayB p m = false) (hmc : mayB n c = true) (hwl : whl ln n = false) :
    Calls Tryd.prog 3 #[.int .i64 p, .int .i64 m, v, .int .i64 c] w fun e w' => e = .returned (.bool true) ∧ Below w.heap.size w w' := by
  have HP := hid h
  have HT := hid ht
  have HGG := hid hg
  obtain ⟨va, vc, hv, _⟩ := h
  subst hv
  clear ht hg
  have HMY := hid hmy
  have HMC := hid hmc
  have HWL := hid hwl
  clear hwl
  clear hmy hmc
  go_enter Tryd.func3, Tryd.ntmps3
  go_wp2_with fail
  refine (works_yes w).mono ?_
  rintro e w1 ⟨rfl, hb⟩
  have HB1 := hid hb
  have HP1 := hid (HP.out.keep (kept_below hb))
  clear hb
  go_wp2_with fail
  refine (sizeP _ n ln g w1 HP1.out).mono ?_
  rintro e w' ⟨s, rfl, hs, hw⟩
  have hw' := hw.symm; subst hw'; clear hw
  by_cases hbig : 1048576 < s
  · have hbig' : (1048576 : Int) < s := by omega
    clear hs
    go_wp2_with fail
    go_ret
    exact ⟨rfl, HB1.out⟩
  have hbig' : ¬ (1048576 : Int) < s := by omega
  have hsz := hs (by omega)
  have HN := hid (show n ≤ 1048576 by have := szP_n n ln; omega)
  have HLN := hid (show ∀ i, i < n → ln i ≤ 1048576 from fun i hi => by have := szP_ln n ln hi; omega)
  clear hs hsz hbig
  go_wp2_with fail
  refine (new_no p m w1 HMY.out).mono ?_
  rintro e w' ⟨rfl, hw⟩
  have hw' := hw.symm; subst hw'; clear hw
  go_wp2_with fail
  refine (rnew_no p m w1 HMY.out).mono ?_
  rintro e w' ⟨rfl, hw⟩
  have hw' := hw.symm; subst hw'; clear hw
  obtain ⟨w3, hw3⟩ : ∃ w3, w3 = w1 := ⟨_, rfl⟩
  rw [← hw3] at HB1 HP1 ⊢
  have HB3 := HB1
  have HP3 := HP1
  clear hw3 HB1 HP1
  go_wp2_with fail
  refine (wideP _ n ln g w3 HP3.out HN.out HLN.out ((HT.out.later HB3.out).up HB3.out.size)).mono ?_
  rintro e w4 ⟨QF, CF, rfl, hW, hb⟩
  obtain ⟨L, hL⟩ : ∃ L, L = w3.heap.size := ⟨_, rfl⟩
  rw [← hL] at hW ⊢
  have HLL := hid (show w.heap.size ≤ L by rw [hL]; exact HB3.out.size)
  have HW4 := hid hW
  have HB4 := hid (HB3.out.trans (hb.mono HB3.out.size))
  have HP4 := hid (HP3.out.keep (kept_below hb))
  clear hW hb HB3 HP3 hL
  go_wp2_with fail
  refine (from_no _ n ln g c w4 (HW4.out.pseg HN.out HLN.out) (by rw [HWL.out, Bool.and_false])).mono ?_
  rintro e w' ⟨rfl, hw⟩
  have hw' := hw.symm; subst hw'; clear hw
  go_wp2_with fail
  refine (rfrom _ n ln g c w4 HP4.out HGG.out HMC.out).mono ?_
  rintro e w6 ⟨hb, hor⟩
  obtain ⟨_, rfl⟩ : whl ln n = false ∧ e = .returned (.tuple #[.pointer none, .int .i64 1]) := hor.elim id (fun h => by rw [HWL.out] at h; cases h.1)
  have HW6 := hid (HW4.out.later hb)
  have HB6 := hid (HB4.out.trans (hb.mono HB4.out.size))
  have HP6 := hid (HP4.out.keep (kept_below hb))
  clear hb hor HW4 HB4 HP4
  go_wp2_with fail
  refine (eqp_same _ _ n ln g w6 (HW6.out.pseg HN.out HLN.out) HP6.out).mono ?_
  rintro e w7 ⟨rfl, hk⟩
  have HW7 := hid (HW6.out.kept hk (fun _ _ x => x))
  have HB7 := hid (below_kept HB6.out hk HB6.out.size (fun _ x => x.elim))
  clear hk HW6 HB6 HP6
  go_wp2_with fail
  refine (spareP L n ln g QF CF w.heap.size w7 HW7.out HN.out HLN.out (HT.out.later HB7.out) HB7.out.size).mono ?_
  rintro e w8 ⟨rfl, hb⟩
  have HW8 := hid (HW7.out.later hb)
  have HB8 := hid (HB7.out.trans (hb.mono HB7.out.size))
  clear hb HW7 HB7
  go_wp2_with fail
  go_ret
  exact ⟨rfl, HB8.out⟩

set_option maxRecDepth 100000 in
set_option maxHeartbeats 8000000 in
theorem made_a_d (p m : Int) (v : Value) (n : Nat) (ln : Nat → Nat) (g : Nat → Nat → Int) (c : Nat) (w : World) (h : PSeg w v n ln g) (hg : ∀ i j, 0 ≤ g i j ∧ g i j ≤ 255) (ht : Tens w.heap.size w) (hmy : mayB p m = false) (hmc : mayB n c = true) (hwl : whl ln n = true) :
    Calls Tryd.prog 3 #[.int .i64 p, .int .i64 m, v, .int .i64 c] w fun e w' => e = .returned (.bool true) ∧ Below w.heap.size w w' := by
  have HP := hid h
  have HT := hid ht
  have HGG := hid hg
  obtain ⟨va, vc, hv, _⟩ := h
  subst hv
  clear ht hg
  have HMY := hid hmy
  have HMC := hid hmc
  have HWL := hid hwl
  clear hwl
  clear hmy hmc
  go_enter Tryd.func3, Tryd.ntmps3
  go_wp2_with fail
  refine (works_yes w).mono ?_
  rintro e w1 ⟨rfl, hb⟩
  have HB1 := hid hb
  have HP1 := hid (HP.out.keep (kept_below hb))
  clear hb
  go_wp2_with fail
  refine (sizeP _ n ln g w1 HP1.out).mono ?_
  rintro e w' ⟨s, rfl, hs, hw⟩
  have hw' := hw.symm; subst hw'; clear hw
  by_cases hbig : 1048576 < s
  · have hbig' : (1048576 : Int) < s := by omega
    clear hs
    go_wp2_with fail
    go_ret
    exact ⟨rfl, HB1.out⟩
  have hbig' : ¬ (1048576 : Int) < s := by omega
  have hsz := hs (by omega)
  have HN := hid (show n ≤ 1048576 by have := szP_n n ln; omega)
  have HLN := hid (show ∀ i, i < n → ln i ≤ 1048576 from fun i hi => by have := szP_ln n ln hi; omega)
  clear hs hsz hbig
  go_wp2_with fail
  refine (new_no p m w1 HMY.out).mono ?_
  rintro e w' ⟨rfl, hw⟩
  have hw' := hw.symm; subst hw'; clear hw
  go_wp2_with fail
  refine (rnew_no p m w1 HMY.out).mono ?_
  rintro e w' ⟨rfl, hw⟩
  have hw' := hw.symm; subst hw'; clear hw
  obtain ⟨w3, hw3⟩ : ∃ w3, w3 = w1 := ⟨_, rfl⟩
  rw [← hw3] at HB1 HP1 ⊢
  have HB3 := HB1
  have HP3 := HP1
  clear hw3 HB1 HP1
  go_wp2_with fail
  refine (wideP _ n ln g w3 HP3.out HN.out HLN.out ((HT.out.later HB3.out).up HB3.out.size)).mono ?_
  rintro e w4 ⟨QF, CF, rfl, hW, hb⟩
  obtain ⟨L, hL⟩ : ∃ L, L = w3.heap.size := ⟨_, rfl⟩
  rw [← hL] at hW ⊢
  have HLL := hid (show w.heap.size ≤ L by rw [hL]; exact HB3.out.size)
  have HW4 := hid hW
  have HB4 := hid (HB3.out.trans (hb.mono HB3.out.size))
  have HP4 := hid (HP3.out.keep (kept_below hb))
  clear hW hb HB3 HP3 hL
  go_wp2_with fail
  refine (from_yes _ n ln g c w4 (HW4.out.pseg HN.out HLN.out) HGG.out HMC.out HWL.out).mono ?_
  rintro e w5 ⟨R2, sv2, PB2, rfl, hM, hl, hb, hf⟩
  have HMB := hid hM
  have HLB := hid hl
  have HFB := hid (show ∀ k, Fp R2 sv2 PB2 k → ¬ Sq n QF k from fun k hk hx => by obtain ⟨i, hi, e⟩ := hx; have h1 := hf k hk; have h2 := (HW4.out.lo i (by omega)).2; omega)
  have HW5 := hid (HW4.out.later hb)
  have HB5 := hid (HB4.out.trans (hb.mono HB4.out.size))
  have HP5 := hid (HP4.out.keep (kept_below hb))
  clear hM hl hb hf HB4 HP4
  go_wp2_with fail
  refine (rfrom _ n ln g c w5 HP5.out HGG.out HMC.out).mono ?_
  rintro e w6 ⟨hb, hor⟩
  obtain ⟨_, X2, B2, c2, V2, rfl, hR2, hf2⟩ : whl ln n = true ∧ ∃ X B c2 V, e = .returned (.tuple #[.pointer (some ⟨X, 0, none⟩), .int .i64 0]) ∧ Rfm w6 X c B c2 V n (frF g n) (fun _ => false) ∧ ∀ k, Fq X B V k → w5.heap.size ≤ k := hor.elim (fun h => by rw [HWL.out] at h; cases h.1) id
  have HRB := hid hR2
  have HFR := hid (show ∀ k, Fq X2 B2 V2 k → ¬ Sq n QF k from fun k hk hx => by obtain ⟨i, hi, e⟩ := hx; have h1 := hf2 k hk; have h2 := (HW5.out.lo i (by omega)).2; omega)
  have HMB6 := hid (HMB.out.later hb)
  have HW6 := hid (HW5.out.later hb)
  have HB6 := hid (HB5.out.trans (hb.mono HB5.out.size))
  have HP6 := hid (HP5.out.keep (kept_below hb))
  have HRB6 := HRB
  clear hb hor hR2 hf2 HW4 HW5 HB5 HP5 HMB HRB
  go_wp2_with fail
  refine (eqp_same _ _ n ln g w6 (HW6.out.pseg HN.out HLN.out) HP6.out).mono ?_
  rintro e w7 ⟨rfl, hk⟩
  have HW7 := hid (HW6.out.kept hk (fun _ _ x => x))
  have HB7 := hid (below_kept HB6.out hk HB6.out.size (fun _ x => x.elim))
  have HMB7 := hid (HMB6.out.kept hk (fun _ _ x => x))
  have HRB7 := hid (HRB6.out.kept hk (fun _ _ x => x))
  clear hk HW6 HB6 HP6 HMB6 HRB6
  go_wp2_with fail
  refine (spareP L n ln g QF CF w.heap.size w7 HW7.out HN.out HLN.out (HT.out.later HB7.out) HB7.out.size).mono ?_
  rintro e w8 ⟨rfl, hb⟩
  have HW8 := hid (HW7.out.later hb)
  have HB8 := hid (HB7.out.trans (hb.mono HB7.out.size))
  have HMB8 := hid (HMB7.out.later hb)
  have HRB8 := hid (HRB7.out.later hb)
  clear hb HW7 HB7 HMB7 HRB7
  go_wp2_with fail
  obtain ⟨wz, hwz⟩ : ∃ wz, wz = w8 := ⟨_, rfl⟩
  rw [← hwz] at HMB8 HRB8 HB8 HW8 ⊢
  clear hwz
  have hnn : n ≤ 1048576 := HN.out
  have HWQ := hid HW8.out.wq
  have HMO := hid (show ∀ i j, i < j → j < n → QF i < QF j from fun i j h1 h2 => HW8.out.mono i j h1 (by omega))
  have HLQ := hid (show ¬ Sq n QF L from fun ⟨i, hi, e⟩ => by have := (HW8.out.lo i (by omega)).1; omega)
  have HBQ := hid (show ∀ q, Sq n QF q → w.heap.size ≤ q from fun q ⟨i, hi, e⟩ => by have h1 := (HW8.out.lo i (by omega)).1; have h2 := HLL.out; omega)
  have HCL := hid (show ∀ i, i < n → wz.cell? ⟨L, i, none⟩ = some (.slice (some ⟨QF i, 0, none⟩) (ln i) (ln i + 64)) from fun i hi => by
    have h1 := HW8.out.U (i := i) (by omega)
    have hU : wpU n ln QF CF (n + 64) i = .slice (some ⟨QF i, 0, none⟩) (ln i) (ln i + 64) := by unfold wpU; rw [if_pos (by omega), if_pos hi]
    rw [hU] at h1; exact h1)
  go_loopw [17, 18] (fun i j wr => ∃ k : Nat, k ≤ n ∧ i = .int .i64 k ∧ Hid (Kept (Sq n QF) wz wr) ∧ Hid (Wq wr n ln QF)) (fun i _ _ => n - (intOf i).toNat)
  case atStart => exact ⟨0, by omega, rfl, hid (Kept.refl _ _), HWQ⟩
  case round =>
    obtain ⟨k, hk, rfl, HK, HQ⟩ := hrel
    by_cases hlt : k < n
    · have hlt' : (k : Int) < n := by omega
      have HLT := hid hlt
      have hlk := HLN.out k hlt
      generalize wr = wa at *
      go_wp2_with fail
      go_loopw [18] (fun i wr => ∃ j : Nat, j ≤ ln k ∧ i = .int .i64 j ∧ Hid (Kept (Sq n QF) wz wr) ∧ Hid (Wq wr n ln QF)) (fun i _ => ln k - (intOf i).toNat)
      case atStart => exact ⟨0, by omega, rfl, HK, HQ⟩
      case round =>
        obtain ⟨j, hj, rfl, HK2, HQ2⟩ := hrel
        have hcl : wr.cell? ⟨L, k, none⟩ = some (.slice (some ⟨QF k, 0, none⟩) (ln k) (ln k + 64)) := HK2.out.cell (HCL.out k HLT.out) HLQ.out
        have HP77 := hid (HQ2.out.put HMO.out HLT.out j (.int .u8 77))
        by_cases hjl : j < ln k
        · obtain ⟨⟨u, hu⟩, hfz⟩ := HQ2.out.cell HLT.out hjl
          have hjl' : (j : Int) < (ln k : Nat) := by omega
          generalize QF k = q at hcl hu hfz HP77 ⊢
          generalize ln k = l at *
          go_wp2_with fail
          exact ⟨⟨j + 1, by omega, by go_num, hid (HK2.out.trans HP77.out.2), hid HP77.out.1⟩, by simp [intOf]; omega⟩
        · have hje : j = ln k := by omega
          have hjl' : ¬ (j : Int) < (ln k : Nat) := by omega
          generalize QF k = q at hcl ⊢
          generalize ln k = l at *
          go_wp2_with fail
          exact ⟨⟨k + 1, by omega, by go_num, HK2, HQ2⟩, by simp [intOf]; omega⟩
    · have hkn : k = n := by omega
      have hlt' : ¬ (k : Int) < n := by omega
      have HMW := hid (HMB8.out.kept HK.out HFB.out)
      have HRW := hid (HRB8.out.kept HK.out HFR.out)
      have HBW := hid (below_kept HB8.out HK.out HB8.out.size HBQ.out)
      have hn64 : n ≤ 64 := by have := HMC.out; simp [mayB] at this; omega
      clear HMB8 HRB8 HB8 HW8 HWQ HK HQ
      generalize wr = wb at *
      go_wp2_with fail
      refine (pages_mem R2 c sv2 PB2 _ _ wb HMW.out).mono ?_
      rintro e wc ⟨L9, QB9, rfl, hPg, hQl, hb⟩
      have HPG := hid hPg
      have HQL := hid hQl
      have HM9 := hid (HMW.out.later hb)
      have HR9 := hid (HRW.out.later hb)
      have HB9 := hid (HBW.out.trans (hb.mono HBW.out.size))
      clear hPg hQl hb HMW HRW HBW
      rw [HLB.out] at HPG HQL ⊢
      go_wp2_with fail
      refine (rpages X2 c B2 c2 V2 n _ _ wc HR9.out).mono ?_
      rintro e wd ⟨vr, rfl, hps, hb⟩
      have HPS2 := hid hps
      have HPS1 := hid ((HPG.out.pseg HQL.out hn64).keep (kept_below hb))
      obtain ⟨ra, rc, hvr, _⟩ := hps
      subst hvr
      have HM10 := hid (HM9.out.later hb)
      have HB10 := hid (HB9.out.trans (hb.mono HB9.out.size))
      clear hb HM9 HR9 HB9 HPG HQL
      go_wp2_with fail
      refine (eqp_same _ _ n _ _ wd HPS1.out HPS2.out).mono ?_
      rintro e we ⟨rfl, hk⟩
      have HM11 := hid (HM10.out.kept hk (fun _ _ x => x))
      have HB11 := hid (below_kept HB10.out hk HB10.out.size (fun _ x => x.elim))
      clear hk HM10 HB10 HPS1 HPS2
      go_wp2_with fail
      refine (dirty_none R2 c sv2 PB2 _ _ we HM11.out any_none).mono ?_
      rintro e w' ⟨rfl, hw⟩
      have hw' := hw.symm; subst hw'; clear hw
      go_wp2_with fail
      go_ret
      exact ⟨rfl, HB11.out⟩

set_option maxRecDepth 100000 in
set_option maxHeartbeats 8000000 in
theorem made_b_c1 (p m : Nat) (v : Value) (n : Nat) (ln : Nat → Nat) (g : Nat → Nat → Int) (c : Int) (w : World) (h : PSeg w v n ln g) (hg : ∀ i j, 0 ≤ g i j ∧ g i j ≤ 255) (ht : Tens w.heap.size w) (hmy : mayB p m = true) (hmc : mayB n c = false) :
    Calls Tryd.prog 3 #[.int .i64 p, .int .i64 m, v, .int .i64 c] w fun e w' => e = .returned (.bool true) ∧ Below w.heap.size w w' := by
  have HP := hid h
  have HT := hid ht
  have HGG := hid hg
  obtain ⟨va, vc, hv, _⟩ := h
  subst hv
  clear ht hg
  have HMY := hid hmy
  have HMC := hid hmc
  clear hmy hmc
  go_enter Tryd.func3, Tryd.ntmps3
  go_wp2_with fail
  refine (works_yes w).mono ?_
  rintro e w1 ⟨rfl, hb⟩
  have HB1 := hid hb
  have HP1 := hid (HP.out.keep (kept_below hb))
  clear hb
  go_wp2_with fail
  refine (sizeP _ n ln g w1 HP1.out).mono ?_
  rintro e w' ⟨s, rfl, hs, hw⟩
  have hw' := hw.symm; subst hw'; clear hw
  by_cases hbig : 1048576 < s
  · have hbig' : (1048576 : Int) < s := by omega
    clear hs
    go_wp2_with fail
    go_ret
    exact ⟨rfl, HB1.out⟩
  have hbig' : ¬ (1048576 : Int) < s := by omega
  have hsz := hs (by omega)
  have HN := hid (show n ≤ 1048576 by have := szP_n n ln; omega)
  have HLN := hid (show ∀ i, i < n → ln i ≤ 1048576 from fun i hi => by have := szP_ln n ln hi; omega)
  clear hs hsz hbig
  go_wp2_with fail
  refine (new_yes p m w1 HMY.out).mono ?_
  rintro e w2 ⟨R, sv, PB, rfl, hM, hl, hb, hf⟩
  have HM2 := hid hM
  have HL := hid hl
  have HB2 := hid (HB1.out.trans (hb.mono HB1.out.size))
  have HP2 := hid (HP1.out.keep (kept_below hb))
  clear hM hl hb hf HB1 HP1
  go_wp2_with fail
  refine (rnew_yes p m w2 HMY.out).mono ?_
  rintro e w3 ⟨X, XB, XV, rfl, hR, hb, hf⟩
  have HR3 := hid hR
  have HM3 := hid (HM2.out.later hb)
  have HB3 := hid (HB2.out.trans (hb.mono HB2.out.size))
  have HP3 := hid (HP2.out.keep (kept_below hb))
  clear hR hb hf HM2 HB2 HP2
  go_wp2_with fail
  refine (wideP _ n ln g w3 HP3.out HN.out HLN.out ((HT.out.later HB3.out).up HB3.out.size)).mono ?_
  rintro e w4 ⟨QF, CF, rfl, hW, hb⟩
  obtain ⟨L, hL⟩ : ∃ L, L = w3.heap.size := ⟨_, rfl⟩
  rw [← hL] at hW ⊢
  have HLL := hid (show w.heap.size ≤ L by rw [hL]; exact HB3.out.size)
  have HW4 := hid hW
  have HB4 := hid (HB3.out.trans (hb.mono HB3.out.size))
  have HP4 := hid (HP3.out.keep (kept_below hb))
  have HM4 := hid (HM3.out.later hb)
  have HR4 := hid (HR3.out.later hb)
  clear hW hb HB3 HP3 hL HM3 HR3
  go_wp2_with fail
  refine (from_no _ n ln g c w4 (HW4.out.pseg HN.out HLN.out) (by rw [HMC.out]; rfl)).mono ?_
  rintro e w' ⟨rfl, hw⟩
  have hw' := hw.symm; subst hw'; clear hw
  go_wp2_with fail
  refine (rfrom_no1 _ n ln g c w4 HP4.out HMC.out).mono ?_
  rintro e w' ⟨rfl, hw⟩
  have hw' := hw.symm; subst hw'; clear hw
  obtain ⟨w6, hw6⟩ : ∃ w6, w6 = w4 := ⟨_, rfl⟩
  rw [← hw6] at HW4 HB4 HP4 HM4 HR4 ⊢
  have HW6 := HW4
  have HB6 := HB4
  have HP6 := HP4
  have HM6 := HM4
  have HR6 := HR4
  clear hw6 HW4 HB4 HP4 HM4 HR4
  go_wp2_with fail
  refine (eqp_same _ _ n ln g w6 (HW6.out.pseg HN.out HLN.out) HP6.out).mono ?_
  rintro e w7 ⟨rfl, hk⟩
  have HW7 := hid (HW6.out.kept hk (fun _ _ x => x))
  have HB7 := hid (below_kept HB6.out hk HB6.out.size (fun _ x => x.elim))
  have HM7 := hid (HM6.out.kept hk (fun _ _ x => x))
  have HR7 := hid (HR6.out.kept hk (fun _ _ x => x))
  clear hk HW6 HB6 HP6 HM6 HR6
  go_wp2_with fail
  refine (spareP L n ln g QF CF w.heap.size w7 HW7.out HN.out HLN.out (HT.out.later HB7.out) HB7.out.size).mono ?_
  rintro e w8 ⟨rfl, hb⟩
  have HW8 := hid (HW7.out.later hb)
  have HB8 := hid (HB7.out.trans (hb.mono HB7.out.size))
  have HM8 := hid (HM7.out.later hb)
  have HR8 := hid (HR7.out.later hb)
  clear hb HW7 HB7 HM7 HR7
  go_wp2_with fail
  refine (size_mem R m sv PB _ _ w8 HM8.out).mono ?_
  rintro e w' ⟨rfl, hw⟩
  have hw' := hw.symm; subst hw'; clear hw
  rw [HL.out]
  go_wp2_with fail
  refine (rsize X m XB _ XV p _ _ w8 HR8.out).mono ?_
  rintro e w' ⟨rfl, hw⟩
  have hw' := hw.symm; subst hw'; clear hw
  have hpp : ((p : Int) != p) = false := by simp
  go_wp2_with fail
  refine (pages_mem R m sv PB _ _ w8 HM8.out).mono ?_
  rintro e w9 ⟨L9, QB9, rfl, hPg, hQl, hb⟩
  have HPG := hid hPg
  have HQL := hid hQl
  have HM9 := hid (HM8.out.later hb)
  have HR9 := hid (HR8.out.later hb)
  have HB9 := hid (HB8.out.trans (hb.mono HB8.out.size))
  have HW9 := hid (HW8.out.later hb)
  clear hPg hQl hb HM8 HR8 HB8 HW8
  rw [HL.out] at HPG HQL ⊢
  have hp64 : p ≤ 64 := by have := HMY.out; simp [mayB] at this; omega
  go_wp2_with fail
  refine (rpages X m XB _ XV p _ _ w9 HR9.out).mono ?_
  rintro e w10 ⟨vr, rfl, hps, hb⟩
  have HPS2 := hid hps
  have HPS1 := hid ((HPG.out.pseg HQL.out hp64).keep (kept_below hb))
  obtain ⟨ra, rc, hvr, _⟩ := hps
  subst hvr
  have HM10 := hid (HM9.out.later hb)
  have HB10 := hid (HB9.out.trans (hb.mono HB9.out.size))
  have HW10 := hid (HW9.out.later hb)
  clear hb HM9 HR9 HB9 HW9 HPG HQL
  go_wp2_with fail
  refine (eqp_same _ _ p _ _ w10 HPS1.out HPS2.out).mono ?_
  rintro e w11 ⟨rfl, hk⟩
  have HM11 := hid (HM10.out.kept hk (fun _ _ x => x))
  have HB11 := hid (below_kept HB10.out hk HB10.out.size (fun _ x => x.elim))
  have HW11 := hid (HW10.out.kept hk (fun _ _ x => x))
  clear hk HM10 HB10 HW10 HPS1 HPS2
  go_wp2_with fail
  refine (dirty_none R m sv PB _ _ w11 HM11.out any_none).mono ?_
  rintro e w' ⟨rfl, hw⟩
  have hw' := hw.symm; subst hw'; clear hw
  go_wp2_with fail
  go_ret
  exact ⟨rfl, HB11.out⟩

set_option maxRecDepth 100000 in
set_option maxHeartbeats 8000000 in
theorem made_b_c2 (p m : Nat) (v : Value) (n : Nat) (ln : Nat → Nat) (g : Nat → Nat → Int) (c : Nat) (w : World) (h : PSeg w v n ln g) (hg : ∀ i j, 0 ≤ g i j ∧ g i j ≤ 255) (ht : Tens w.heap.size w) (hmy : mayB p m = true) (hmc : mayB n c = true) (hwl : whl ln n = false) :
    Calls Tryd.prog 3 #[.int .i64 p, .int .i64 m, v, .int .i64 c] w fun e w' => e = .returned (.bool true) ∧ Below w.heap.size w w' := by
  have HP := hid h
  have HT := hid ht
  have HGG := hid hg
  obtain ⟨va, vc, hv, _⟩ := h
  subst hv
  clear ht hg
  have HMY := hid hmy
  have HMC := hid hmc
  have HWL := hid hwl
  clear hwl
  clear hmy hmc
  go_enter Tryd.func3, Tryd.ntmps3
  go_wp2_with fail
  refine (works_yes w).mono ?_
  rintro e w1 ⟨rfl, hb⟩
  have HB1 := hid hb
  have HP1 := hid (HP.out.keep (kept_below hb))
  clear hb
  go_wp2_with fail
  refine (sizeP _ n ln g w1 HP1.out).mono ?_
  rintro e w' ⟨s, rfl, hs, hw⟩
  have hw' := hw.symm; subst hw'; clear hw
  by_cases hbig : 1048576 < s
  · have hbig' : (1048576 : Int) < s := by omega
    clear hs
    go_wp2_with fail
    go_ret
    exact ⟨rfl, HB1.out⟩
  have hbig' : ¬ (1048576 : Int) < s := by omega
  have hsz := hs (by omega)
  have HN := hid (show n ≤ 1048576 by have := szP_n n ln; omega)
  have HLN := hid (show ∀ i, i < n → ln i ≤ 1048576 from fun i hi => by have := szP_ln n ln hi; omega)
  clear hs hsz hbig
  go_wp2_with fail
  refine (new_yes p m w1 HMY.out).mono ?_
  rintro e w2 ⟨R, sv, PB, rfl, hM, hl, hb, hf⟩
  have HM2 := hid hM
  have HL := hid hl
  have HB2 := hid (HB1.out.trans (hb.mono HB1.out.size))
  have HP2 := hid (HP1.out.keep (kept_below hb))
  clear hM hl hb hf HB1 HP1
  go_wp2_with fail
  refine (rnew_yes p m w2 HMY.out).mono ?_
  rintro e w3 ⟨X, XB, XV, rfl, hR, hb, hf⟩
  have HR3 := hid hR
  have HM3 := hid (HM2.out.later hb)
  have HB3 := hid (HB2.out.trans (hb.mono HB2.out.size))
  have HP3 := hid (HP2.out.keep (kept_below hb))
  clear hR hb hf HM2 HB2 HP2
  go_wp2_with fail
  refine (wideP _ n ln g w3 HP3.out HN.out HLN.out ((HT.out.later HB3.out).up HB3.out.size)).mono ?_
  rintro e w4 ⟨QF, CF, rfl, hW, hb⟩
  obtain ⟨L, hL⟩ : ∃ L, L = w3.heap.size := ⟨_, rfl⟩
  rw [← hL] at hW ⊢
  have HLL := hid (show w.heap.size ≤ L by rw [hL]; exact HB3.out.size)
  have HW4 := hid hW
  have HB4 := hid (HB3.out.trans (hb.mono HB3.out.size))
  have HP4 := hid (HP3.out.keep (kept_below hb))
  have HM4 := hid (HM3.out.later hb)
  have HR4 := hid (HR3.out.later hb)
  clear hW hb HB3 HP3 hL HM3 HR3
  go_wp2_with fail
  refine (from_no _ n ln g c w4 (HW4.out.pseg HN.out HLN.out) (by rw [HWL.out, Bool.and_false])).mono ?_
  rintro e w' ⟨rfl, hw⟩
  have hw' := hw.symm; subst hw'; clear hw
  go_wp2_with fail
  refine (rfrom _ n ln g c w4 HP4.out HGG.out HMC.out).mono ?_
  rintro e w6 ⟨hb, hor⟩
  obtain ⟨_, rfl⟩ : whl ln n = false ∧ e = .returned (.tuple #[.pointer none, .int .i64 1]) := hor.elim id (fun h => by rw [HWL.out] at h; cases h.1)
  have HW6 := hid (HW4.out.later hb)
  have HB6 := hid (HB4.out.trans (hb.mono HB4.out.size))
  have HP6 := hid (HP4.out.keep (kept_below hb))
  have HM6 := hid (HM4.out.later hb)
  have HR6 := hid (HR4.out.later hb)
  clear hb hor HW4 HB4 HP4 HM4 HR4
  go_wp2_with fail
  refine (eqp_same _ _ n ln g w6 (HW6.out.pseg HN.out HLN.out) HP6.out).mono ?_
  rintro e w7 ⟨rfl, hk⟩
  have HW7 := hid (HW6.out.kept hk (fun _ _ x => x))
  have HB7 := hid (below_kept HB6.out hk HB6.out.size (fun _ x => x.elim))
  have HM7 := hid (HM6.out.kept hk (fun _ _ x => x))
  have HR7 := hid (HR6.out.kept hk (fun _ _ x => x))
  clear hk HW6 HB6 HP6 HM6 HR6
  go_wp2_with fail
  refine (spareP L n ln g QF CF w.heap.size w7 HW7.out HN.out HLN.out (HT.out.later HB7.out) HB7.out.size).mono ?_
  rintro e w8 ⟨rfl, hb⟩
  have HW8 := hid (HW7.out.later hb)
  have HB8 := hid (HB7.out.trans (hb.mono HB7.out.size))
  have HM8 := hid (HM7.out.later hb)
  have HR8 := hid (HR7.out.later hb)
  clear hb HW7 HB7 HM7 HR7
  go_wp2_with fail
  refine (size_mem R m sv PB _ _ w8 HM8.out).mono ?_
  rintro e w' ⟨rfl, hw⟩
  have hw' := hw.symm; subst hw'; clear hw
  rw [HL.out]
  go_wp2_with fail
  refine (rsize X m XB _ XV p _ _ w8 HR8.out).mono ?_
  rintro e w' ⟨rfl, hw⟩
  have hw' := hw.symm; subst hw'; clear hw
  have hpp : ((p : Int) != p) = false := by simp
  go_wp2_with fail
  refine (pages_mem R m sv PB _ _ w8 HM8.out).mono ?_
  rintro e w9 ⟨L9, QB9, rfl, hPg, hQl, hb⟩
  have HPG := hid hPg
  have HQL := hid hQl
  have HM9 := hid (HM8.out.later hb)
  have HR9 := hid (HR8.out.later hb)
  have HB9 := hid (HB8.out.trans (hb.mono HB8.out.size))
  have HW9 := hid (HW8.out.later hb)
  clear hPg hQl hb HM8 HR8 HB8 HW8
  rw [HL.out] at HPG HQL ⊢
  have hp64 : p ≤ 64 := by have := HMY.out; simp [mayB] at this; omega
  go_wp2_with fail
  refine (rpages X m XB _ XV p _ _ w9 HR9.out).mono ?_
  rintro e w10 ⟨vr, rfl, hps, hb⟩
  have HPS2 := hid hps
  have HPS1 := hid ((HPG.out.pseg HQL.out hp64).keep (kept_below hb))
  obtain ⟨ra, rc, hvr, _⟩ := hps
  subst hvr
  have HM10 := hid (HM9.out.later hb)
  have HB10 := hid (HB9.out.trans (hb.mono HB9.out.size))
  have HW10 := hid (HW9.out.later hb)
  clear hb HM9 HR9 HB9 HW9 HPG HQL
  go_wp2_with fail
  refine (eqp_same _ _ p _ _ w10 HPS1.out HPS2.out).mono ?_
  rintro e w11 ⟨rfl, hk⟩
  have HM11 := hid (HM10.out.kept hk (fun _ _ x => x))
  have HB11 := hid (below_kept HB10.out hk HB10.out.size (fun _ x => x.elim))
  have HW11 := hid (HW10.out.kept hk (fun _ _ x => x))
  clear hk HM10 HB10 HW10 HPS1 HPS2
  go_wp2_with fail
  refine (dirty_none R m sv PB _ _ w11 HM11.out any_none).mono ?_
  rintro e w' ⟨rfl, hw⟩
  have hw' := hw.symm; subst hw'; clear hw
  go_wp2_with fail
  go_ret
  exact ⟨rfl, HB11.out⟩

set_option maxRecDepth 100000 in
set_option maxHeartbeats 8000000 in
theorem made_b_d (p m : Nat) (v : Value) (n : Nat) (ln : Nat → Nat) (g : Nat → Nat → Int) (c : Nat) (w : World) (h : PSeg w v n ln g) (hg : ∀ i j, 0 ≤ g i j ∧ g i j ≤ 255) (ht : Tens w.heap.size w) (hmy : mayB p m = true) (hmc : mayB n c = true) (hwl : whl ln n = true) :
    Calls Tryd.prog 3 #[.int .i64 p, .int .i64 m, v, .int .i64 c] w fun e w' => e = .returned (.bool true) ∧ Below w.heap.size w w' := by
  have HP := hid h
  have HT := hid ht
  have HGG := hid hg
  obtain ⟨va, vc, hv, _⟩ := h
  subst hv
  clear ht hg
  have HMY := hid hmy
  have HMC := hid hmc
  have HWL := hid hwl
  clear hwl
  clear hmy hmc
  go_enter Tryd.func3, Tryd.ntmps3
  go_wp2_with fail
  refine (works_yes w).mono ?_
  rintro e w1 ⟨rfl, hb⟩
  have HB1 := hid hb
  have HP1 := hid (HP.out.keep (kept_below hb))
  clear hb
  go_wp2_with fail
  refine (sizeP _ n ln g w1 HP1.out).mono ?_
  rintro e w' ⟨s, rfl, hs, hw⟩
  have hw' := hw.symm; subst hw'; clear hw
  by_cases hbig : 1048576 < s
  · have hbig' : (1048576 : Int) < s := by omega
    clear hs
    go_wp2_with fail
    go_ret
    exact ⟨rfl, HB1.out⟩
  have hbig' : ¬ (1048576 : Int) < s := by omega
  have hsz := hs (by omega)
  have HN := hid (show n ≤ 1048576 by have := szP_n n ln; omega)
  have HLN := hid (show ∀ i, i < n → ln i ≤ 1048576 from fun i hi => by have := szP_ln n ln hi; omega)
  clear hs hsz hbig
  go_wp2_with fail
  refine (new_yes p m w1 HMY.out).mono ?_
  rintro e w2 ⟨R, sv, PB, rfl, hM, hl, hb, hf⟩
  have HM2 := hid hM
  have HL := hid hl
  have HB2 := hid (HB1.out.trans (hb.mono HB1.out.size))
  have HP2 := hid (HP1.out.keep (kept_below hb))
  clear hM hl hb hf HB1 HP1
  go_wp2_with fail
  refine (rnew_yes p m w2 HMY.out).mono ?_
  rintro e w3 ⟨X, XB, XV, rfl, hR, hb, hf⟩
  have HR3 := hid hR
  have HM3 := hid (HM2.out.later hb)
  have HB3 := hid (HB2.out.trans (hb.mono HB2.out.size))
  have HP3 := hid (HP2.out.keep (kept_below hb))
  clear hR hb hf HM2 HB2 HP2
  go_wp2_with fail
  refine (wideP _ n ln g w3 HP3.out HN.out HLN.out ((HT.out.later HB3.out).up HB3.out.size)).mono ?_
  rintro e w4 ⟨QF, CF, rfl, hW, hb⟩
  obtain ⟨L, hL⟩ : ∃ L, L = w3.heap.size := ⟨_, rfl⟩
  rw [← hL] at hW ⊢
  have HLL := hid (show w.heap.size ≤ L by rw [hL]; exact HB3.out.size)
  have HW4 := hid hW
  have HB4 := hid (HB3.out.trans (hb.mono HB3.out.size))
  have HP4 := hid (HP3.out.keep (kept_below hb))
  have HM4 := hid (HM3.out.later hb)
  have HR4 := hid (HR3.out.later hb)
  clear hW hb HB3 HP3 hL HM3 HR3
  go_wp2_with fail
  refine (from_yes _ n ln g c w4 (HW4.out.pseg HN.out HLN.out) HGG.out HMC.out HWL.out).mono ?_
  rintro e w5 ⟨R2, sv2, PB2, rfl, hM, hl, hb, hf⟩
  have HMB := hid hM
  have HLB := hid hl
  have HFB := hid (show ∀ k, Fp R2 sv2 PB2 k → ¬ Sq n QF k from fun k hk hx => by obtain ⟨i, hi, e⟩ := hx; have h1 := hf k hk; have h2 := (HW4.out.lo i (by omega)).2; omega)
  have HW5 := hid (HW4.out.later hb)
  have HB5 := hid (HB4.out.trans (hb.mono HB4.out.size))
  have HP5 := hid (HP4.out.keep (kept_below hb))
  have HM5 := hid (HM4.out.later hb)
  have HR5 := hid (HR4.out.later hb)
  clear hM hl hb hf HB4 HP4 HM4 HR4
  go_wp2_with fail
  refine (rfrom _ n ln g c w5 HP5.out HGG.out HMC.out).mono ?_
  rintro e w6 ⟨hb, hor⟩
  obtain ⟨_, X2, B2, c2, V2, rfl, hR2, hf2⟩ : whl ln n = true ∧ ∃ X B c2 V, e = .returned (.tuple #[.pointer (some ⟨X, 0, none⟩), .int .i64 0]) ∧ Rfm w6 X c B c2 V n (frF g n) (fun _ => false) ∧ ∀ k, Fq X B V k → w5.heap.size ≤ k := hor.elim (fun h => by rw [HWL.out] at h; cases h.1) id
  have HRB := hid hR2
  have HFR := hid (show ∀ k, Fq X2 B2 V2 k → ¬ Sq n QF k from fun k hk hx => by obtain ⟨i, hi, e⟩ := hx; have h1 := hf2 k hk; have h2 := (HW5.out.lo i (by omega)).2; omega)
  have HMB6 := hid (HMB.out.later hb)
  have HW6 := hid (HW5.out.later hb)
  have HB6 := hid (HB5.out.trans (hb.mono HB5.out.size))
  have HP6 := hid (HP5.out.keep (kept_below hb))
  have HM6 := hid (HM5.out.later hb)
  have HR6 := hid (HR5.out.later hb)
  have HRB6 := HRB
  clear hb hor hR2 hf2 HW4 HW5 HB5 HP5 HMB HM5 HR5 HRB
  go_wp2_with fail
  refine (eqp_same _ _ n ln g w6 (HW6.out.pseg HN.out HLN.out) HP6.out).mono ?_
  rintro e w7 ⟨rfl, hk⟩
  have HW7 := hid (HW6.out.kept hk (fun _ _ x => x))
  have HB7 := hid (below_kept HB6.out hk HB6.out.size (fun _ x => x.elim))
  have HM7 := hid (HM6.out.kept hk (fun _ _ x => x))
  have HR7 := hid (HR6.out.kept hk (fun _ _ x => x))
  have HMB7 := hid (HMB6.out.kept hk (fun _ _ x => x))
  have HRB7 := hid (HRB6.out.kept hk (fun _ _ x => x))
  clear hk HW6 HB6 HP6 HM6 HR6 HMB6 HRB6
  go_wp2_with fail
  refine (spareP L n ln g QF CF w.heap.size w7 HW7.out HN.out HLN.out (HT.out.later HB7.out) HB7.out.size).mono ?_
  rintro e w8 ⟨rfl, hb⟩
  have HW8 := hid (HW7.out.later hb)
  have HB8 := hid (HB7.out.trans (hb.mono HB7.out.size))
  have HM8 := hid (HM7.out.later hb)
  have HR8 := hid (HR7.out.later hb)
  have HMB8 := hid (HMB7.out.later hb)
  have HRB8 := hid (HRB7.out.later hb)
  clear hb HW7 HB7 HM7 HR7 HMB7 HRB7
  go_wp2_with fail
  refine (size_mem R m sv PB _ _ w8 HM8.out).mono ?_
  rintro e w' ⟨rfl, hw⟩
  have hw' := hw.symm; subst hw'; clear hw
  rw [HL.out]
  go_wp2_with fail
  refine (rsize X m XB _ XV p _ _ w8 HR8.out).mono ?_
  rintro e w' ⟨rfl, hw⟩
  have hw' := hw.symm; subst hw'; clear hw
  have hpp : ((p : Int) != p) = false := by simp
  go_wp2_with fail
  refine (pages_mem R m sv PB _ _ w8 HM8.out).mono ?_
  rintro e w9 ⟨L9, QB9, rfl, hPg, hQl, hb⟩
  have HPG := hid hPg
  have HQL := hid hQl
  have HM9 := hid (HM8.out.later hb)
  have HR9 := hid (HR8.out.later hb)
  have HB9 := hid (HB8.out.trans (hb.mono HB8.out.size))
  have HW9 := hid (HW8.out.later hb)
  have HMB9 := hid (HMB8.out.later hb)
  have HRB9 := hid (HRB8.out.later hb)
  clear hPg hQl hb HM8 HR8 HB8 HW8 HMB8 HRB8
  rw [HL.out] at HPG HQL ⊢
  have hp64 : p ≤ 64 := by have := HMY.out; simp [mayB] at this; omega
  go_wp2_with fail
  refine (rpages X m XB _ XV p _ _ w9 HR9.out).mono ?_
  rintro e w10 ⟨vr, rfl, hps, hb⟩
  have HPS2 := hid hps
  have HPS1 := hid ((HPG.out.pseg HQL.out hp64).keep (kept_below hb))
  obtain ⟨ra, rc, hvr, _⟩ := hps
  subst hvr
  have HM10 := hid (HM9.out.later hb)
  have HB10 := hid (HB9.out.trans (hb.mono HB9.out.size))
  have HW10 := hid (HW9.out.later hb)
  have HMB10 := hid (HMB9.out.later hb)
  have HRB10 := hid (HRB9.out.later hb)
  clear hb HM9 HR9 HB9 HW9 HPG HQL HMB9 HRB9
  go_wp2_with fail
  refine (eqp_same _ _ p _ _ w10 HPS1.out HPS2.out).mono ?_
  rintro e w11 ⟨rfl, hk⟩
  have HM11 := hid (HM10.out.kept hk (fun _ _ x => x))
  have HB11 := hid (below_kept HB10.out hk HB10.out.size (fun _ x => x.elim))
  have HW11 := hid (HW10.out.kept hk (fun _ _ x => x))
  have HMB11 := hid (HMB10.out.kept hk (fun _ _ x => x))
  have HRB11 := hid (HRB10.out.kept hk (fun _ _ x => x))
  clear hk HM10 HB10 HW10 HPS1 HPS2 HMB10 HRB10
  go_wp2_with fail
  refine (dirty_none R m sv PB _ _ w11 HM11.out any_none).mono ?_
  rintro e w' ⟨rfl, hw⟩
  have hw' := hw.symm; subst hw'; clear hw
  go_wp2_with fail
  obtain ⟨wz, hwz⟩ : ∃ wz, wz = w11 := ⟨_, rfl⟩
  rw [← hwz] at HMB11 HRB11 HB11 HW11 ⊢
  clear hwz
  have hnn : n ≤ 1048576 := HN.out
  have HWQ := hid HW11.out.wq
  have HMO := hid (show ∀ i j, i < j → j < n → QF i < QF j from fun i j h1 h2 => HW11.out.mono i j h1 (by omega))
  have HLQ := hid (show ¬ Sq n QF L from fun ⟨i, hi, e⟩ => by have := (HW11.out.lo i (by omega)).1; omega)
  have HBQ := hid (show ∀ q, Sq n QF q → w.heap.size ≤ q from fun q ⟨i, hi, e⟩ => by have h1 := (HW11.out.lo i (by omega)).1; have h2 := HLL.out; omega)
  have HCL := hid (show ∀ i, i < n → wz.cell? ⟨L, i, none⟩ = some (.slice (some ⟨QF i, 0, none⟩) (ln i) (ln i + 64)) from fun i hi => by
    have h1 := HW11.out.U (i := i) (by omega)
    have hU : wpU n ln QF CF (n + 64) i = .slice (some ⟨QF i, 0, none⟩) (ln i) (ln i + 64) := by unfold wpU; rw [if_pos (by omega), if_pos hi]
    rw [hU] at h1; exact h1)
  go_loopw [17, 18] (fun i j wr => ∃ k : Nat, k ≤ n ∧ i = .int .i64 k ∧ Hid (Kept (Sq n QF) wz wr) ∧ Hid (Wq wr n ln QF)) (fun i _ _ => n - (intOf i).toNat)
  case atStart => exact ⟨0, by omega, rfl, hid (Kept.refl _ _), HWQ⟩
  case round =>
    obtain ⟨k, hk, rfl, HK, HQ⟩ := hrel
    by_cases hlt : k < n
    · have hlt' : (k : Int) < n := by omega
      have HLT := hid hlt
      have hlk := HLN.out k hlt
      generalize wr = wa at *
      go_wp2_with fail
      go_loopw [18] (fun i wr => ∃ j : Nat, j ≤ ln k ∧ i = .int .i64 j ∧ Hid (Kept (Sq n QF) wz wr) ∧ Hid (Wq wr n ln QF)) (fun i _ => ln k - (intOf i).toNat)
      case atStart => exact ⟨0, by omega, rfl, HK, HQ⟩
      case round =>
        obtain ⟨j, hj, rfl, HK2, HQ2⟩ := hrel
        have hcl : wr.cell? ⟨L, k, none⟩ = some (.slice (some ⟨QF k, 0, none⟩) (ln k) (ln k + 64)) := HK2.out.cell (HCL.out k HLT.out) HLQ.out
        have HP77 := hid (HQ2.out.put HMO.out HLT.out j (.int .u8 77))
        by_cases hjl : j < ln k
        · obtain ⟨⟨u, hu⟩, hfz⟩ := HQ2.out.cell HLT.out hjl
          have hjl' : (j : Int) < (ln k : Nat) := by omega
          generalize QF k = q at hcl hu hfz HP77 ⊢
          generalize ln k = l at *
          go_wp2_with fail
          exact ⟨⟨j + 1, by omega, by go_num, hid (HK2.out.trans HP77.out.2), hid HP77.out.1⟩, by simp [intOf]; omega⟩
        · have hje : j = ln k := by omega
          have hjl' : ¬ (j : Int) < (ln k : Nat) := by omega
          generalize QF k = q at hcl ⊢
          generalize ln k = l at *
          go_wp2_with fail
          exact ⟨⟨k + 1, by omega, by go_num, HK2, HQ2⟩, by simp [intOf]; omega⟩
    · have hkn : k = n := by omega
      have hlt' : ¬ (k : Int) < n := by omega
      have HMW := hid (HMB11.out.kept HK.out HFB.out)
      have HRW := hid (HRB11.out.kept HK.out HFR.out)
      have HBW := hid (below_kept HB11.out HK.out HB11.out.size HBQ.out)
      have hn64 : n ≤ 64 := by have := HMC.out; simp [mayB] at this; omega
      clear HMB11 HRB11 HB11 HW11 HWQ HK HQ
      generalize wr = wb at *
      go_wp2_with fail
      refine (pages_mem R2 c sv2 PB2 _ _ wb HMW.out).mono ?_
      rintro e wc ⟨L9, QB9, rfl, hPg, hQl, hb⟩
      have HPG := hid hPg
      have HQL := hid hQl
      have HM9 := hid (HMW.out.later hb)
      have HR9 := hid (HRW.out.later hb)
      have HB9 := hid (HBW.out.trans (hb.mono HBW.out.size))
      clear hPg hQl hb HMW HRW HBW
      rw [HLB.out] at HPG HQL ⊢
      go_wp2_with fail
      refine (rpages X2 c B2 c2 V2 n _ _ wc HR9.out).mono ?_
      rintro e wd ⟨vr, rfl, hps, hb⟩
      have HPS2 := hid hps
      have HPS1 := hid ((HPG.out.pseg HQL.out hn64).keep (kept_below hb))
      obtain ⟨ra, rc, hvr, _⟩ := hps
      subst hvr
      have HM10 := hid (HM9.out.later hb)
      have HB10 := hid (HB9.out.trans (hb.mono HB9.out.size))
      clear hb HM9 HR9 HB9 HPG HQL
      go_wp2_with fail
      refine (eqp_same _ _ n _ _ wd HPS1.out HPS2.out).mono ?_
      rintro e we ⟨rfl, hk⟩
      have HM11 := hid (HM10.out.kept hk (fun _ _ x => x))
      have HB11 := hid (below_kept HB10.out hk HB10.out.size (fun _ x => x.elim))
      clear hk HM10 HB10 HPS1 HPS2
      go_wp2_with fail
      refine (dirty_none R2 c sv2 PB2 _ _ we HM11.out any_none).mono ?_
      rintro e w' ⟨rfl, hw⟩
      have hw' := hw.symm; subst hw'; clear hw
      go_wp2_with fail
      go_ret
      exact ⟨rfl, HB11.out⟩

theorem made_all (p m : Int) (v : Value) (n : Nat) (ln : Nat → Nat) (g : Nat → Nat → Int) (c : Int) (w : World) (h : PSeg w v n ln g) (hg : ∀ i j, 0 ≤ g i j ∧ g i j ≤ 255) (ht : Tens w.heap.size w) :
    Calls Tryd.prog 3 #[.int .i64 p, .int .i64 m, v, .int .i64 c] w fun e w' => e = .returned (.bool true) ∧ Below w.heap.size w w' := by
  have nat : ∀ {x y : Int}, mayB x y = true → 0 ≤ x ∧ 0 ≤ y := fun h => by simp [mayB] at h; omega
  cases hmy : mayB p m
  · cases hmc : mayB n c
    · exact made_a_c1 p m v n ln g c w h hg ht hmy hmc
    · obtain ⟨c, rfl⟩ := Int.eq_ofNat_of_zero_le (nat hmc).2
      cases hwl : whl ln n
      · exact made_a_c2 p m v n ln g c w h hg ht hmy hmc hwl
      · exact made_a_d p m v n ln g c w h hg ht hmy hmc hwl
  · obtain ⟨p, rfl⟩ := Int.eq_ofNat_of_zero_le (nat hmy).1
    obtain ⟨m, rfl⟩ := Int.eq_ofNat_of_zero_le (nat hmy).2
    cases hmc : mayB n c
    · exact made_b_c1 p m v n ln g c w h hg ht hmy hmc
    · obtain ⟨c, rfl⟩ := Int.eq_ofNat_of_zero_le (nat hmc).2
      cases hwl : whl ln n
      · exact made_b_c2 p m v n ln g c w h hg ht hmy hmc hwl
      · exact made_b_d p m v n ln g c w h hg ht hmy hmc hwl
end Go.Proofs.YtedkmfklobipaaaDoor
