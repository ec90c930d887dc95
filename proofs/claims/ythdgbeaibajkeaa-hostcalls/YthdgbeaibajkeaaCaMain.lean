/-
  The walk over HostCalls, of what it looks at.
-/
import Derived.Test.YthdgbeaibajkeaaCaLaw
namespace Go.Proofs.Ythdgbeaibajkeaa
open Go.RowKit
set_option linter.unusedVariables false

theorem SameR.drop {xs ys : List Rp} (h : SameR xs ys) (T : Nat) : SameR (xs.drop T) (ys.drop T) := by
  refine ⟨by simp [h.1], fun j hj => ?_⟩
  rw [List.length_drop] at hj
  have := h.2 (T + j) (by omega)
  simpa [List.getD_eq_getElem?_getD, List.getElem?_drop] using this
theorem SameR.trans {xs ys zs : List Rp} (h : SameR xs ys) (k : SameR ys zs) : SameR xs zs :=
  ⟨h.1.trans k.1, fun j hj => ⟨(h.2 j hj).1.trans (k.2 j (by rw [← h.1]; exact hj)).1, (h.2 j hj).2.trans (k.2 j (by rw [← h.1]; exact hj)).2⟩⟩
theorem CR.sameR {base : Nat} {xs : List Rp} {k : Nat} {v : Value} {ys : List Rp} {w : World} (h : CR base xs k v ys w) (hk : xs.length = k) : SameR ys xs :=
  ⟨by rw [h.len, hk], fun j hj => h.same j (by rw [← h.len]; exact hj)⟩

/-- How h stands between two calls. -/
def LoopI (w : World) (H : Nat) (xs : List Rp) (T : Nat) (wr : World) : Prop :=
  Below w.heap.size w wr ∧ w.heap.size ≤ H ∧ T ≤ 9223372036854775807 ∧ ∃ ys, HS wr H (fun k => k ≠ H) T (xs.length - T) ys ∧ SameR ys (xs.drop T)
theorem ansT_le {xs : List Rp} {T : Nat} (h : T ≤ 9223372036854775807) (hx : xs.length ≤ 2000) : ansT xs T ≤ 9223372036854775807 := by unfold ansT; split <;> omega

set_option maxRecDepth 100000 in
set_option maxHeartbeats 16000000 in
theorem calls3_pos (a : Option Addr) (n c T : Nat) (ca : Option Addr) (cn cc z : Nat) (xs : List Rp) (ss : List ByteArray) (w : World) (hr : RpS (fun k => k < w.heap.size) w a n c xs) (hcs : RawC w ca cn ss) (hcn : cn ≤ 2000) (hz : z ≤ 2147483647) (ht : T ≤ 9223372036854775807)
    (hs : Calls Try.prog 6 #[.slice a n c] w fun e w' => e = .returned (.int .i64 z) ∧ w' = w) :
    Calls Try.prog 3 #[.slice a n c, .int .i64 T, .slice ca cn cc] w fun e w' => e = .returned (.bool true) ∧ Below w.heap.size w w' := by
  have HSZ := hid hs
  have HLO := hid (long5 z w)
  rw [decide_eq_false (show ¬ (2147483647 : Int) < (z : Int) by omega)] at HLO
  have hn : n ≤ 2000 := hr.2.2.1
  have hxl : xs.length = n := hr.1
  have d1 : decide ((2000 : Int) < n) = false := by simp; omega
  have d2 : decide ((2000 : Int) < cn) = false := by simp; omega
  have HR := hid hr
  have HCS := hid hcs
  have HXL := hid hxl
  clear hs hr hcs hxl
  go_enter Try.func3, Try.ntmps3
  go_wp2_with fail
  refine HSZ.out.mono ?_
  rintro e w1 ⟨rfl, hw⟩
  have hw' := hw.symm; subst hw'; clear hw
  go_wp2_with fail
  refine HLO.out.mono ?_
  rintro e w1 ⟨rfl, hw⟩
  have hw' := hw.symm; subst hw'; clear hw
  go_wp2_with fail
  clear HSZ HLO d1 d2
  refine (copyRs _ a n c xs w HR.out).mono ?_
  rintro e w1 ⟨ga, gc, ys0, rfl, hcr, hb1⟩
  have HCR := hid hcr
  have HB1 := hid hb1
  have HN := hid (new9 _ ga n gc (T : Int) T ys0 w1 (hcr.rps hn) (by omega) (by omega) (by omega))
  clear hcr hb1
  go_wp2_with fail
  refine HN.out.mono ?_
  rintro e w2 ⟨rfl, hb2, ys, hsm, hhs⟩
  have hs0 := HCR.out.sameR HXL.out
  have HB2 := hid hb2
  have B2 : Below w.heap.size w w2 := HB1.out.trans (hb2.mono HB1.out.size)
  have HHS := hid (show HS w2 w1.heap.size (fun k => w1.heap.size ≤ k ∧ k ≠ w1.heap.size) T (xs.length - T) ys by
    have e : (ys0.drop T).length = xs.length - T := by rw [List.length_drop, hs0.1]
    rw [← e]; exact hhs)
  have HSM := hid (hsm.trans (hs0.drop T))
  have HEQ := hid (eqrs _ _ ga a n gc c ys0 xs w2 ((HCR.out.rps hn).later hb2) (HR.out.later B2) hs0)
  have HBB2 := hid B2
  have HGW := hid (HCR.out.gw.later hb2)
  clear hb2 hsm hhs hs0 B2 HN
  go_wp2_with fail
  refine HEQ.out.mono ?_
  rintro e w3 ⟨rfl, hb3⟩
  have HB3 := hid (HBB2.out.trans (hb3.mono HBB2.out.size))
  have HGW3 := hid (HGW.out.later hb3)
  have HHS3 := hid (HHS.out.later hb3)
  have hsz1 : w.heap.size ≤ w1.heap.size := HB1.out.size
  clear hb3 HEQ HGW HHS HBB2 HCR
  obtain ⟨B1, hB1⟩ : ∃ B1, B1 = w1.heap.size := ⟨_, rfl⟩
  rw [← hB1] at HGW3 HHS3 hsz1 ⊢
  have HBQ := hid hB1
  clear hB1
  go_wp2_with fail
  go_loopw [9] (fun i wr => ∃ k : Nat, k ≤ n ∧ i = .int .i64 k ∧ GW w.heap.size B1 ga n ys0 wr ∧ Kept (fun k => w.heap.size ≤ k ∧ k < B1) w3 wr) (fun i _ => n - (intOf i).toNat)
  case atStart => exact ⟨0, by omega, rfl, HGW3.out, Kept.refl _ _⟩
  case round =>
    obtain ⟨k, hk, rfl, hgw, hkp⟩ := hrel
    have HKP := hid hkp
    have HG := hid hgw
    by_cases hkn : k < n
    · have hkn' : (k : Int) < (n : Int) := by omega
      obtain ⟨g, hga, hg1, hg2, hgi⟩ := hgw.resolve_left (by omega)
      subst hga
      have HGI := hid (hgi k hkn)
      clear hgw hkp hgi
      obtain ⟨y, hy⟩ : ∃ y, y = ys0.getD k rp0 := ⟨_, rfl⟩
      rw [← hy] at HGI
      have HY := hid hy
      clear hy
      obtain ⟨ya, yn, yc, yl, yt⟩ := y
      have hyn : yn ≤ 2147483647 := HGI.out.2.2.2.1
      go_wp2_with fail
      generalize wr = wa at *
      go_loopw [10] (fun i wr => ∃ j : Nat, j ≤ yn ∧ i = .int .i64 j ∧ GW w.heap.size B1 (some ⟨g, 0, none⟩) n ys0 wr ∧ Kept (fun k => w.heap.size ≤ k ∧ k < B1) w3 wr) (fun i _ => yn - (intOf i).toNat)
      case atStart => exact ⟨0, by omega, rfl, HG.out, HKP.out⟩
      case round =>
        obtain ⟨j, hj, rfl, hgw, hkp⟩ := hrel
        obtain ⟨g', hga, _, _, hgi⟩ := hgw.resolve_left (by omega)
        simp at hga
        subst hga
        obtain ⟨q1, ⟨u, q2⟩, q3, _, q4⟩ := hgi k hkn
        rw [← HY.out] at q1 q4
        simp only at q1 q4
        have HKP2 := hid hkp
        have HG2 := hid hgw
        by_cases hjn : j < yn
        · obtain ⟨yb, hya, r1, r2, r3, r4⟩ := q4.resolve_left (by omega)
          subst hya
          obtain ⟨⟨zz, v1⟩, v2⟩ := r4 j hjn
          have hjn' : (j : Int) < (yn : Int) := by omega
          have HV := hid v1
          clear r4 hgw hkp hgi q2 q3
          go_wp2_with fail
          refine ⟨⟨j + 1, by omega, by go_num, HG2.out.set (.inl ⟨_, _, HV.out, rfl⟩), HKP2.out.trans ((kept_set _ _ _ _).mono (fun b e => by omega))⟩, by simp [intOf]; omega⟩
        · have hjn' : ¬ (j : Int) < (yn : Int) := by omega
          have HV := hid q2
          clear q4 hgw hkp hgi
          go_wp2_with fail
          refine ⟨⟨k + 1, by omega, by go_num, HG2.out.set (.inr ⟨_, _, HV.out, rfl⟩), HKP2.out.trans ((kept_set _ _ _ _).mono (fun b e => by omega))⟩, by simp [intOf]; omega⟩
    · have hkn' : ¬ (k : Int) < (n : Int) := by omega
      have hhs4 := HHS3.out.kept hkp (fun h => by omega) (fun b hb h => by omega)
      have B4 : Below w.heap.size w wr := below_kept HB3.out hkp HB3.out.size (fun b h => h.1)
      have HL0 := hid (show LoopI w B1 xs T wr from ⟨B4, hsz1, by omega, ys, hhs4.mono (fun b hb _ => hb.2), HSM.out⟩)
      clear hgw hkp hhs4 B4 HKP HG HGW3 HHS3 HB3 HSM
      go_wp2_with fail

      generalize wr = wb at *
      go_loopw [1, 11] (fun tk i wr => ∃ (k T' : Nat), k ≤ cn ∧ tk = .int .i64 T' ∧ i = .int .i64 k ∧ LoopI w B1 xs T' wr) (fun _ i _ => cn - (intOf i).toNat)
      case atStart => exact ⟨0, T, by omega, rfl, rfl, HL0.out⟩
      case round =>
        obtain ⟨k, T', hk, rfl, rfl, hB, hBw, hT', ys', hhs, hsm⟩ := hrel
        have HB := hid hB
        have HSM := hid hsm
        by_cases hkc : k < cn
        · obtain ⟨cb, co, hca, hcc⟩ := HCS.out.2.2.2.resolve_left (by omega)
          subst hca
          have hkc' : (k : Int) < (cn : Int) := by omega
          obtain ⟨s, hs⟩ : ∃ s, s = ss.getD k ⟨#[]⟩ := ⟨_, rfl⟩
          have hsz : s.size ≤ 140737488355328 := HCS.out.2.2.1 s (by rw [hs, List.getD_eq_getElem?_getD, List.getElem?_eq_getElem (by rw [HCS.out.1]; exact hkc)]; exact List.getElem_mem _)
          have hstr := hcc k hkc
          rw [← hs] at hstr
          have HSTR := hid hstr
          clear hs hcc hstr
          have HTK := hid (taken11 B1 T' wr hhs.1)
          have hmm : xs.length - T' = lft n T' := by rw [HXL.out]; rfl
          have HLF := hid (left13 a n c T' wr (by omega) (by omega))
          obtain ⟨_, _, _, la0, lc0, hl3, _⟩ := id hhs
          have HL2 := hid (left12 B1 la0 (xs.length - T') lc0 wr hl3)
          rw [hmm] at HL2
          have HHH := hid (hhs.mono (Q' := fun b => b ≠ B1 ∧ b < wr.heap.size) (fun b hb hl => ⟨hb, hl⟩))
          have HCP := hid (copyRs _ a n c xs wr (HR.out.later hB))
          have hBl : B1 < wr.heap.size := block_lt_of_cell hhs.1
          clear hhs hsm hl3 hmm hB
          go_wp2_with fail
          refine HTK.out.mono ?_
          rintro e w5 ⟨rfl, hw⟩
          have hw' := hw.symm; subst hw'; clear hw HTK
          have hne : ((T' : Int) != T') = false := by simp
          have hne2 : (((lft n T' : Nat) : Int) != (lft n T' : Nat)) = false := by simp
          go_wp2_with fail
          refine HL2.out.mono ?_
          rintro e w5 ⟨rfl, hw⟩
          have hw' := hw.symm; subst hw'; clear hw HL2
          go_wp2_with fail
          refine HLF.out.mono ?_
          rintro e w5 ⟨rfl, hw⟩
          have hw' := hw.symm; subst hw'; clear hw HLF
          go_wp2_with fail
          refine HCP.out.mono ?_
          rintro e w6 ⟨g6, c6, ys6, rfl, hcr6, hb6⟩
          have HN6 := hid (new9 _ g6 n c6 (T' : Int) T' ys6 w6 (hcr6.rps hn) (by omega) (by omega) (by omega))
          have hs6 := hid (hcr6.sameR HXL.out)
          have HB6 := hid hb6
          clear hcr6 hb6 HCP hne hne2
          go_wp2_with fail
          refine HN6.out.mono ?_
          rintro e w7 ⟨rfl, hb7, ys7, hsm7, hhs7⟩
          have hq7 : HS w7 w6.heap.size (fun k => w6.heap.size ≤ k ∧ k ≠ w6.heap.size) T' (xs.length - T') ys7 := by
            have e : (ys6.drop T').length = xs.length - T' := by rw [List.length_drop, hs6.out.1]
            rw [← e]; exact hhs7
          have hqs7 := hsm7.trans (hs6.out.drop T')
          have B7 : Below wr.heap.size wr w7 := HB6.out.trans (hb7.mono HB6.out.size)
          have hh7 := HHH.out.later B7
          have HC7 := hid (callU B1 _ T' xs ys' s w7 hh7 (fun b hb => hb.1) HSM.out (by rw [HXL.out]; exact hn) hT' hsz)
          have HQ7 := hid hq7
          have HQS7 := hid hqs7
          have HB7 := hid B7
          have s7 := later_cell B7 (later_cell HB.out HSTR.out)
          have hq67 : wr.heap.size ≤ w6.heap.size := HB6.out.size
          clear hb7 hsm7 hhs7 hq7 hqs7 B7 hh7 hs6 HB6 HN6 HHH
          obtain ⟨Hq, hHq⟩ : ∃ Hq, Hq = w6.heap.size := ⟨_, rfl⟩
          rw [← hHq] at HQ7 hq67 ⊢
          clear hHq
          go_wp2_with fail
          refine HC7.out.mono ?_
          rintro e w8 ⟨la, lc, ys8, rfl, hsg8, hk8, hhs8, hsm8⟩
          have hq8 := HQ7.out.kept hk8 (fun e => by omega) (fun b hb e => by omega)
          have HC8 := hid (callU Hq _ T' xs ys7 s w8 hq8 (fun b hb => hb.2) HQS7.out (by rw [HXL.out]; exact hn) hT' hsz)
          have HSG8 := hid hsg8
          have HHS8 := hid hhs8
          have HSM8 := hid hsm8
          have hcb : cb ≠ B1 ∧ cb < w.heap.size := by
            have : cb < w.heap.size := block_lt_of_cell HSTR.out
            exact ⟨by omega, this⟩
          have s8 := hk8.cell s7 hcb.1
          have HB8 := hid (below_kept (HB.out.trans (HB7.out.mono HB.out.size)) hk8 (Nat.le_trans HB.out.size HB7.out.size) (fun b e => by omega))
          clear hsg8 hk8 hhs8 hsm8 hq8 HC7 HQ7 s7 HB7
          have hln : (ansL xs T' s).length ≤ 2147483647 := HSG8.out.2.2.1
          obtain ⟨l, hl⟩ : ∃ l, l = ansL xs T' s := ⟨_, rfl⟩
          obtain ⟨ok, hok⟩ : ∃ ok, ok = ansB xs T' s := ⟨_, rfl⟩
          obtain ⟨nx, hnx⟩ : ∃ nx, nx = ansT xs T' := ⟨_, rfl⟩
          rw [← hl] at HSG8 HC8 hln ⊢
          rw [← hok] at HC8 ⊢
          rw [← hnx] at HHS8 HSM8 HC8
          have HLL := hid hl
          have HOK := hid hok
          have HNX := hid hnx
          clear hl hok hnx
          go_wp2_with fail
          refine HC8.out.mono ?_
          rintro e w9 ⟨ka, kc, ys9, rfl, hsg9, hk9, hhs9, hsm9⟩
          have HB9 := hid (below_kept HB8.out hk9 HB8.out.size (fun b e => by have := HB.out.size; omega))
          have s9 := hk9.cell s8 (fun e => by have := HB.out.size; omega)
          have hsg8 := HSG8.out.kept hk9 (fun b hb e => by omega)
          have hh9 := HHS8.out.kept hk9 (fun e => by omega) (fun b hb e => by omega)
          have HRF := hid (refU _ a n c T' xs s w9 (HR.out.later HB9.out) hsz)
          rw [← HLL.out, ← HOK.out, ← HNX.out] at HRF
          have HA := hid hsg8
          have HK := hid hsg9
          have HH9 := hid hh9
          have HQ9 := hid hhs9
          clear hsg8 hsg9 hh9 hk9 hhs9 hsm9 HC8 HSG8 HHS8 s8 HB8
          go_wp2_with fail
          refine HRF.out.mono ?_
          rintro e w10 ⟨wa, wc, rfl, hsgW, hb10⟩
          have HB10 := hid (HB9.out.trans (hb10.mono HB9.out.size))
          have HHX := hid (HH9.out.later hb10)
          have HQX := hid (HQ9.out.later hb10)
          have hA10 := HA.out.later hb10
          have hK10 := HK.out.later hb10
          have HE1 := hid (eqw _ _ la wa _ lc wc l w10 hA10 hsgW)
          have HKX := hid hK10
          have HWX := hid hsgW
          clear hb10 hA10 hK10 hsgW HRF HA HK HH9 HQ9 s9 HB9
          have hbb : (ok != ok) = false := by simp
          go_wp2_with fail
          refine HE1.out.mono ?_
          rintro e w11 ⟨rfl, hb11⟩
          have HE2 := hid (eqw _ _ ka wa _ kc wc l w11 (HKX.out.later hb11) (HWX.out.later hb11))
          have HB11 := hid hb11
          clear hb11 HE1 HKX HWX
          go_wp2_with fail
          refine HE2.out.mono ?_
          rintro e w12 ⟨rfl, hb12⟩
          have b12 : Below w10.heap.size w10 w12 := HB11.out.trans (hb12.mono HB11.out.size)
          have HTQ := hid (taken11 Hq nx w12 (HQX.out.later b12).1)
          have hnn : ((nx : Int) != nx) = false := by simp
          have HEND := hid (show LoopI w B1 xs nx w12 from ⟨HB10.out.trans (b12.mono HB10.out.size), hBw, by rw [HNX.out]; exact ansT_le hT' (by rw [HXL.out]; exact hn), ys8, (HHX.out.later b12).mono (fun b hb _ => hb.1), HSM8.out⟩)
          clear b12 hb12 HE2 HB11 HQX HHX HB10
          go_wp2_with fail
          refine HTQ.out.mono ?_
          rintro e w13 ⟨rfl, hw⟩
          have hw' := hw.symm; subst hw'; clear hw
          go_wp2_with fail
          exact ⟨⟨k + 1, nx, by omega, rfl, by go_num, HEND.out⟩, by simp [intOf]; omega⟩
        · have hkc' : ¬ (k : Int) < (cn : Int) := by omega
          have HTK := hid (taken11 B1 T' wr hhs.1)
          have HW := hid (works7 wr)
          clear hhs hsm hB
          go_wp2_with fail
          refine HTK.out.mono ?_
          rintro e w5 ⟨rfl, hw⟩
          have hw' := hw.symm; subst hw'; clear hw
          have hne : ((T' : Int) == T') = true := by simp
          go_wp2_with fail
          refine HW.out.mono ?_
          rintro e w6 ⟨rfl, hb6⟩
          have HB6 := hid (HB.out.trans (hb6.mono HB.out.size))
          clear hb6
          go_wp2_with fail
          go_ret
          exact ⟨rfl, HB6.out⟩


set_option maxRecDepth 100000 in
set_option maxHeartbeats 16000000 in
theorem calls3_neg (a : Option Addr) (n c : Nat) (t : Int) (ca : Option Addr) (cn cc z : Nat) (xs : List Rp) (ss : List ByteArray) (w : World) (hr : RpS (fun k => k < w.heap.size) w a n c xs) (hcs : RawC w ca cn ss) (hcn : cn ≤ 2000) (hz : z ≤ 2147483647) (ht : t < 0) (ht2 : -9223372036854775808 ≤ t)
    (hs : Calls Try.prog 6 #[.slice a n c] w fun e w' => e = .returned (.int .i64 z) ∧ w' = w) :
    Calls Try.prog 3 #[.slice a n c, .int .i64 t, .slice ca cn cc] w fun e w' => e = .returned (.bool true) ∧ Below w.heap.size w w' := by
  have HSZ := hid hs
  have HLO := hid (long5 z w)
  rw [decide_eq_false (show ¬ (2147483647 : Int) < (z : Int) by omega)] at HLO
  have hn : n ≤ 2000 := hr.2.2.1
  have hxl : xs.length = n := hr.1
  have d1 : decide ((2000 : Int) < n) = false := by simp; omega
  have d2 : decide ((2000 : Int) < cn) = false := by simp; omega
  have HR := hid hr
  have HCS := hid hcs
  have HXL := hid hxl
  clear hs hr hcs hxl
  go_enter Try.func3, Try.ntmps3
  go_wp2_with fail
  refine HSZ.out.mono ?_
  rintro e w1 ⟨rfl, hw⟩
  have hw' := hw.symm; subst hw'; clear hw
  go_wp2_with fail
  refine HLO.out.mono ?_
  rintro e w1 ⟨rfl, hw⟩
  have hw' := hw.symm; subst hw'; clear hw
  go_wp2_with fail
  clear HSZ HLO d1 d2
  refine (copyRs _ a n c xs w HR.out).mono ?_
  rintro e w1 ⟨ga, gc, ys0, rfl, hcr, hb1⟩
  have HCR := hid hcr
  have HB1 := hid hb1
  have HN := hid (new9 _ ga n gc t 0 ys0 w1 (hcr.rps hn) (by omega) (by omega) (by omega))
  clear hcr hb1
  go_wp2_with fail
  refine HN.out.mono ?_
  rintro e w2 ⟨rfl, hb2, ys, hsm, hhs⟩
  have hs0 := HCR.out.sameR HXL.out
  have HB2 := hid hb2
  have B2 : Below w.heap.size w w2 := HB1.out.trans (hb2.mono HB1.out.size)
  have HHS := hid (show HS w2 w1.heap.size (fun k => w1.heap.size ≤ k ∧ k ≠ w1.heap.size) 0 (xs.length - 0) ys by
    have e : (ys0.drop 0).length = xs.length - 0 := by rw [List.length_drop, hs0.1]
    rw [← e]; exact hhs)
  have HSM := hid (hsm.trans (hs0.drop 0))
  have HEQ := hid (eqrs _ _ ga a n gc c ys0 xs w2 ((HCR.out.rps hn).later hb2) (HR.out.later B2) hs0)
  have HBB2 := hid B2
  have HGW := hid (HCR.out.gw.later hb2)
  clear hb2 hsm hhs hs0 B2 HN
  go_wp2_with fail
  refine HEQ.out.mono ?_
  rintro e w3 ⟨rfl, hb3⟩
  have HB3 := hid (HBB2.out.trans (hb3.mono HBB2.out.size))
  have HGW3 := hid (HGW.out.later hb3)
  have HHS3 := hid (HHS.out.later hb3)
  have hsz1 : w.heap.size ≤ w1.heap.size := HB1.out.size
  clear hb3 HEQ HGW HHS HBB2 HCR
  obtain ⟨B1, hB1⟩ : ∃ B1, B1 = w1.heap.size := ⟨_, rfl⟩
  rw [← hB1] at HGW3 HHS3 hsz1 ⊢
  have HBQ := hid hB1
  clear hB1
  go_wp2_with fail
  go_loopw [9] (fun i wr => ∃ k : Nat, k ≤ n ∧ i = .int .i64 k ∧ GW w.heap.size B1 ga n ys0 wr ∧ Kept (fun k => w.heap.size ≤ k ∧ k < B1) w3 wr) (fun i _ => n - (intOf i).toNat)
  case atStart => exact ⟨0, by omega, rfl, HGW3.out, Kept.refl _ _⟩
  case round =>
    obtain ⟨k, hk, rfl, hgw, hkp⟩ := hrel
    have HKP := hid hkp
    have HG := hid hgw
    by_cases hkn : k < n
    · have hkn' : (k : Int) < (n : Int) := by omega
      obtain ⟨g, hga, hg1, hg2, hgi⟩ := hgw.resolve_left (by omega)
      subst hga
      have HGI := hid (hgi k hkn)
      clear hgw hkp hgi
      obtain ⟨y, hy⟩ : ∃ y, y = ys0.getD k rp0 := ⟨_, rfl⟩
      rw [← hy] at HGI
      have HY := hid hy
      clear hy
      obtain ⟨ya, yn, yc, yl, yt⟩ := y
      have hyn : yn ≤ 2147483647 := HGI.out.2.2.2.1
      go_wp2_with fail
      generalize wr = wa at *
      go_loopw [10] (fun i wr => ∃ j : Nat, j ≤ yn ∧ i = .int .i64 j ∧ GW w.heap.size B1 (some ⟨g, 0, none⟩) n ys0 wr ∧ Kept (fun k => w.heap.size ≤ k ∧ k < B1) w3 wr) (fun i _ => yn - (intOf i).toNat)
      case atStart => exact ⟨0, by omega, rfl, HG.out, HKP.out⟩
      case round =>
        obtain ⟨j, hj, rfl, hgw, hkp⟩ := hrel
        obtain ⟨g', hga, _, _, hgi⟩ := hgw.resolve_left (by omega)
        simp at hga
        subst hga
        obtain ⟨q1, ⟨u, q2⟩, q3, _, q4⟩ := hgi k hkn
        rw [← HY.out] at q1 q4
        simp only at q1 q4
        have HKP2 := hid hkp
        have HG2 := hid hgw
        by_cases hjn : j < yn
        · obtain ⟨yb, hya, r1, r2, r3, r4⟩ := q4.resolve_left (by omega)
          subst hya
          obtain ⟨⟨zz, v1⟩, v2⟩ := r4 j hjn
          have hjn' : (j : Int) < (yn : Int) := by omega
          have HV := hid v1
          clear r4 hgw hkp hgi q2 q3
          go_wp2_with fail
          refine ⟨⟨j + 1, by omega, by go_num, HG2.out.set (.inl ⟨_, _, HV.out, rfl⟩), HKP2.out.trans ((kept_set _ _ _ _).mono (fun b e => by omega))⟩, by simp [intOf]; omega⟩
        · have hjn' : ¬ (j : Int) < (yn : Int) := by omega
          have HV := hid q2
          clear q4 hgw hkp hgi
          go_wp2_with fail
          refine ⟨⟨k + 1, by omega, by go_num, HG2.out.set (.inr ⟨_, _, HV.out, rfl⟩), HKP2.out.trans ((kept_set _ _ _ _).mono (fun b e => by omega))⟩, by simp [intOf]; omega⟩
    · have hkn' : ¬ (k : Int) < (n : Int) := by omega
      have hhs4 := HHS3.out.kept hkp (fun h => by omega) (fun b hb h => by omega)
      have B4 : Below w.heap.size w wr := below_kept HB3.out hkp HB3.out.size (fun b h => h.1)
      have HL0 := hid (show LoopI w B1 xs 0 wr from ⟨B4, hsz1, by omega, ys, hhs4.mono (fun b hb _ => hb.2), HSM.out⟩)
      clear hgw hkp hhs4 B4 HKP HG HGW3 HHS3 HB3 HSM
      go_wp2_with fail

      generalize wr = wb at *
      go_loopw [1, 11] (fun tk i wr => ∃ (k T' : Nat), k ≤ cn ∧ tk = .int .i64 T' ∧ i = .int .i64 k ∧ LoopI w B1 xs T' wr) (fun _ i _ => cn - (intOf i).toNat)
      case atStart => exact ⟨0, 0, by omega, rfl, rfl, HL0.out⟩
      case round =>
        obtain ⟨k, T', hk, rfl, rfl, hB, hBw, hT', ys', hhs, hsm⟩ := hrel
        have HB := hid hB
        have HSM := hid hsm
        by_cases hkc : k < cn
        · obtain ⟨cb, co, hca, hcc⟩ := HCS.out.2.2.2.resolve_left (by omega)
          subst hca
          have hkc' : (k : Int) < (cn : Int) := by omega
          obtain ⟨s, hs⟩ : ∃ s, s = ss.getD k ⟨#[]⟩ := ⟨_, rfl⟩
          have hsz : s.size ≤ 140737488355328 := HCS.out.2.2.1 s (by rw [hs, List.getD_eq_getElem?_getD, List.getElem?_eq_getElem (by rw [HCS.out.1]; exact hkc)]; exact List.getElem_mem _)
          have hstr := hcc k hkc
          rw [← hs] at hstr
          have HSTR := hid hstr
          clear hs hcc hstr
          have HTK := hid (taken11 B1 T' wr hhs.1)
          have hmm : xs.length - T' = lft n T' := by rw [HXL.out]; rfl
          have HLF := hid (left13 a n c T' wr (by omega) (by omega))
          obtain ⟨_, _, _, la0, lc0, hl3, _⟩ := id hhs
          have HL2 := hid (left12 B1 la0 (xs.length - T') lc0 wr hl3)
          rw [hmm] at HL2
          have HHH := hid (hhs.mono (Q' := fun b => b ≠ B1 ∧ b < wr.heap.size) (fun b hb hl => ⟨hb, hl⟩))
          have HCP := hid (copyRs _ a n c xs wr (HR.out.later hB))
          have hBl : B1 < wr.heap.size := block_lt_of_cell hhs.1
          clear hhs hsm hl3 hmm hB
          go_wp2_with fail
          refine HTK.out.mono ?_
          rintro e w5 ⟨rfl, hw⟩
          have hw' := hw.symm; subst hw'; clear hw HTK
          have hne : ((T' : Int) != T') = false := by simp
          have hne2 : (((lft n T' : Nat) : Int) != (lft n T' : Nat)) = false := by simp
          go_wp2_with fail
          refine HL2.out.mono ?_
          rintro e w5 ⟨rfl, hw⟩
          have hw' := hw.symm; subst hw'; clear hw HL2
          go_wp2_with fail
          refine HLF.out.mono ?_
          rintro e w5 ⟨rfl, hw⟩
          have hw' := hw.symm; subst hw'; clear hw HLF
          go_wp2_with fail
          refine HCP.out.mono ?_
          rintro e w6 ⟨g6, c6, ys6, rfl, hcr6, hb6⟩
          have HN6 := hid (new9 _ g6 n c6 (T' : Int) T' ys6 w6 (hcr6.rps hn) (by omega) (by omega) (by omega))
          have hs6 := hid (hcr6.sameR HXL.out)
          have HB6 := hid hb6
          clear hcr6 hb6 HCP hne hne2
          go_wp2_with fail
          refine HN6.out.mono ?_
          rintro e w7 ⟨rfl, hb7, ys7, hsm7, hhs7⟩
          have hq7 : HS w7 w6.heap.size (fun k => w6.heap.size ≤ k ∧ k ≠ w6.heap.size) T' (xs.length - T') ys7 := by
            have e : (ys6.drop T').length = xs.length - T' := by rw [List.length_drop, hs6.out.1]
            rw [← e]; exact hhs7
          have hqs7 := hsm7.trans (hs6.out.drop T')
          have B7 : Below wr.heap.size wr w7 := HB6.out.trans (hb7.mono HB6.out.size)
          have hh7 := HHH.out.later B7
          have HC7 := hid (callU B1 _ T' xs ys' s w7 hh7 (fun b hb => hb.1) HSM.out (by rw [HXL.out]; exact hn) hT' hsz)
          have HQ7 := hid hq7
          have HQS7 := hid hqs7
          have HB7 := hid B7
          have s7 := later_cell B7 (later_cell HB.out HSTR.out)
          have hq67 : wr.heap.size ≤ w6.heap.size := HB6.out.size
          clear hb7 hsm7 hhs7 hq7 hqs7 B7 hh7 hs6 HB6 HN6 HHH
          obtain ⟨Hq, hHq⟩ : ∃ Hq, Hq = w6.heap.size := ⟨_, rfl⟩
          rw [← hHq] at HQ7 hq67 ⊢
          clear hHq
          go_wp2_with fail
          refine HC7.out.mono ?_
          rintro e w8 ⟨la, lc, ys8, rfl, hsg8, hk8, hhs8, hsm8⟩
          have hq8 := HQ7.out.kept hk8 (fun e => by omega) (fun b hb e => by omega)
          have HC8 := hid (callU Hq _ T' xs ys7 s w8 hq8 (fun b hb => hb.2) HQS7.out (by rw [HXL.out]; exact hn) hT' hsz)
          have HSG8 := hid hsg8
          have HHS8 := hid hhs8
          have HSM8 := hid hsm8
          have hcb : cb ≠ B1 ∧ cb < w.heap.size := by
            have : cb < w.heap.size := block_lt_of_cell HSTR.out
            exact ⟨by omega, this⟩
          have s8 := hk8.cell s7 hcb.1
          have HB8 := hid (below_kept (HB.out.trans (HB7.out.mono HB.out.size)) hk8 (Nat.le_trans HB.out.size HB7.out.size) (fun b e => by omega))
          clear hsg8 hk8 hhs8 hsm8 hq8 HC7 HQ7 s7 HB7
          have hln : (ansL xs T' s).length ≤ 2147483647 := HSG8.out.2.2.1
          obtain ⟨l, hl⟩ : ∃ l, l = ansL xs T' s := ⟨_, rfl⟩
          obtain ⟨ok, hok⟩ : ∃ ok, ok = ansB xs T' s := ⟨_, rfl⟩
          obtain ⟨nx, hnx⟩ : ∃ nx, nx = ansT xs T' := ⟨_, rfl⟩
          rw [← hl] at HSG8 HC8 hln ⊢
          rw [← hok] at HC8 ⊢
          rw [← hnx] at HHS8 HSM8 HC8
          have HLL := hid hl
          have HOK := hid hok
          have HNX := hid hnx
          clear hl hok hnx
          go_wp2_with fail
          refine HC8.out.mono ?_
          rintro e w9 ⟨ka, kc, ys9, rfl, hsg9, hk9, hhs9, hsm9⟩
          have HB9 := hid (below_kept HB8.out hk9 HB8.out.size (fun b e => by have := HB.out.size; omega))
          have s9 := hk9.cell s8 (fun e => by have := HB.out.size; omega)
          have hsg8 := HSG8.out.kept hk9 (fun b hb e => by omega)
          have hh9 := HHS8.out.kept hk9 (fun e => by omega) (fun b hb e => by omega)
          have HRF := hid (refU _ a n c T' xs s w9 (HR.out.later HB9.out) hsz)
          rw [← HLL.out, ← HOK.out, ← HNX.out] at HRF
          have HA := hid hsg8
          have HK := hid hsg9
          have HH9 := hid hh9
          have HQ9 := hid hhs9
          clear hsg8 hsg9 hh9 hk9 hhs9 hsm9 HC8 HSG8 HHS8 s8 HB8
          go_wp2_with fail
          refine HRF.out.mono ?_
          rintro e w10 ⟨wa, wc, rfl, hsgW, hb10⟩
          have HB10 := hid (HB9.out.trans (hb10.mono HB9.out.size))
          have HHX := hid (HH9.out.later hb10)
          have HQX := hid (HQ9.out.later hb10)
          have hA10 := HA.out.later hb10
          have hK10 := HK.out.later hb10
          have HE1 := hid (eqw _ _ la wa _ lc wc l w10 hA10 hsgW)
          have HKX := hid hK10
          have HWX := hid hsgW
          clear hb10 hA10 hK10 hsgW HRF HA HK HH9 HQ9 s9 HB9
          have hbb : (ok != ok) = false := by simp
          go_wp2_with fail
          refine HE1.out.mono ?_
          rintro e w11 ⟨rfl, hb11⟩
          have HE2 := hid (eqw _ _ ka wa _ kc wc l w11 (HKX.out.later hb11) (HWX.out.later hb11))
          have HB11 := hid hb11
          clear hb11 HE1 HKX HWX
          go_wp2_with fail
          refine HE2.out.mono ?_
          rintro e w12 ⟨rfl, hb12⟩
          have b12 : Below w10.heap.size w10 w12 := HB11.out.trans (hb12.mono HB11.out.size)
          have HTQ := hid (taken11 Hq nx w12 (HQX.out.later b12).1)
          have hnn : ((nx : Int) != nx) = false := by simp
          have HEND := hid (show LoopI w B1 xs nx w12 from ⟨HB10.out.trans (b12.mono HB10.out.size), hBw, by rw [HNX.out]; exact ansT_le hT' (by rw [HXL.out]; exact hn), ys8, (HHX.out.later b12).mono (fun b hb _ => hb.1), HSM8.out⟩)
          clear b12 hb12 HE2 HB11 HQX HHX HB10
          go_wp2_with fail
          refine HTQ.out.mono ?_
          rintro e w13 ⟨rfl, hw⟩
          have hw' := hw.symm; subst hw'; clear hw
          go_wp2_with fail
          exact ⟨⟨k + 1, nx, by omega, rfl, by go_num, HEND.out⟩, by simp [intOf]; omega⟩
        · have hkc' : ¬ (k : Int) < (cn : Int) := by omega
          have HTK := hid (taken11 B1 T' wr hhs.1)
          have HW := hid (works7 wr)
          clear hhs hsm hB
          go_wp2_with fail
          refine HTK.out.mono ?_
          rintro e w5 ⟨rfl, hw⟩
          have hw' := hw.symm; subst hw'; clear hw
          have hne : ((T' : Int) == T') = true := by simp
          go_wp2_with fail
          refine HW.out.mono ?_
          rintro e w6 ⟨rfl, hb6⟩
          have HB6 := hid (HB.out.trans (hb6.mono HB.out.size))
          clear hb6
          go_wp2_with fail
          go_ret
          exact ⟨rfl, HB6.out⟩


end Go.Proofs.Ythdgbeaibajkeaa
