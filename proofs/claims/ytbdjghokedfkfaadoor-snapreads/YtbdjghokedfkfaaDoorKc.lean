/-
  The document's reader: octets.
-/
import Derived.Test.YtbdjghokedfkfaaDoorKb
namespace Go.Proofs.YtbdjghokedfkfaaDoor
open Go.RowKit
set_option linter.unusedVariables false
set_option maxRecDepth 100000

set_option maxHeartbeats 2000000 in
theorem roct56 (R : Nat) (a : Option Addr) (n c : Nat) (zs : List Int) (st : RS) (q : Int × Int × Int) (least most : Int) (w : World) (h : Rq w R a n c zs st q) (hl : 0 ≤ least ∧ least ≤ 127) (hm : 0 ≤ most ∧ most ≤ 127) :
    Calls Tryd.prog 56 #[.pointer (some ⟨R, 0, none⟩), .int .u8 least, .int .u8 most] w fun e w' => ∃ q', e = .returned (.int .i8 (ocR zs least most st).1) ∧ Rq w' R a n c zs (ocR zs least most st).2 q' ∧ Kept (fun k => k = R) w w' := by
  obtain ⟨qa, qe, qb⟩ := q
  have c0 : w.cell? ⟨R, 0, none⟩ = some (.slice a n c) := cell_at h.blk
  have c1 : w.cell? ⟨R, 1, none⟩ = some (.int .i64 qa) := cell_at h.blk
  have c2 : w.cell? ⟨R, 2, none⟩ = some (.int .i64 qe) := cell_at h.blk
  have f1 : w.frozen? ⟨R, 1, none⟩ = false := frzB h.blk
  have BW := hid (fun m => below_drewN w m)
  have HH := hid h
  have hzl := h.seg.1
  have hn40 := h.seg.2.2.1
  by_cases hst : st.2 = 0
  · obtain ⟨p, e0⟩ := st
    simp only at hst
    subst hst
    have hq : qe = 0 ∧ qa = p := by
      rcases h.rl with ⟨_, h1, h2⟩ | ⟨h1, _⟩
      · exact ⟨h1, h2⟩
      · exact absurd rfl h1
    obtain ⟨rfl, rfl⟩ := hq
    have hrg := h.rg rfl
    simp only at hrg
    have HNO := hid (fun (W : World) (hW : Below w.heap.size w W) (e p : Int) (he : e ≠ 0) => rno60 R a n c zs qa qb e p W (h.later hW) he)
    by_cases hend : qa = (zs.length : Int)
    · have eo : ocR zs least most (qa, 0) = (0, (qa, 10)) := by simp [ocR, hend, tkR]
      rw [eo]
      have hge : (n : Int) ≤ qa := by omega
      have hNO := hid (fun m => HNO.out (w.drewN m) (BW.out m) 10 qa (by decide))
      have d1 := fun m => later_cell (BW.out m) c1
      clear eo h hend
      go_enter Tryd.func56, Tryd.ntmps56
      go_wp2_with fail
      go_quiet (fail)
      have d1' := d1 nq
      clear d1
      go_wp2_with fail
      refine (hNO.out _).mono ?_
      rintro e w3 ⟨rfl, h3, k3⟩
      have R3 := hid h3
      have K3 := hid ((kept_of (S := fun k => k = R) (BW.out nq)).trans k3)
      have e2 : w3.cell? ⟨R, 2, none⟩ = some (.int .i64 10) := cell_at h3.blk
      clear h3 k3
      go_wp2_with fail
      go_ret
      exact ⟨_, rfl, R3.out, K3.out⟩
    · obtain ⟨p, rfl⟩ := Int.eq_ofNat_of_zero_le hrg.1
      have hpl : p < zs.length := by
        have h1 := hrg.2
        omega
      have hnge : ¬ (n : Int) ≤ (p : Int) := by omega
      obtain ⟨b, off, rfl, hc⟩ := h.seg.2.2.2.2.resolve_left (by omega)
      have hcl := hc p (by omega)
      have hz := h.seg.2.2.2.1 (zs.getD p 0) (by
        rw [List.getD_eq_getElem?_getD, List.getElem?_eq_getElem hpl]; exact List.getElem_mem hpl)
      have eo : ocR zs least most ((p : Int), 0) = if zs.getD p 0 < least ∨ most < zs.getD p 0 then (0, ((p : Int), 17)) else (zs.getD p 0, ((p : Int) + 1, 0)) := by
        by_cases h1 : zs.getD p 0 < least ∨ most < zs.getD p 0
        · rw [if_pos h1]
          unfold ocR
          rw [if_neg hend, Int.toNat_natCast, if_pos h1]
          rfl
        · rw [if_neg h1]
          unfold ocR
          rw [if_neg hend, Int.toNat_natCast, if_neg h1]
          rfl
      rw [eo]
      have d0 := fun m => later_cell (BW.out m) c0
      have d1 := fun m => later_cell (BW.out m) c1
      have d2 := fun m => later_cell (BW.out m) c2
      have dc := fun m => later_cell (BW.out m) hcl
      clear eo h hc
      generalize zs.getD p 0 = z at *
      by_cases hbad : z < least ∨ most < z
      · rw [if_pos hbad]
        go_enter Tryd.func56, Tryd.ntmps56
        go_wp2_with fail
        go_quiet (fail)
        have e0 := d0 nq
        have e1 := d1 nq
        have e2 := d2 nq
        have ec := dc nq
        have BN := hid (BW.out nq)
        have RN := hid (HH.out.later (BW.out nq))
        clear d0 d1 d2 dc c0 c1 c2 f1 hcl BW HH
        generalize w.drewN nq = W2 at *
        go_wp2_with fail
        have d1 := fun m => later_cell (below_drewN W2 m) e1
        have BM := hid (fun m => BN.out.trans ((below_drewN W2 m).mono BN.out.size))
        have RM := hid (fun m => RN.out.later (below_drewN W2 m))
        go_quiet (fail)
        have g1 := d1 nq
        clear d1
        have B3 := hid (BM.out nq)
        have R3 := hid (RM.out nq)
        clear BM RM BN RN e0 e1 e2 ec
        generalize W2.drewN nq = W3 at *
        have hNO := hid (HNO.out W3 B3.out 17 p (by decide))
        rcases hbad with hbad | hbad
        · go_wp2_with fail
          refine hNO.out.mono ?_
          rintro e w4 ⟨rfl, h4, k4⟩
          have R4 := hid h4
          have K4 := hid ((kept_of (S := fun k => k = R) B3.out).trans k4)
          clear h4 k4
          go_wp2_with fail
          go_ret
          exact ⟨_, rfl, R4.out, K4.out⟩
        · by_cases hlo : z < least
          · go_wp2_with fail
            refine hNO.out.mono ?_
            rintro e w4 ⟨rfl, h4, k4⟩
            have R4 := hid h4
            have K4 := hid ((kept_of (S := fun k => k = R) B3.out).trans k4)
            clear h4 k4
            go_wp2_with fail
            go_ret
            exact ⟨_, rfl, R4.out, K4.out⟩
          · go_wp2_with fail
            refine hNO.out.mono ?_
            rintro e w4 ⟨rfl, h4, k4⟩
            have R4 := hid h4
            have K4 := hid ((kept_of (S := fun k => k = R) B3.out).trans k4)
            clear h4 k4
            go_wp2_with fail
            go_ret
            exact ⟨_, rfl, R4.out, K4.out⟩
      · rw [if_neg hbad]
        go_enter Tryd.func56, Tryd.ntmps56
        go_wp2_with fail
        go_quiet (fail)
        have e0 := d0 nq
        have e1 := d1 nq
        have e2 := d2 nq
        have ec := dc nq
        have BN := hid (BW.out nq)
        have RN := hid (HH.out.later (BW.out nq))
        clear d0 d1 d2 dc c0 c1 c2 f1 hcl BW HH
        generalize w.drewN nq = W2 at *
        go_wp2_with fail
        have d1 := fun m => later_cell (below_drewN W2 m) e1
        have BM := hid (fun m => BN.out.trans ((below_drewN W2 m).mono BN.out.size))
        have RM := hid (fun m => RN.out.later (below_drewN W2 m))
        go_quiet (fail)
        have g1 := d1 nq
        clear d1
        have B3 := hid (BM.out nq)
        have R3 := hid (RM.out nq)
        clear BM RM BN RN e0 e1 e2 ec
        generalize W2.drewN nq = W3 at *
        have h1 : ¬ z < least := fun h => hbad (.inl h)
        have h2 : ¬ most < z := fun h => hbad (.inr h)
        have hw : IntKind.i8.wrap z = z := i8_in z (by omega) (by omega)
        have fz : W3.frozen? ⟨R, 1, none⟩ = false := frzB R3.out.blk
        have HF := hid (show Rq (W3.setCell ⟨R, 1, none⟩ (.int .i64 ((p : Int) + 1))) R (some ⟨b, off, none⟩) n c zs ((p : Int) + 1, 0) ((p : Int) + 1, 0, qb) from ⟨.inl ⟨rfl, rfl, rfl⟩, blk_set R3.out.blk, seg_put R3.out.seg R3.out.ne, R3.out.ne, fun _ => ⟨by simp only; omega, by simp only; omega⟩⟩)
        have HK := hid ((kept_of (S := fun k => k = R) B3.out).trans (kept_put (w := W3) (B := R) (i := 1) (v := .int .i64 ((p : Int) + 1))))
        clear hbad
        go_wp2_with fail
        go_ret
        first | exact ⟨_, rfl, HF.out, HK.out⟩ | exact ⟨rfl, ⟨_, _, _, HF.out⟩, HK.out⟩ | exact ⟨⟨_, _, _, HF.out⟩, HK.out⟩
  · have hq : qe = st.2 := by
      rcases h.rl with ⟨h1, _⟩ | ⟨_, h1, _⟩
      · exact absurd h1 hst
      · exact h1
    have hb : (qe != 0) = true := by rw [hq]; simp [hst]
    have hb2 : (qe == 0) = false := by rw [hq]; simp [hst]
    have e1 : ocR zs least most st = (0, st) := by
      unfold ocR tkR
      simp [hst]
    rw [e1]
    have d2 := fun m => later_cell (BW.out m) c2
    clear h e1 hq
    go_enter Tryd.func56, Tryd.ntmps56
    go_wp2_with fail
    go_quiet (fail)
    have d2' := d2 nq
    go_wp2_with fail
    go_ret
    exact ⟨_, rfl, HH.out.later (BW.out nq), kept_of (BW.out nq)⟩
end Go.Proofs.YtbdjghokedfkfaaDoor
