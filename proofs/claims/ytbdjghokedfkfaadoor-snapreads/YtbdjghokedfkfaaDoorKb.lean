/-
  The document's reader: its errors, numbers, octets.
-/
import Derived.Test.YtbdjghokedfkfaaDoorKa
namespace Go.Proofs.YtbdjghokedfkfaaDoor
open Go.RowKit
set_option linter.unusedVariables false
set_option maxRecDepth 100000

abbrev rrO (a : Option Addr) (n c : Nat) (q : Int × Int × Int) : Obj := .cells #[.slice a n c, .int .i64 q.1, .int .i64 q.2.1, .int .i64 q.2.2] 87
/-- The document's reader stands where the program's does, or has its error. -/
def Rl (q : Int × Int × Int) (st : RS) : Prop := (st.2 = 0 ∧ q.2.1 = 0 ∧ q.1 = st.1) ∨ (st.2 ≠ 0 ∧ q.2.1 = st.2 ∧ q.2.2 = st.1)
structure Rq (w : World) (R : Nat) (a : Option Addr) (n c : Nat) (zs : List Int) (st : RS) (q : Int × Int × Int) : Prop where
  rl : Rl q st
  blk : w.heap[R]? = some (rrO a n c q)
  seg : Seg w a n c zs
  ne : ∀ b off, a = some ⟨b, off, none⟩ → 0 < n → b ≠ R
  rg : st.2 = 0 → 0 ≤ st.1 ∧ st.1 ≤ zs.length
theorem Rq.later {w w' : World} {R : Nat} {a : Option Addr} {n c : Nat} {zs : List Int} {st : RS} {q : Int × Int × Int} (h : Rq w R a n c zs st q) (hb : Below w.heap.size w w') : Rq w' R a n c zs st q := ⟨h.rl, nb_later hb h.blk, h.seg.later hb (Nat.le_refl _), h.ne, h.rg⟩
theorem seg_put {w : World} {R i : Nat} {v : Value} {a : Option Addr} {n c : Nat} {zs : List Int} (h : Seg w a n c zs) (ne : ∀ b off, a = some ⟨b, off, none⟩ → 0 < n → b ≠ R) : Seg (w.setCell ⟨R, i, none⟩ v) a n c zs := by
  obtain ⟨h1, h2, h3, h4, h5⟩ := h
  refine ⟨h1, h2, h3, h4, ?_⟩
  by_cases h0 : n = 0
  · exact .inl h0
  · obtain ⟨b, off, e, hc⟩ := h5.resolve_left h0
    refine .inr ⟨b, off, e, fun j hj => ?_⟩
    have hb := ne b off e (by omega)
    have := hc j hj
    rw [World.cell?_setCell_other _ _ _ _ (by simp)]
    exact this
set_option maxHeartbeats 1000000 in
/-- The first error. -/
theorem rno60 (R : Nat) (a : Option Addr) (n c : Nat) (zs : List Int) (at_ bad e p : Int) (w : World) (h : Rq w R a n c zs (at_, 0) (at_, 0, bad)) (he : e ≠ 0) :
    Calls Tryd.prog 60 #[.pointer (some ⟨R, 0, none⟩), .int .i64 e, .int .i64 p] w fun x w' => x = .returned (.tuple #[]) ∧ Rq w' R a n c zs (p, e) (at_, e, p) ∧ Kept (fun k => k = R) w w' := by
  have c2 : w.cell? ⟨R, 2, none⟩ = some (.int .i64 0) := cell_at h.blk
  have c3 : w.cell? ⟨R, 3, none⟩ = some (.int .i64 bad) := cell_at h.blk
  have f2 : w.frozen? ⟨R, 2, none⟩ = false := frzB h.blk
  have f3 : w.frozen? ⟨R, 3, none⟩ = false := frzB h.blk
  have HB := hid (show ((w.setCell ⟨R, 2, none⟩ (.int .i64 e)).setCell ⟨R, 3, none⟩ (.int .i64 p)).heap[R]? = some (rrO a n c (at_, e, p)) from blk_set (blk_set h.blk))
  have HS := hid (seg_put (i := 3) (v := .int .i64 p) (seg_put (i := 2) (v := .int .i64 e) h.seg h.ne) h.ne)
  have HK := hid ((kept_put (w := w) (B := R) (i := 2) (v := .int .i64 e)).trans (kept_put (i := 3) (v := .int .i64 p)))
  have HN := hid h.ne
  clear h
  go_enter Tryd.func60, Tryd.ntmps60
  go_wp2_with fail
  go_end0
  exact ⟨rfl, ⟨.inr ⟨he, rfl, rfl⟩, HB.out, HS.out, HN.out, fun h0 => absurd h0 he⟩, HK.out⟩
set_option maxHeartbeats 2000000 in
theorem rnum57 (R : Nat) (a : Option Addr) (n c : Nat) (zs : List Int) (st : RS) (q : Int × Int × Int) (most above : Int) (w : World) (h : Rq w R a n c zs st q) (ha : above ≠ 0 ∨ most = 18446744073709551615) :
    Calls Tryd.prog 57 #[.pointer (some ⟨R, 0, none⟩), .int .u64 most, .int .i64 above] w fun e w' => ∃ q', e = .returned (.int .u64 (nmR zs most above st).1) ∧ Rq w' R a n c zs (nmR zs most above st).2 q' ∧ Kept (fun k => k = R) w w' := by
  obtain ⟨qa, qe, qb⟩ := q
  have c0 : w.cell? ⟨R, 0, none⟩ = some (.slice a n c) := cell_at h.blk
  have c1 : w.cell? ⟨R, 1, none⟩ = some (.int .i64 qa) := cell_at h.blk
  have c2 : w.cell? ⟨R, 2, none⟩ = some (.int .i64 qe) := cell_at h.blk
  have f1 : w.frozen? ⟨R, 1, none⟩ = false := frzB h.blk
  by_cases hst : st.2 = 0
  · obtain ⟨p, e0⟩ := st
    simp only at hst
    subst hst
    have hq : qe = 0 ∧ qa = p := by
      rcases h.rl with ⟨_, h1, h2⟩ | ⟨h1, _⟩
      · exact ⟨h1, h2⟩
      · exact absurd rfl h1
    obtain ⟨rfl, rfl⟩ := hq
    have hrg := h.rg rfl
    have hz := h.seg.2.2.2.1
    have hr := ruAt_range zs qa hz
    have HU := hid (fun (W : World) (hW : Below w.heap.size w W) => rru86 a n c zs qa W ((h.later hW).seg))
    have HNO := hid (fun (W : World) (hW : Below w.heap.size w W) (e p : Int) (he : e ≠ 0) => rno60 R a n c zs qa qb e p W (h.later hW) he)
    have HH := hid h
    have en : nmR zs most above (qa, 0) = if (ruAt zs qa).2.2 = 0 then (if most < (ruAt zs qa).1 then (0, (qa, above)) else ((ruAt zs qa).1, ((ruAt zs qa).2.1, 0))) else (0, (qa, (ruAt zs qa).2.2)) := by
      by_cases h1 : (ruAt zs qa).2.2 = 0
      · by_cases h2 : most < (ruAt zs qa).1
        · have ha' : above ≠ 0 := by
            rcases ha with ha | ha
            · exact ha
            · omega
          simp [nmR, tkR, nmE, h1, h2, ha']
        · simp [nmR, tkR, nmE, h1, h2]
      · simp [nmR, tkR, nmE, h1]
    have EN := hid en
    have HRW := hid hr
    clear en hr h hz
    generalize nmR zs most above (qa, 0) = X at *
    generalize ruAt zs qa = Y at *
    obtain ⟨u, nx, f⟩ := Y
    simp only at EN HRW
    have BW := hid (fun m => below_drewN w m)
    have HAB := hid ha
    simp only [res3] at HU
    clear ha
    by_cases hf : f = 0
    · subst hf
      by_cases hm : most < u
      · have hX := EN.out
        rw [if_pos rfl, if_pos hm] at hX
        subst hX
        have hab : above ≠ 0 := by
          have := HRW.out
          rcases HAB.out with h | h
          · exact h
          · omega
        have hNO := hid (fun m => HNO.out (w.drewN m) (BW.out m) above qa hab)
        have d1 := fun m => later_cell (BW.out m) c1
        go_enter Tryd.func57, Tryd.ntmps57
        go_wp2_with fail
        go_quiet ((go_at_call 86; exact Calls.quiet_of_same (HU.out _ (BW.out _))))
        have d1' := d1 nq
        clear d1
        go_wp2_with fail
        refine (hNO.out _).mono ?_
        rintro e w3 ⟨rfl, h3, k3⟩
        have R3 := hid h3
        have K3 := hid ((kept_of (S := fun k => k = R) (BW.out nq)).trans k3)
        clear h3 k3
        go_wp2_with fail
        go_ret
        exact ⟨_, rfl, R3.out, K3.out⟩
      · have hX := EN.out
        rw [if_pos rfl, if_neg hm] at hX
        subst hX
        have hrr := HRW.out
        have hnx : 0 ≤ nx ∧ nx ≤ zs.length := ⟨hrr.2.2.1, hrr.2.2.2.1⟩
        have HNX := hid hnx
        clear hrr hnx
        have HFIN := hid (fun (m : Nat) => (show Rq ((w.drewN m).setCell ⟨R, 1, none⟩ (.int .i64 nx)) R a n c zs (nx, 0) (nx, 0, qb) from by
          have hl := HH.out.later (BW.out m)
          exact ⟨.inl ⟨rfl, rfl, rfl⟩, blk_set hl.blk, seg_put hl.seg hl.ne, hl.ne, fun _ => HNX.out⟩))
        have HKF := hid (fun (m : Nat) => (kept_of (S := fun k => k = R) (BW.out m)).trans (kept_put (w := w.drewN m) (B := R) (i := 1) (v := .int .i64 nx)))
        have d1 := fun m => later_cell (BW.out m) c1
        have g1 := fun m => (show (w.drewN m).frozen? ⟨R, 1, none⟩ = false from frzB (HH.out.later (BW.out m)).blk)
        go_enter Tryd.func57, Tryd.ntmps57
        go_wp2_with fail
        go_quiet ((go_at_call 86; exact Calls.quiet_of_same (HU.out _ (BW.out _))))
        have d1' := d1 nq
        have g1' := g1 nq
        have h1' := HFIN.out nq
        have h2' := HKF.out nq
        have HF2 := hid h1'
        have HK2 := hid h2'
        clear d1 g1 h1' h2' HFIN HKF
        go_wp2_with fail
        go_ret
        exact ⟨_, rfl, HF2.out, HK2.out⟩
    · have hX := EN.out
      rw [if_neg hf] at hX
      subst hX
      have hb : (f != 0) = true := by simp [hf]
      have hNO := hid (fun m => HNO.out (w.drewN m) (BW.out m) f qa hf)
      have d1 := fun m => later_cell (BW.out m) c1
      go_enter Tryd.func57, Tryd.ntmps57
      go_wp2_with fail
      go_quiet ((go_at_call 86; exact Calls.quiet_of_same (HU.out _ (BW.out _))))
      have d1' := d1 nq
      clear d1
      go_wp2_with fail
      refine (hNO.out _).mono ?_
      rintro e w3 ⟨rfl, h3, k3⟩
      have R3 := hid h3
      have K3 := hid ((kept_of (S := fun k => k = R) (BW.out nq)).trans k3)
      clear h3 k3
      go_wp2_with fail
      go_ret
      exact ⟨_, rfl, R3.out, K3.out⟩
  · have hq : qe = st.2 := by
      rcases h.rl with ⟨h1, _⟩ | ⟨_, h1, _⟩
      · exact absurd h1 hst
      · exact h1
    have hb : (qe != 0) = true := by rw [hq]; simp [hst]
    have e1 : nmR zs most above st = (0, st) := by unfold nmR tkR; rw [if_neg hst]
    have HH := hid h
    rw [e1]
    clear h e1 hq
    go_enter Tryd.func57, Tryd.ntmps57
    go_wp2_with fail
    go_ret
    exact ⟨_, rfl, HH.out, Kept.refl _ _⟩
end Go.Proofs.YtbdjghokedfkfaaDoor
