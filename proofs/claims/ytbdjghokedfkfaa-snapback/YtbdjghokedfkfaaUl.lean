/-
  SnapUnlike's law.
-/
import Derived.Test.YtbdjghokedfkfaaPd
import Derived.Test.YtbdjghokedfkfaaOa
namespace Go.Proofs.Ytbdjghokedfkfaa
open Go.RowKit
set_option linter.unusedVariables false
set_option maxRecDepth 100000

theorem sb_of {s : StM} (h : SC s) (hb : BY s) : SB s :=
  ⟨fun x hx => ⟨by have := (h.fb x hx).1; omega, by have := (h.fb x hx).2; omega⟩, fun x hx => ⟨by have := h.pb x hx; omega, hb x hx⟩, by have := h.f; omega, by have := h.g; omega, by have := h.p; omega, by have := h.r; omega⟩
theorem wra_is {x : StM} {w w' : World} {e : Ending} (h : WrA x w e w') : Below w.heap.size w w' ∧ ((wrV x).2 = true ∧ e = .returned (.tuple #[.slice none 0 0, .int .i64 44]) ∨ (wrV x).2 = false ∧ ∃ B cap, e = .returned (.tuple #[.slice (some ⟨B, 0, none⟩) (wrV x).1.length cap, .int .i64 0]) ∧ SI .u8 w' (some ⟨B, 0, none⟩) (wrV x).1.length (wrV x).1) := by
  obtain ⟨hb, hor⟩ := h
  refine ⟨hb, hor.imp id fun ⟨h1, B, cap, h2, h3, _⟩ => ⟨h1, B, cap, h2, h3.si rfl⟩⟩
theorem wr_len (s : StM) (h : (wrV s).2 = false) (gs : RgS s) : (wrV s).1.length ≤ 1099511627776 := by
  have l1 := octW_len s.en 1 3 (mgc, false)
  have l2 := octW_len s.tr 0 6 (octW s.en 1 3 (mgc, false))
  have l3 := numW_len (u64 s.us) 4611686018427387904 (octW s.tr 0 6 (octW s.en 1 3 (mgc, false)))
  have l4 := numW_len (u64 s.rep) 9223372036854775807 (numW (u64 s.us) 4611686018427387904 (octW s.tr 0 6 (octW s.en 1 3 (mgc, false))))
  have e : wrV s = stW s (mgc, false) := rfl
  rw [e]
  unfold stW
  generalize numW (u64 s.rep) 9223372036854775807 (numW (u64 s.us) 4611686018427387904 (octW s.tr 0 6 (octW s.en 1 3 (mgc, false)))) = s4 at *
  have l5 := listW_len valW_bad (valW_wide s.rs) 8 s4
  have l6 := listW_len valW_bad (valW_wide s.gs) 64 (listW valW s.rs 8 s4)
  have l7 := pagesW_len s.ps gs.pl (listW valW s.gs 64 (listW valW s.rs 8 s4))
  have l8 := listW_len frW_bad (frW_wide s.fs) 64 (pagesW s.ps (listW valW s.gs 64 (listW valW s.rs 8 s4)))
  simp only [Int.cast_ofNat_Int] at l5 l6 l8
  have lm : (mgc, false).fst.length = 5 := rfl
  omega
set_option maxHeartbeats 8000000 in
theorem unl4 (s t : StM) (w : World) (hs : SSt w s) (ht : SSt w t) (ms : SM s) (mt : SM t) (ys : BY s) (yt : BY t) (rs : SR s) (rt : SR t) (gs : RgS s) (gt : RgS t) :
    Calls Try.prog 4 #[.agg (stAr s), .agg (stAr t)] w fun e w' => e = .returned (.bool true) ∧ Below w.heap.size w w' := by
  have b1 := below_new w (stO s)
  have b2 := b1.trans ((below_new (w.alloc (stO s)) (stO t)).mono b1.size)
  have k1 := nb_later (below_new (w.alloc (stO s)) (stO t)) (nb_new w (stO s))
  have k2 : ((w.alloc (stO s)).alloc (stO t)).heap[w.heap.size + 1]? = some (stO t) := nb_at (by simp)
  have HC := hid (fun (W : World) (hb : Below ((w.alloc (stO s)).alloc (stO t)).heap.size ((w.alloc (stO s)).alloc (stO t)) W) => (⟨later_cell hb (cell_at k1), later_cell hb (cell_at k1), later_cell hb (cell_at k1), later_cell hb (cell_at k1), later_cell hb (cell_at k1), later_cell hb (cell_at k1), later_cell hb (cell_at k1), later_cell hb (cell_at k1), later_cell hb (cell_at k2), later_cell hb (cell_at k2), later_cell hb (cell_at k2), later_cell hb (cell_at k2), later_cell hb (cell_at k2), later_cell hb (cell_at k2), later_cell hb (cell_at k2), later_cell hb (cell_at k2)⟩ : W.cell? ⟨w.heap.size, 0, none⟩ = some (.slice s.fa s.fn s.fc) ∧ W.cell? ⟨w.heap.size, 1, none⟩ = some (.slice s.ga s.gn s.gc) ∧ W.cell? ⟨w.heap.size, 2, none⟩ = some (.slice s.pa s.pn s.pc) ∧ W.cell? ⟨w.heap.size, 3, none⟩ = some (.int .i64 s.rep) ∧ W.cell? ⟨w.heap.size, 4, none⟩ = some (.int .i8 s.en) ∧ W.cell? ⟨w.heap.size, 5, none⟩ = some (.slice s.ra s.rn s.rc) ∧ W.cell? ⟨w.heap.size, 6, none⟩ = some (.int .i8 s.tr) ∧ W.cell? ⟨w.heap.size, 7, none⟩ = some (.int .i64 s.us) ∧ W.cell? ⟨w.heap.size + 1, 0, none⟩ = some (.slice t.fa t.fn t.fc) ∧ W.cell? ⟨w.heap.size + 1, 1, none⟩ = some (.slice t.ga t.gn t.gc) ∧ W.cell? ⟨w.heap.size + 1, 2, none⟩ = some (.slice t.pa t.pn t.pc) ∧ W.cell? ⟨w.heap.size + 1, 3, none⟩ = some (.int .i64 t.rep) ∧ W.cell? ⟨w.heap.size + 1, 4, none⟩ = some (.int .i8 t.en) ∧ W.cell? ⟨w.heap.size + 1, 5, none⟩ = some (.slice t.ra t.rn t.rc) ∧ W.cell? ⟨w.heap.size + 1, 6, none⟩ = some (.int .i8 t.tr) ∧ W.cell? ⟨w.heap.size + 1, 7, none⟩ = some (.int .i64 t.us)))
  have HS := hid (fun (W : World) (hb : Below ((w.alloc (stO s)).alloc (stO t)).heap.size ((w.alloc (stO s)).alloc (stO t)) W) => (⟨(hs.later b2).later hb, (ht.later b2).later hb⟩ : SSt W s ∧ SSt W t))
  have HW := hid (works5 ((w.alloc (stO s)).alloc (stO t)))
  have HB2 := hid b2
  clear b1 b2 k1 k2 hs ht
  go_enter Try.func4, Try.ntmps4
  go_wp2_with fail
  generalize (w.alloc (stO s)).alloc (stO t) = W2 at *
  refine HW.out.mono ?_
  rintro e w3 ⟨rfl, hb3⟩
  obtain ⟨c0, c1, c2, c3, c4, c5, c6, c7, c8, c9, c10, c11, c12, c13, c14, c15⟩ := HC.out _ hb3
  have B3 := hid hb3
  have Z1 := hid (siz13 s w3 (HS.out w3 hb3).1 ms)
  clear hb3 HW
  go_wp2_with fail
  refine Z1.out.mono ?_
  rintro e w4 ⟨z1, rfl, hz1, hb4⟩
  have B4 := hid (B3.out.trans (hb4.mono B3.out.size))
  have HZ1 := hid hz1
  clear c0 c1 c2 c3 c4 c5 c6 c7 c8 c9 c10 c11 c12 c13 c14 c15
  obtain ⟨c0, c1, c2, c3, c4, c5, c6, c7, c8, c9, c10, c11, c12, c13, c14, c15⟩ := HC.out _ B4.out
  clear hb4 Z1 hz1
  by_cases q1 : 1048576 < z1
  · have q1' : (1048576 : Int) < (z1 : Int) := by omega
    go_wp2_with fail
    go_ret
    exact ⟨rfl, HB2.out.trans (B4.out.mono HB2.out.size)⟩
  have q1' : ¬ (1048576 : Int) < (z1 : Int) := by omega
  have SBS := hid (sb_of (HZ1.out (by omega)) ys)
  have Z2 := hid (siz13 t w4 (HS.out w4 B4.out).2 mt)
  go_wp2_with fail
  refine Z2.out.mono ?_
  rintro e w5 ⟨z2, rfl, hz2, hb5⟩
  have B5 := hid (B4.out.trans (hb5.mono B4.out.size))
  have HZ2 := hid hz2
  clear c0 c1 c2 c3 c4 c5 c6 c7 c8 c9 c10 c11 c12 c13 c14 c15
  obtain ⟨c0, c1, c2, c3, c4, c5, c6, c7, c8, c9, c10, c11, c12, c13, c14, c15⟩ := HC.out _ B5.out
  clear hb5 Z2 hz2
  by_cases q2 : 1048576 < z2
  · have q2' : (1048576 : Int) < (z2 : Int) := by omega
    go_wp2_with fail
    go_ret
    exact ⟨rfl, HB2.out.trans (B5.out.mono HB2.out.size)⟩
  have q2' : ¬ (1048576 : Int) < (z2 : Int) := by omega
  have SBT := hid (sb_of (HZ2.out (by omega)) yt)
  have WS := hid (write7 s w5 (HS.out w5 B5.out).1 SBS.out rs)
  go_wp2_with fail
  refine WS.out.mono ?_
  rintro e w6 h6
  obtain ⟨hb6, hor6⟩ := wra_is h6
  have B6 := hid (B5.out.trans (hb6.mono B5.out.size))
  clear c0 c1 c2 c3 c4 c5 c6 c7 c8 c9 c10 c11 c12 c13 c14 c15
  obtain ⟨c0, c1, c2, c3, c4, c5, c6, c7, c8, c9, c10, c11, c12, c13, c14, c15⟩ := HC.out _ B6.out
  have WT := hid (write7 t w6 (HS.out w6 B6.out).2 SBT.out rt)
  clear hb6 h6 WS
  rcases hor6 with ⟨ba, rfl⟩ | ⟨ba, A, ca, rfl, sa⟩
  · have BA := hid ba
    clear ba
    go_wp2_with fail
    refine WT.out.mono ?_
    rintro e w7 h7
    obtain ⟨hb7, hor7⟩ := wra_is h7
    have B7 := hid (B6.out.trans (hb7.mono B6.out.size))
    clear hb7 h7 WT
    rcases hor7 with ⟨bb, rfl⟩ | ⟨bb, C, cc, rfl, sc⟩
    · clear bb
      go_wp2_with fail
      go_ret
      exact ⟨rfl, HB2.out.trans (B7.out.mono HB2.out.size)⟩
    · clear bb sc
      go_wp2_with fail
      go_ret
      exact ⟨rfl, HB2.out.trans (B7.out.mono HB2.out.size)⟩
  · have BA := hid ba
    have SA := hid sa
    clear ba sa
    go_wp2_with fail
    refine WT.out.mono ?_
    rintro e w7 h7
    obtain ⟨hb7, hor7⟩ := wra_is h7
    have B7 := hid (B6.out.trans (hb7.mono B6.out.size))
    have SA7 := hid (SA.out.later hb7)
    clear hb7 h7 WT SA
    rcases hor7 with ⟨bb, rfl⟩ | ⟨bb, C, cc, rfl, sc⟩
    · clear bb
      go_wp2_with fail
      go_ret
      exact ⟨rfl, HB2.out.trans (B7.out.mono HB2.out.size)⟩
    · have BB := hid bb
      have SC7 := hid sc
      clear bb sc
      clear c0 c1 c2 c3 c4 c5 c6 c7 c8 c9 c10 c11 c12 c13 c14 c15
      obtain ⟨c0, c1, c2, c3, c4, c5, c6, c7, c8, c9, c10, c11, c12, c13, c14, c15⟩ := HC.out _ B7.out
      have HV := hid (unlike BA.out BB.out gs gt)
      have hn7 : (wrV s).1.length ≤ 1099511627776 := (by rw [show (wrV s).1.length = (wrV s).1.length from rfl]; exact wr_len s BA.out gs)
      have H1 := hid (fun (W : World) (hW : Below w7.heap.size w7 W) => eqI39 (some ⟨A, 0, none⟩) (some ⟨C, 0, none⟩) _ _ ca cc (wrV s).1 (wrV t).1 W (SA7.out.later hW) (SC7.out.later hW) hn7)
      have H2 := hid (fun (W : World) (hW : Below w7.heap.size w7 W) => eqS7 s t W (HS.out W (B7.out.trans (hW.mono B7.out.size))).1 (HS.out W (B7.out.trans (hW.mono B7.out.size))).2 SBS.out SBT.out)
      have HL := hid (fun (W : World) (hW : Below w7.heap.size w7 W) => HC.out W (B7.out.trans (hW.mono B7.out.size)))
      rw [HV.out] at H1
      generalize stE s t = v at *
      generalize (wrV s).1.length = n1 at *
      generalize (wrV t).1.length = n2 at *
      have KD := hid (show Below w7.heap.size w7 w7.drew from (Kept.drewN (fun _ => False) w7 1).to_below (Nat.le_refl _) (fun _ _ x => x))
      have hvv : (v == v) = true := by simp
      clear HS SA7 SC7 BA BB SBS SBT HV HC HZ1 HZ2
      go_wp2_with fail
      go_region_held3 (fun W => W.cell? ⟨w.heap.size, 0, none⟩ = some (.slice s.fa s.fn s.fc) ∧ W.cell? ⟨w.heap.size, 1, none⟩ = some (.slice s.ga s.gn s.gc) ∧ W.cell? ⟨w.heap.size, 2, none⟩ = some (.slice s.pa s.pn s.pc) ∧ W.cell? ⟨w.heap.size, 3, none⟩ = some (.int .i64 s.rep) ∧ W.cell? ⟨w.heap.size, 4, none⟩ = some (.int .i8 s.en) ∧ W.cell? ⟨w.heap.size, 5, none⟩ = some (.slice s.ra s.rn s.rc) ∧ W.cell? ⟨w.heap.size, 6, none⟩ = some (.int .i8 s.tr) ∧ W.cell? ⟨w.heap.size, 7, none⟩ = some (.int .i64 s.us) ∧ W.cell? ⟨w.heap.size + 1, 0, none⟩ = some (.slice t.fa t.fn t.fc) ∧ W.cell? ⟨w.heap.size + 1, 1, none⟩ = some (.slice t.ga t.gn t.gc) ∧ W.cell? ⟨w.heap.size + 1, 2, none⟩ = some (.slice t.pa t.pn t.pc) ∧ W.cell? ⟨w.heap.size + 1, 3, none⟩ = some (.int .i64 t.rep) ∧ W.cell? ⟨w.heap.size + 1, 4, none⟩ = some (.int .i8 t.en) ∧ W.cell? ⟨w.heap.size + 1, 5, none⟩ = some (.slice t.ra t.rn t.rc) ∧ W.cell? ⟨w.heap.size + 1, 6, none⟩ = some (.int .i8 t.tr) ∧ W.cell? ⟨w.heap.size + 1, 7, none⟩ = some (.int .i64 t.us)) (exact ⟨by assumption, by assumption, by assumption, by assumption, by assumption, by assumption, by assumption, by assumption, by assumption, by assumption, by assumption, by assumption, by assumption, by assumption, by assumption, by assumption⟩)
        (first
          | (go_at_call 9; have hprev := V1.out; refine (H2.out _ hprev).mono ?_; rintro e v2 ⟨rfl, hv⟩; have V2 := hid (hprev.trans (hv.mono hprev.size)); obtain ⟨g0, g1, g2, g3, g4, g5, g6, g7, g8, g9, g10, g11, g12, g13, g14, g15⟩ := HL.out _ V2.out; clear hv hprev f0 f1 f2 f3 f4 f5 f6 f7 f8 f9 f10 f11 f12 f13 f14 f15)
          | (go_at_call 11; have hprev := KD.out; refine (H1.out _ hprev).mono ?_; rintro e v1 ⟨rfl, hv⟩; have V1 := hid (hprev.trans (hv.mono hprev.size)); obtain ⟨f0, f1, f2, f3, f4, f5, f6, f7, f8, f9, f10, f11, f12, f13, f14, f15⟩ := HL.out _ V1.out; clear hv hprev))
      go_wp2_with fail
      go_ret
      exact ⟨rfl, HB2.out.trans ((B7.out.trans (V2.out.mono B7.out.size)).mono HB2.out.size)⟩
end Go.Proofs.Ytbdjghokedfkfaa
