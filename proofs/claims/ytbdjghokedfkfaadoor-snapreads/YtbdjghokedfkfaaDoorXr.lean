/-
  SnapReads, the law: bytes are read as states, or refused, as the document says.
-/
import Derived.Test.YtbdjghokedfkfaaDoorGi
import Derived.Test.YtbdjghokedfkfaaDoorJPd
import Derived.Test.YtbdjghokedfkfaaDoorJWk
namespace Go.Proofs.YtbdjghokedfkfaaDoor
open Go.RowKit
set_option linter.unusedVariables false
set_option maxRecDepth 100000
/-- The error that is told, and its place. -/
def aP (zs : List Int) : Int := if (rdE zs).1 = 0 then 0 else (rdE zs).2
/-- What a state read of these bytes holds. -/
def SmQ (zs : List Int) (x : StM) : Prop := ((rdE zs).1 ≠ 0 ∧ x = zM) ∨ ((rdE zs).1 = 0 ∧ SmP x (stP zs (5, 0)))
theorem smq_same {zs : List Int} {x t : StM} (h1 : SmQ zs x) (h2 : SmQ zs t) : stE x t = true := by
  rcases h1 with ⟨e1, rfl⟩ | ⟨e1, h1⟩
  · rcases h2 with ⟨_, rfl⟩ | ⟨e2, _⟩
    · exact zM_e
    · exact absurd e2 e1
  · rcases h2 with ⟨e2, _⟩ | ⟨_, h2⟩
    · exact absurd e1 e2
    · exact smp_same h1 h2
/-- The state x may be told to a bag. -/
def AddOk (l hi : Nat) (W0 : World) (x : StM) : Prop := ∀ (W : World) (lo base GB : Nat) (K : KM), Below W0.heap.size W0 W → BgK lo base W GB K → (K 2).2.length < 300 → (K 3).2.length + 2 < 300 → lo ≤ l → hi ≤ W.heap.size → (∀ k, l ≤ k → k < hi → ¬ BF GB K k) →
  Calls Tryd.prog 18 #[.pointer (some ⟨GB, 0, none⟩), .agg (stAr x)] W fun e w' => e = .returned (.tuple #[]) ∧ Added lo base GB K (fun k => l ≤ k ∧ k < hi) 2 W w'
theorem rda_x {zs : List Int} (hz : ∀ z ∈ zs, 0 ≤ z ∧ z ≤ 255) {w w' : World} {e : Ending} (h : RdA zs w e w') : Below w.heap.size w w' ∧ ∃ x, e = .returned (.tuple #[.agg (stAr x), .int .i64 (rdE zs).1, .int .i64 (aP zs)]) ∧ SSt w' x ∧ SB x ∧ AddOk w.heap.size w'.heap.size w' x ∧ SmQ zs x := by
  obtain ⟨hb, h⟩ := h
  refine ⟨hb, ?_⟩
  rcases h with ⟨h1, rfl⟩ | ⟨h1, B5, B6, B7, bl, B8, ys, rfl, hS⟩
  · refine ⟨zM, by unfold aP; rw [if_neg h1], zM_sst _, zM_sb, fun W lo base GB K _ g l2 l3 _ _ _ => ?_, .inl ⟨h1, rfl⟩⟩
    exact (g.addS0 l2 l3).mono (fun e w' h => ⟨h.1, h.2.mono (fun _ x => x.elim) (Nat.le_refl _)⟩)
  · have hp := (rd_same hz h1).2.1
    refine ⟨mkS (stP zs (5, 0)) B5 B6 B7 bl B8 ys, by unfold aP; rw [if_pos h1, h1], hS.sst (fun l hl => (hp.pl l hl).1), hS.sb hp, fun W lo base GB K hW g l2 l3 hlo hih nb => ?_, .inr ⟨h1, hS.smp⟩⟩
    have h5 := hS.rs.lo
    exact (g.addSt l2 l3 (hS.stl.later hW) hp hlo hih nb).mono (fun e w' h => ⟨h.1, h.2.mono (fun k hk => ⟨by omega, hk.2⟩) (Nat.le_refl _)⟩)
theorem rdd_x {zs : List Int} (hz : ∀ z ∈ zs, 0 ≤ z ∧ z ≤ 255) {w w' : World} {e : Ending} (h : RdD zs w e w') : Below w.heap.size w w' ∧ ∃ x, e = .returned (.tuple #[.agg (stAr x), .int .i64 (rdE zs).1, .int .i64 (aP zs)]) ∧ SSt w' x ∧ SB x ∧ SmQ zs x := by
  obtain ⟨hb, h⟩ := h
  refine ⟨hb, ?_⟩
  rcases h with ⟨h1, rfl⟩ | ⟨h1, s, rfl, hS, hm⟩
  · exact ⟨zM, by unfold aP; rw [if_neg h1], zM_sst _, zM_sb, .inl ⟨h1, rfl⟩⟩
  · have hp := (rd_same hz h1).2.1
    exact ⟨s, by unfold aP; rw [if_pos h1, h1], hS, smp_sb hm hS hp, .inr ⟨h1, hm⟩⟩
theorem wide_seg {w : World} {B n : Nat} {zs : List Int} (h : Row w 5 B (n + 64) (n + 64) (bytesL (wdB n (fun j => zs.getD j 0)) (n + 64))) (hl : zs.length = n) (hn : n ≤ 1048576) (hz : ∀ z ∈ zs, 0 ≤ z ∧ z ≤ 255) : Seg w (some ⟨B, 0, none⟩) n (n + 64) zs := by
  refine ⟨hl, by omega, by omega, hz, .inr ⟨B, 0, rfl, fun j hj => ?_⟩⟩
  rw [Nat.zero_add, h.cell j (by omega), bytesL_get _ _ _ (by omega)]
  unfold wdB
  rw [if_pos hj]
def Cs8 (W : World) (b : Nat) (x : StM) : Prop := W.cell? ⟨b, 0, none⟩ = some (.slice x.fa x.fn x.fc) ∧ W.cell? ⟨b, 1, none⟩ = some (.slice x.ga x.gn x.gc) ∧ W.cell? ⟨b, 2, none⟩ = some (.slice x.pa x.pn x.pc) ∧ W.cell? ⟨b, 3, none⟩ = some (.int .i64 x.rep) ∧ W.cell? ⟨b, 4, none⟩ = some (.int .i8 x.en) ∧ W.cell? ⟨b, 5, none⟩ = some (.slice x.ra x.rn x.rc) ∧ W.cell? ⟨b, 6, none⟩ = some (.int .i8 x.tr) ∧ W.cell? ⟨b, 7, none⟩ = some (.int .i64 x.us)
theorem cs8 {w W : World} {x : StM} (hb : Below (w.alloc (stO x)).heap.size (w.alloc (stO x)) W) : Cs8 W w.heap.size x := by
  have k := nb_new w (stO x)
  exact ⟨later_cell hb (cell_at k), later_cell hb (cell_at k), later_cell hb (cell_at k), later_cell hb (cell_at k), later_cell hb (cell_at k), later_cell hb (cell_at k), later_cell hb (cell_at k), later_cell hb (cell_at k)⟩
set_option maxHeartbeats 4000000 in
theorem rds_big (a : Option Addr) (n c : Nat) (w : World) (hn : 1048576 < n) :
    Calls Tryd.prog 4 #[.slice a n c] w fun e w' => e = .returned (.bool true) ∧ Below w.heap.size w w' := by
  have HW := hid (works5 w)
  have hn' : (1048576 : Int) < (n : Int) := by omega
  go_enter Tryd.func4, Tryd.ntmps4
  go_wp2_with fail
  refine HW.out.mono ?_
  rintro e w1 ⟨rfl, hb1⟩
  have B1 := hid hb1
  clear hb1
  go_wp2_with fail
  go_ret
  exact ⟨rfl, B1.out⟩
set_option maxHeartbeats 16000000 in
theorem rds4 (TB : Nat) (a : Option Addr) (n c : Nat) (zs : List Int) (w : World) (h : Seg w a n c zs) (hn : n ≤ 1048576) (ht : Tens TB w) (hTB : TB ≤ w.heap.size) :
    Calls Tryd.prog 4 #[.slice a n c] w fun e w' => e = .returned (.bool true) ∧ Below w.heap.size w w' := by
  have hz := h.2.2.2.1
  have hl := h.1
  have HW := hid (works5 w)
  have hn' : ¬ (1048576 : Int) < (n : Int) := by omega
  have H := hid h
  have HZ := hid hz
  have HL := hid hl
  have HT := hid (fun (W : World) (hb : Below w.heap.size w W) => ht.later (hb.mono hTB))
  have HSG := hid (fun (W : World) (hb : Below w.heap.size w W) => h.later hb (Nat.le_refl _))
  clear h hz hl ht
  go_enter Tryd.func4, Tryd.ntmps4
  go_wp2_with fail
  refine HW.out.mono ?_
  rintro e w1 ⟨rfl, hb1⟩
  have B1 := hid hb1
  have WD := hid (wideB (.slice a n c) n (fun j => zs.getD j 0) w1 (by
    have hs := HSG.out w1 hb1
    exact ⟨a, c, rfl, hs.2.1, by omega, hs.2.2.2.2⟩) (by omega))
  clear hb1 HW
  go_wp2_with fail
  refine WD.out.mono ?_
  rintro e w2 ⟨Bk, rfl, hBk, hrow, hb2⟩
  have B2 := hid (B1.out.trans (hb2.mono B1.out.size))
  have RW := hid hrow
  have hBl := hrow.lt
  have SK := hid (fun (W : World) (hb : Below w2.heap.size w2 W) => (wide_seg RW.out HL.out hn HZ.out).later hb (Nat.le_refl _))
  have R1 := hid (read8 (some ⟨Bk, 0, none⟩) n (n + 64) zs w2 (SK.out w2 (Below.refl _ _)))
  clear hb2 hrow WD hBk
  go_wp2_with fail
  refine R1.out.mono ?_
  rintro e w3 hr
  obtain ⟨hb3, x, rfl, hsx, hbx, hax, hqx⟩ := rda_x HZ.out hr
  obtain ⟨er, her⟩ : ∃ er, (rdE zs).1 = er := ⟨_, rfl⟩
  obtain ⟨ap, hap⟩ : ∃ ap, aP zs = ap := ⟨_, rfl⟩
  rw [her, hap]
  have HER := hid her
  have HAP := hid hap
  have b3 := below_new w3 (stO x)
  have B3 := hid hb3
  have BA3 := hid (hb3.trans (b3.mono hb3.size))
  have HXC := hid (fun (W : World) (hb : Below (w3.alloc (stO x)).heap.size (w3.alloc (stO x)) W) => cs8 hb)
  have HXS := hid (fun (W : World) (hb : Below (w3.alloc (stO x)).heap.size (w3.alloc (stO x)) W) => (hsx.later b3).later hb)
  have HXB := hid hbx
  have HXA := hid hax
  have HXL := hid (fun (W : World) (hb : Below (w3.alloc (stO x)).heap.size (w3.alloc (stO x)) W) => b3.trans (hb.mono b3.size))
  have HXQ := hid hqx
  have SZ3 := hid (show (w3.alloc (stO x)).heap.size = w3.heap.size + 1 by simp)
  have R2 := hid (read8 (some ⟨Bk, 0, none⟩) n (n + 64) zs (w3.alloc (stO x)) (SK.out _ BA3.out))
  clear hr hb3 hsx hbx hax hqx her hap b3 R1
  go_wp2_with fail
  generalize w3.alloc (stO x) = W3 at *
  refine R2.out.mono ?_
  rintro e w4 hr
  obtain ⟨hb4, y, rfl, hsy, hby, hay, hqy⟩ := rda_x HZ.out hr
  rw [HER.out, HAP.out]
  have b4 := below_new w4 (stO y)
  have B4 := hid hb4
  have BA4 := hid (hb4.trans (b4.mono hb4.size))
  have HYC := hid (fun (W : World) (hb : Below (w4.alloc (stO y)).heap.size (w4.alloc (stO y)) W) => cs8 hb)
  have HYS := hid (fun (W : World) (hb : Below (w4.alloc (stO y)).heap.size (w4.alloc (stO y)) W) => (hsy.later b4).later hb)
  have HYB := hid hby
  have HYA := hid hay
  have HYL := hid (fun (W : World) (hb : Below (w4.alloc (stO y)).heap.size (w4.alloc (stO y)) W) => b4.trans (hb.mono b4.size))
  have HYQ := hid hqy
  have SZ4 := hid (show (w4.alloc (stO y)).heap.size = w4.heap.size + 1 by simp)
  have L4 := hid (fun (W : World) (hb : Below (w4.alloc (stO y)).heap.size (w4.alloc (stO y)) W) => BA4.out.trans (hb.mono BA4.out.size))
  have LW4 := hid (fun (W : World) (hb : Below (w4.alloc (stO y)).heap.size (w4.alloc (stO y)) W) => (show Below w.heap.size w W from by
    have h1 := B2.out.trans (BA3.out.mono B2.out.size)
    have h2 := h1.trans (BA4.out.mono h1.size)
    exact h2.trans (hb.mono h2.size)))
  have R3 := hid (rread17 a n c zs (w4.alloc (stO y)) (HSG.out _ (LW4.out _ (Below.refl _ _))))
  clear hr hb4 hsy hby hay hqy b4 R2
  go_wp2_with fail
  generalize w4.alloc (stO y) = W4 at *
  refine R3.out.mono ?_
  rintro e w5 hr
  obtain ⟨hb5, t, rfl, hst, hbt, hqt⟩ := rdd_x HZ.out hr
  rw [HER.out, HAP.out]
  have b5 := below_new w5 (stO t)
  have BA5 := hid (hb5.trans (b5.mono hb5.size))
  have HTC := hid (fun (W : World) (hb : Below (w5.alloc (stO t)).heap.size (w5.alloc (stO t)) W) => cs8 hb)
  have HTS := hid (fun (W : World) (hb : Below (w5.alloc (stO t)).heap.size (w5.alloc (stO t)) W) => (hst.later b5).later hb)
  have HTB := hid hbt
  have HTX := hid (smq_same HXQ.out hqt)
  have HTY := hid (smq_same HYQ.out hqt)
  have L5 := hid (fun (W : World) (hb : Below (w5.alloc (stO t)).heap.size (w5.alloc (stO t)) W) => BA5.out.trans (hb.mono BA5.out.size))
  clear hr hb5 hst hbt hqt b5 R3 HXQ HYQ HER HAP
  go_upto_region 8 with fail
  generalize w5.alloc (stO t) = W5 at *
  have b6 := below_new W5 bagO
  have B6 := hid b6
  have hs2 := BA3.out.size
  have hs3 := BA4.out.size
  have hs4 := BA5.out.size
  have hz3 := SZ3.out
  have hz4 := SZ4.out
  have hs33 := B3.out.size
  have hs44 := B4.out.size
  have hw2 := B2.out.size
  have SZ6 := hid (show (W5.alloc bagO).heap.size = W5.heap.size + 1 by simp)
  have G0 := hid (bagK (w := W5) (lo := w2.heap.size) (by omega))
  have A1 := hid (HXA.out (W5.alloc bagO) w2.heap.size W5.heap.size W5.heap.size K0 (HXL.out _ (L4.out _ (L5.out _ b6))) G0.out (by show 0 < 300; omega) (by show 0 + 2 < 300; omega) (Nat.le_refl _) (by have := SZ6.out; omega) (fun k h1 h2 hx => by have := BF0 hx; omega))
  obtain ⟨c0, c1, c2, c3, c4, c5, c6, c7⟩ := HXC.out _ (L4.out _ (L5.out _ b6))
  clear b6 G0 HXA
  go_wp2_with fail
  generalize W5.alloc bagO = W6 at *
  refine A1.out.mono ?_
  rintro e w7 ⟨rfl, hx7⟩
  obtain ⟨K1, g1, k1, f1, o1, n1, _⟩ := hx7.go
  have kb : ∀ k, BW W5.heap.size K0 k → W5.heap.size ≤ k := fun k hk => by have := BF0 hk.bf; omega
  have B7 := hid (show Below W5.heap.size W5 w7 from B6.out.trans (k1.to_below B6.out.size (fun k hk hx => by have := kb k hx; omega)))
  have A2 := hid (HYA.out w7 w2.heap.size W5.heap.size W5.heap.size K1 (HYL.out _ (L5.out _ B7.out)) g1 (by have h1 := n1 2 (by omega); have h2 : (K0 2).2.length = 0 := rfl; omega) (by have h1 := n1 3 (by omega); have h2 : (K0 3).2.length = 0 := rfl; omega) (by omega) (by have := B7.out.size; omega) (fun k h1 h2 hx => by
    have h6 := SZ6.out
    rcases f1 k hx with y | y | y
    · have := BF0 y; omega
    · omega
    · omega))
  have G1 := hid g1
  clear c0 c1 c2 c3 c4 c5 c6 c7
  obtain ⟨c0, c1, c2, c3, c4, c5, c6, c7⟩ := HYC.out _ (L5.out _ B7.out)
  clear hx7 g1 k1 f1 o1 n1 kb A1 HYA
  go_wp2_with fail
  refine A2.out.mono ?_
  rintro e w8 ⟨rfl, hx8⟩
  obtain ⟨K2, g2, k2, f2, o2, n2, _⟩ := hx8.go
  have B8 := hid (show Below W5.heap.size W5 w8 from B7.out.trans (k2.to_below B7.out.size (fun k hk hx => by have := G1.out.bob hx; omega)))
  have G2 := hid g2
  have E1 := hid (eqS7 x t w8 (HXS.out _ (L4.out _ (L5.out _ B8.out))) (HTS.out _ B8.out) HXB.out HTB.out)
  rw [HTX.out] at E1
  clear c0 c1 c2 c3 c4 c5 c6 c7
  obtain ⟨c0, c1, c2, c3, c4, c5, c6, c7⟩ := HXC.out _ (L4.out _ (L5.out _ B8.out))
  obtain ⟨d0, d1, d2, d3, d4, d5, d6, d7⟩ := HTC.out _ B8.out
  clear hx8 g2 k2 f2 o2 n2 A2 G1 HTX
  go_wp2_with fail
  refine E1.out.mono ?_
  rintro e w9 ⟨rfl, hb9⟩
  have B9 := hid (B8.out.trans (hb9.mono B8.out.size))
  have G3 := hid (G2.out.kept (S := fun _ => False) (kept_bel hb9) (fun _ _ h => h))
  have E2 := hid (eqS7 y t w9 (HYS.out _ (L5.out _ B9.out)) (HTS.out _ B9.out) HYB.out HTB.out)
  rw [HTY.out] at E2
  clear c0 c1 c2 c3 c4 c5 c6 c7
  clear d0 d1 d2 d3 d4 d5 d6 d7
  obtain ⟨c0, c1, c2, c3, c4, c5, c6, c7⟩ := HYC.out _ (L5.out _ B9.out)
  obtain ⟨d0, d1, d2, d3, d4, d5, d6, d7⟩ := HTC.out _ B9.out
  clear hb9 E1 G2 HTY
  go_wp2_with fail
  refine E2.out.mono ?_
  rintro e w10 ⟨rfl, hb10⟩
  have B10 := hid (B9.out.trans (hb10.mono B9.out.size))
  have G4 := hid (G3.out.kept (S := fun _ => False) (kept_bel hb10) (fun _ _ h => h))
  have AP := hid (G4.out.apart (HT.out _ (LW4.out _ (L5.out _ B10.out))) (by omega))
  clear c0 c1 c2 c3 c4 c5 c6 c7
  clear d0 d1 d2 d3 d4 d5 d6 d7
  clear hb10 E2 G3
  go_wp2_with fail
  refine AP.out.mono ?_
  rintro e w11 ⟨rfl, hk11⟩
  have B11 := hid (show Below w2.heap.size w2 w11 from by
    have h1 := BA3.out.trans ((L4.out _ (L5.out _ B10.out)).mono BA3.out.size)
    exact h1.trans (hk11.to_below h1.size (fun k hk hx => by have := G4.out.low hx; omega)))
  have BW11 := hid (B2.out.trans (B11.out.mono B2.out.size))
  have hzz : lE iE zs zs = true := by rw [lE_int]; simp
  have Q1 := hid (eqI39 (some ⟨Bk, 0, none⟩) a n n (n + 64) c zs zs w11 (SK.out _ B11.out).toSI (HSG.out _ BW11.out).toSI (by omega))
  rw [hzz] at Q1
  clear hk11 AP G4 hzz
  go_wp2_with fail
  refine Q1.out.mono ?_
  rintro e w12 ⟨rfl, hb12⟩
  have B12 := hid (B11.out.trans (hb12.mono B11.out.size))
  have BW12 := hid (B2.out.trans (B12.out.mono B2.out.size))
  have SP := hid (spareB Bk n (fun j => zs.getD j 0) w12 (by omega) (RW.out.kept (S := fun _ => False) (kept_bel B12.out) id))
  clear hb12 Q1
  go_wp2_with fail
  refine SP.out.mono ?_
  rintro e w13 ⟨rfl, hw⟩
  have hw' := hw.symm; subst hw'; clear hw
  go_wp2_with fail
  go_ret
  exact ⟨rfl, BW12.out⟩
end Go.Proofs.YtbdjghokedfkfaaDoor
