/-
  SnapWrites' law.
-/
import Derived.Test.YtbdjghokedfkfaaDoorGb
namespace Go.Proofs.YtbdjghokedfkfaaDoor
open Go.RowKit
set_option linter.unusedVariables false
set_option maxRecDepth 100000

theorem szW_of {x : StM} (h : SC x) (hr : SR x) (pc : x.pn ≤ x.pc) : SzW x := ⟨h.f, h.g, h.p, h.r, h.fb, fun p hp => ⟨hr.pc p hp, h.pb p hp⟩, pc⟩
theorem buf_row {w : World} {g n cap : Nat} {xs : List Value} (h : Buf w g n cap xs) (hn : 5 < n) : Row w 5 g n cap xs := by
  rcases h with h | ⟨_, h, _⟩
  · exact h
  · omega
/-- Write's answer of a state that holds what another one holds. -/
theorem wra_pl {x y : StM} {w0 w w' : World} {e : Ending} (hS : SSt w0 x) (hx : RgS x) (hy : RgS y) (he : plS y = plS x) (h : WrA y w e w') : Below w.heap.size w w' ∧ (¬ MayS x ∧ e = .returned (.tuple #[.slice none 0 0, .int .i64 44]) ∨ MayS x ∧ ∃ B cap, e = .returned (.tuple #[.slice (some ⟨B, 0, none⟩) (mgc ++ encS x).length cap, .int .i64 0]) ∧ Buf w' B (mgc ++ encS x).length cap ((mgc ++ encS x).map (Value.int .u8)) ∧ w.heap.size ≤ B) := by
  obtain ⟨hb, hor⟩ := h
  refine ⟨hb, ?_⟩
  have hp := wrV_pl hy hx he
  have hm := may_ok hS hx
  have ho := wrV_ok hx
  rcases hor with ⟨h1, h2⟩ | ⟨h1, B, cap, h2, h3, h4⟩
  · refine .inl ⟨fun hh => ?_, h2⟩
    have := ho.2 (hm.1 hh)
    rw [hp.1, this] at h1
    cases h1
  · have h5 : (wrV x).2 = false := by rw [← hp.1]; exact h1
    have h6 : (wrV y).1 = mgc ++ encS x := by rw [hp.2 h1, wr_of (ho.1 h5) hx]
    rw [h6] at h2 h3
    exact .inr ⟨hm.2 (ho.1 h5), B, cap, h2, h3, h4⟩
theorem enc_len {x : StM} {w : World} (hS : SSt w x) (hx : RgS x) (h : MayS x) : 5 < (mgc ++ encS x).length ∧ (mgc ++ encS x).length ≤ 524288 := by
  have ho := (may_ok hS hx).1 h
  have hf := (wrV_ok hx).2 ho
  have hs := wr_short x hf hx
  have e : (wrV x).1 = mgc ++ encS x := by rw [wr_of ho hx]
  rw [e] at hs
  refine ⟨?_, hs.2⟩
  have l1 : mgc.length = 5 := rfl
  have l2 : 0 < (encS x).length := by unfold encS; simp
  rw [List.length_append]
  omega
set_option maxHeartbeats 16000000 in
theorem wrt3 (TB : Nat) (x : StM) (w : World) (hS : SSt w x) (ms : SM x) (ys : BY x) (rs : SR x) (gs : RgS x) (pc : x.pn ≤ x.pc) (ht : Tens TB w) (hTB : TB ≤ w.heap.size) :
    Calls Tryd.prog 3 #[.agg (stAr x)] w fun e w' => e = .returned (.bool true) ∧ Below w.heap.size w w' := by
  have b1 := below_new w (stO x)
  have k1 := nb_new w (stO x)
  have HC := hid (fun (W : World) (hb : Below (w.alloc (stO x)).heap.size (w.alloc (stO x)) W) => (⟨later_cell hb (cell_at k1), later_cell hb (cell_at k1), later_cell hb (cell_at k1), later_cell hb (cell_at k1), later_cell hb (cell_at k1), later_cell hb (cell_at k1), later_cell hb (cell_at k1), later_cell hb (cell_at k1)⟩ : W.cell? ⟨w.heap.size, 0, none⟩ = some (.slice x.fa x.fn x.fc) ∧ W.cell? ⟨w.heap.size, 1, none⟩ = some (.slice x.ga x.gn x.gc) ∧ W.cell? ⟨w.heap.size, 2, none⟩ = some (.slice x.pa x.pn x.pc) ∧ W.cell? ⟨w.heap.size, 3, none⟩ = some (.int .i64 x.rep) ∧ W.cell? ⟨w.heap.size, 4, none⟩ = some (.int .i8 x.en) ∧ W.cell? ⟨w.heap.size, 5, none⟩ = some (.slice x.ra x.rn x.rc) ∧ W.cell? ⟨w.heap.size, 6, none⟩ = some (.int .i8 x.tr) ∧ W.cell? ⟨w.heap.size, 7, none⟩ = some (.int .i64 x.us)))
  have HS := hid (fun (W : World) (hb : Below (w.alloc (stO x)).heap.size (w.alloc (stO x)) W) => (hS.later b1).later hb)
  have HT := hid (fun (W : World) (hb : Below (w.alloc (stO x)).heap.size (w.alloc (stO x)) W) => (show Tens TB W ∧ TB ≤ W.heap.size from ⟨ht.later ((b1.trans (hb.mono b1.size)).mono hTB), Nat.le_trans hTB (Nat.le_trans b1.size hb.size)⟩))
  have HW := hid (works5 (w.alloc (stO x)))
  have HB1 := hid b1
  have HS0 := hid hS
  have MS := hid ms
  have YS := hid ys
  have RS := hid rs
  have GS := hid gs
  have PC := hid pc
  clear b1 k1 hS ht ms ys rs gs pc
  go_enter Tryd.func3, Tryd.ntmps3
  go_wp2_with fail
  generalize w.alloc (stO x) = W1 at *
  refine HW.out.mono ?_
  rintro e w3 ⟨rfl, hb3⟩
  obtain ⟨c0, c1, c2, c3, c4, c5, c6, c7⟩ := HC.out _ hb3
  have B3 := hid hb3
  have Z1 := hid (siz13 x w3 (HS.out w3 hb3) MS.out)
  clear hb3 HW
  go_wp2_with fail
  refine Z1.out.mono ?_
  rintro e w4 ⟨z1, rfl, hz1, hb4⟩
  have B4 := hid (B3.out.trans (hb4.mono B3.out.size))
  have HZ1 := hid hz1
  clear c0 c1 c2 c3 c4 c5 c6 c7
  clear hb4 Z1 hz1
  by_cases q1 : 1048576 < z1
  · have q1' : (1048576 : Int) < (z1 : Int) := by omega
    go_wp2_with fail
    go_ret
    exact ⟨rfl, HB1.out.trans (B4.out.mono HB1.out.size)⟩
  have q1' : ¬ (1048576 : Int) < (z1 : Int) := by omega
  have SC1 := hid (HZ1.out (by omega))
  have SBX := hid (sb_of SC1.out YS.out)
  have SZX := hid (szW_of SC1.out RS.out PC.out)
  obtain ⟨c0, c1, c2, c3, c4, c5, c6, c7⟩ := HC.out _ B4.out
  have WD := hid (wideS TB x w4 (HS.out w4 B4.out) SZX.out (HT.out w4 B4.out).1 (HT.out w4 B4.out).2)
  clear HZ1 SC1
  go_wp2_with fail
  refine WD.out.mono ?_
  rintro e w5 ⟨BF, fy, BG, BP, QF, CF, BR, rfl, hwd, _, _, _, _, hb5⟩
  obtain ⟨y, hy⟩ : ∃ y, y = wdS x BF fy BG BP QF BR := ⟨_, rfl⟩
  rw [← hy]
  have b6 := below_new w5 (stO y)
  have k6 := nb_new w5 (stO y)
  have B5 := hid (B4.out.trans (hb5.mono B4.out.size))
  have B6 := hid (B5.out.trans (b6.mono B5.out.size))
  have HYC := hid (fun (W : World) (hb : Below (w5.alloc (stO y)).heap.size (w5.alloc (stO y)) W) => (⟨later_cell hb (cell_at k6), later_cell hb (cell_at k6), later_cell hb (cell_at k6), later_cell hb (cell_at k6), later_cell hb (cell_at k6), later_cell hb (cell_at k6), later_cell hb (cell_at k6), later_cell hb (cell_at k6)⟩ : W.cell? ⟨w5.heap.size, 0, none⟩ = some (.slice y.fa y.fn y.fc) ∧ W.cell? ⟨w5.heap.size, 1, none⟩ = some (.slice y.ga y.gn y.gc) ∧ W.cell? ⟨w5.heap.size, 2, none⟩ = some (.slice y.pa y.pn y.pc) ∧ W.cell? ⟨w5.heap.size, 3, none⟩ = some (.int .i64 y.rep) ∧ W.cell? ⟨w5.heap.size, 4, none⟩ = some (.int .i8 y.en) ∧ W.cell? ⟨w5.heap.size, 5, none⟩ = some (.slice y.ra y.rn y.rc) ∧ W.cell? ⟨w5.heap.size, 6, none⟩ = some (.int .i8 y.tr) ∧ W.cell? ⟨w5.heap.size, 7, none⟩ = some (.int .i64 y.us)))
  have HYD := hid (fun (W : World) (hb : Below (w5.alloc (stO y)).heap.size (w5.alloc (stO y)) W) => (hwd.later b6).later hb)
  have HYS := hid (fun (W : World) (hb : Below (w5.alloc (stO y)).heap.size (w5.alloc (stO y)) W) => (show SSt W y from hy ▸ (HYD.out W hb).sst HS0.out))
  have HYB := hid (show SB y from hy ▸ hwd.sb SBX.out)
  have HYR := hid (show SR y from hy ▸ hwd.sr RS.out)
  have HYG := hid (show RgS y from hy ▸ hwd.rg (w0 := w) GS.out)
  have HYP := hid (show plS y = plS x from hy ▸ hwd.pl HS0.out)
  have HYE := hid (show stE y x = true from (stE_is y x).2 HYP.out)
  have HSP := hid (fun (W : World) (hb : Below (w5.alloc (stO y)).heap.size (w5.alloc (stO y)) W) (h1 : Tens TB W) (h2 : TB ≤ W.heap.size) => (show Calls Tryd.prog 14 #[.agg (stAr y)] W fun e w' => e = .returned (.bool true) ∧ Below W.heap.size W w' from hy ▸ spareS TB w4.heap.size x BF fy BG BP QF CF BR W (HYD.out W hb) SZX.out h1 h2))
  have HWY := hid (fun (W : World) (hb : Below (w5.alloc (stO y)).heap.size (w5.alloc (stO y)) W) => (write7 y W (HYS.out W hb) HYB.out HYR.out).mono (fun e w' h => wra_pl HS0.out GS.out HYG.out HYP.out h))
  have HRW := hid (fun (W : World) (hb : Below W1.heap.size W1 W) => rwrite9 x W (HS.out W hb) GS.out)
  have L6 := hid (Below.refl (w5.alloc (stO y)).heap.size (w5.alloc (stO y)))
  have BX := hid (fun (W : World) (hb : Below (w5.alloc (stO y)).heap.size (w5.alloc (stO y)) W) => B6.out.trans (hb.mono B6.out.size))
  clear c0 c1 c2 c3 c4 c5 c6 c7
  clear hwd hb5 hy b6 k6 WD HYD B5
  obtain ⟨c0, c1, c2, c3, c4, c5, c6, c7⟩ := HYC.out _ L6.out
  go_wp2_with fail
  generalize w5.alloc (stO y) = W6 at *
  have N7 := hid (HWY.out W6 L6.out)
  refine N7.out.mono ?_
  rintro e w7 ⟨hb7, hor7⟩
  have L7 := hid (L6.out.trans (hb7.mono L6.out.size))
  clear c0 c1 c2 c3 c4 c5 c6 c7
  obtain ⟨c0, c1, c2, c3, c4, c5, c6, c7⟩ := HYC.out _ L7.out
  have N8 := hid (HWY.out w7 L7.out)
  clear N7
  rcases hor7 with ⟨hnm, rfl⟩ | ⟨hm, A, ca, rfl, bfa, hA⟩
  · have NM := hid hnm
    clear hb7 hnm
    go_wp2_with fail
    refine N8.out.mono ?_
    rintro e w8 ⟨hb8, hor8⟩
    rcases hor8 with ⟨_, rfl⟩ | ⟨hm, _⟩
    · have L8 := hid (L7.out.trans (hb8.mono L7.out.size))
      clear c0 c1 c2 c3 c4 c5 c6 c7
      obtain ⟨c0, c1, c2, c3, c4, c5, c6, c7⟩ := HC.out _ (BX.out _ L8.out)
      have N9 := hid (HRW.out w8 (BX.out _ L8.out))
      clear hb8 N8
      go_wp2_with fail
      refine N9.out.mono ?_
      rintro e w9 ⟨hb9, hor9⟩
      rcases hor9 with ⟨_, rfl⟩ | ⟨hm, _⟩
      · have L9 := hid (L8.out.trans (hb9.mono L8.out.size))
        have b10 := below_new w9 bagO
        have L10 := hid (L9.out.trans (b10.mono L9.out.size))
        have G0 := hid (bag1 (w := w9) (lo := W6.heap.size) L9.out.size)
        have hsz : (w9.alloc bagO).heap.size = w9.heap.size + 1 := by simp
        have A1 := hid (G0.out.add ⟨none, 0, 0⟩ (.inr ⟨rfl, rfl, rfl⟩) (by show 0 ≤ _; omega) (fun k hk => (by cases hk)) (by show 0 < 300; omega))
        clear c0 c1 c2 c3 c4 c5 c6 c7
        clear hb9 N9 b10
        go_wp2_with fail
        generalize w9.alloc bagO = W10 at *
        refine A1.out.mono ?_
        rintro e w11 ⟨rfl, v1, g1, hk1, ho1⟩
        have L11 := hid (L10.out.trans (hk1.to_below L10.out.size (fun k hk e => by
          have hl := G0.out.low (k := k) (e.elim .inl (fun e => .inr (.inl e)))
          omega)))
        have G1 := hid g1
        have A2 := hid (g1.add ⟨none, 0, 0⟩ (.inr ⟨rfl, rfl, rfl⟩) (by show 0 ≤ _; omega) (fun k hk => (by cases hk)) (by show 1 < 300; omega))
        clear g1 hk1 ho1 A1
        go_wp2_with fail
        refine A2.out.mono ?_
        rintro e w12 ⟨rfl, v2, g2, hk2, ho2⟩
        have L12 := hid (L11.out.trans (hk2.to_below L11.out.size (fun k hk e => by
          have hl := G1.out.low (k := k) (e.elim .inl (fun e => .inr (.inl e)))
          omega)))
        have G2 := hid g2
        have Q1 := hid (fun (W : World) => eqI39 none none 0 0 0 0 [] [] W ⟨rfl, .inl rfl⟩ ⟨rfl, .inl rfl⟩ (by omega))
        rw [show lE iE ([] : List Int) [] = true from rfl] at Q1
        clear g2 hk2 ho2 A2 G1
        go_wp2_with fail
        refine (Q1.out w12).mono ?_
        rintro e w13 ⟨rfl, hb13⟩
        have G3 := hid (G2.out.kept (S := fun _ => False) (kept_bel hb13) (fun _ _ h => h))
        have L13 := hid (L12.out.trans (hb13.mono L12.out.size))
        clear hb13 G2
        go_wp2_with fail
        refine (Q1.out w13).mono ?_
        rintro e w14 ⟨rfl, hb14⟩
        have G4 := hid (G3.out.kept (S := fun _ => False) (kept_bel hb14) (fun _ _ h => h))
        have L14 := hid (L13.out.trans (hb14.mono L13.out.size))
        clear hb14 G3 Q1
        have AP := hid (G4.out.apart (by show 2 ≤ 300; omega))
        go_wp2_with fail
        refine AP.out.mono ?_
        rintro e w15 ⟨rfl, hk15⟩
        have L15 := hid (L14.out.trans (hk15.to_below L14.out.size (fun k hk e => by
          have hl := G4.out.low e
          omega)))
        have EQ := hid (eqS7 y x w15 (HYS.out _ L15.out) (HS.out _ (BX.out _ L15.out)) HYB.out SBX.out)
        rw [HYE.out] at EQ
        obtain ⟨c0, c1, c2, c3, c4, c5, c6, c7⟩ := HYC.out _ L15.out
        obtain ⟨d0, d1, d2, d3, d4, d5, d6, d7⟩ := HC.out _ (BX.out _ L15.out)
        clear hk15 AP
        go_wp2_with fail
        refine EQ.out.mono ?_
        rintro e w16 ⟨rfl, hb16⟩
        have L16 := hid (L15.out.trans (hb16.mono L15.out.size))
        have SP := hid (HSP.out w16 L16.out (HT.out w16 (BX.out _ L16.out)).1 (HT.out w16 (BX.out _ L16.out)).2)
        clear c0 c1 c2 c3 c4 c5 c6 c7
        clear d0 d1 d2 d3 d4 d5 d6 d7
        obtain ⟨c0, c1, c2, c3, c4, c5, c6, c7⟩ := HYC.out _ L16.out
        clear hb16 EQ
        go_wp2_with fail
        refine SP.out.mono ?_
        rintro e w17 ⟨rfl, hb17⟩
        have L17 := hid (L16.out.trans (hb17.mono L16.out.size))
        clear hb17 SP
        go_wp2_with fail
        go_ret
        exact ⟨rfl, HB1.out.trans ((BX.out _ L17.out).mono HB1.out.size)⟩
      · exact absurd hm NM.out
    · exact absurd hm NM.out
  · have HM := hid hm
    have LN := hid (enc_len HS0.out GS.out hm)
    have BA := hid bfa
    have LA := hid (And.intro hA bfa.lt)
    clear hb7 hm bfa hA
    obtain ⟨zs, hzs⟩ : ∃ zs, mgc ++ encS x = zs := ⟨_, rfl⟩
    rw [hzs] at BA LN N8 ⊢
    have EZ := hid hzs
    clear hzs
    obtain ⟨n, hn⟩ : ∃ n, zs.length = n := ⟨_, rfl⟩
    rw [hn] at BA LN N8 ⊢
    have EN := hid hn
    clear hn
    go_wp2_with fail
    refine N8.out.mono ?_
    rintro e w8 ⟨hb8, hor8⟩
    rcases hor8 with ⟨hnm, _⟩ | ⟨_, Bb, cb, rfl, bfb, hBb⟩
    · exact absurd HM.out hnm
    have L8 := hid (L7.out.trans (hb8.mono L7.out.size))
    have BA8 := hid (BA.out.kept (S := fun _ => False) (kept_bel hb8) id)
    have BB8 := hid bfb
    have LB := hid (And.intro hBb bfb.lt)
    clear c0 c1 c2 c3 c4 c5 c6 c7
    obtain ⟨c0, c1, c2, c3, c4, c5, c6, c7⟩ := HC.out _ (BX.out _ L8.out)
    have N9 := hid (HRW.out w8 (BX.out _ L8.out))
    clear hb8 N8 bfb hBb BA
    go_wp2_with fail
    refine N9.out.mono ?_
    rintro e w9 ⟨hb9, hor9⟩
    rcases hor9 with ⟨hnm, _⟩ | ⟨_, vw, rfl, C, cc, hvw, bfc, hC⟩
    · exact absurd HM.out hnm
    rw [EZ.out, EN.out] at hvw bfc
    subst hvw
    have L9 := hid (L8.out.trans (hb9.mono L8.out.size))
    have b10 := below_new w9 bagO
    have L10 := hid (L9.out.trans (b10.mono L9.out.size))
    have BA10 := hid ((BA8.out.kept (S := fun _ => False) (kept_bel hb9) id).kept (S := fun _ => False) (kept_bel b10) id)
    have BB10 := hid ((BB8.out.kept (S := fun _ => False) (kept_bel hb9) id).kept (S := fun _ => False) (kept_bel b10) id)
    have BC10 := hid (bfc.kept (S := fun _ => False) (kept_bel b10) id)
    have hsz : (w9.alloc bagO).heap.size = w9.heap.size + 1 := by simp
    have LC := hid (And.intro hC bfc.lt)
    have h78 := LB.out.1
    have h89 := hb9.size
    have hln := LN.out
    have hA1 := LA.out
    have hB1 := LB.out
    have hC1 := LC.out
    have h6 := L7.out.size
    have G0 := hid (bag1 (w := w9) (lo := W6.heap.size) L9.out.size)
    have A1 := hid (G0.out.add ⟨some A, n, ca⟩ (.inl ⟨A, rfl, by omega, _, buf_row BA10.out hln.1⟩) (by show n ≤ _; omega) (fun k hk hx => by
      have hk : A = k := Option.some.inj hk
      rcases hx with hx | hx | ⟨p, hp, _⟩
      · omega
      · cases hx
      · cases hp) (by show 0 < 300; omega))
    clear c0 c1 c2 c3 c4 c5 c6 c7
    clear hb9 N9 b10 bfc hC BA8 BB8
    go_wp2_with fail
    generalize w9.alloc bagO = W10 at *
    refine A1.out.mono ?_
    rintro e w11 ⟨rfl, v1, g1, hk1, ho1⟩
    have nK1 : ∀ k, k < w9.heap.size → ¬ (k = w9.heap.size ∨ (Value.slice none 0 0).ownBlock = some k) := fun k hk h => by
      rcases h with h | h
      · omega
      · cases h
    have L11 := hid (L10.out.trans (hk1.to_below L10.out.size (fun k hk e => by
      have hl := G0.out.low (k := k) (e.elim .inl (fun e => .inr (.inl e)))
      omega)))
    have BA11 := hid (BA10.out.kept hk1 (nK1 A (by omega)))
    have BB11 := hid (BB10.out.kept hk1 (nK1 Bb (by omega)))
    have BC11 := hid (BC10.out.kept hk1 (nK1 C (by omega)))
    have nG1 : ∀ k, Bf1 w9.heap.size v1 ([] ++ [⟨some A, n, ca⟩]) k → k = w9.heap.size ∨ k = A ∨ W10.heap.size ≤ k := fun k hk => by
      rcases ho1 k hk with hx | hx | hx
      · rcases hx with hx | hx | ⟨p, hp, _⟩
        · exact .inl hx
        · cases hx
        · cases hp
      · exact .inr (.inl (Option.some.inj hx).symm)
      · exact .inr (.inr hx)
    have G1 := hid g1
    have A2 := hid (g1.add ⟨some Bb, n, cb⟩ (.inl ⟨Bb, rfl, by omega, _, buf_row BB11.out hln.1⟩) (by show n ≤ _; omega) (fun k hk hx => by
      have hk : Bb = k := Option.some.inj hk
      have := nG1 k hx
      omega) (by show 1 < 300; omega))
    have nK2 : ∀ k, k < w9.heap.size → v1.ownBlock ≠ some k → ¬ (k = w9.heap.size ∨ v1.ownBlock = some k) := fun k hk h1 h => by
      rcases h with h | h
      · omega
      · exact h1 h
    have vA : v1.ownBlock ≠ some A := g1.kB.row_ne (by decide) (p := ⟨some A, n, ca⟩) (by simp) rfl
    have vB : v1.ownBlock ≠ some Bb := fun h => by
      have := nG1 Bb (.inr (.inl h))
      omega
    have vC : v1.ownBlock ≠ some C := fun h => by
      have := nG1 C (.inr (.inl h))
      omega
    have NK2 := hid nK2
    have VA := hid vA
    have VB := hid vB
    have VC := hid vC
    clear g1 hk1 ho1 A1 nG1 nK1 nK2 vA vB vC BA10 BB10 BC10
    go_wp2_with fail
    refine A2.out.mono ?_
    rintro e w12 ⟨rfl, v2, g2, hk2, ho2⟩
    have L12 := hid (L11.out.trans (hk2.to_below L11.out.size (fun k hk e => by
      have hl := G1.out.low (k := k) (e.elim .inl (fun e => .inr (.inl e)))
      omega)))
    have G2 := hid g2
    have SA := hid (fun (W : World) (hW : Below w12.heap.size w12 W) => ((BA11.out.kept hk2 (NK2.out A (by omega) VA.out)).si EN.out).later hW)
    have SB := hid (fun (W : World) (hW : Below w12.heap.size w12 W) => ((BB11.out.kept hk2 (NK2.out Bb (by omega) VB.out)).si EN.out).later hW)
    have SC := hid (fun (W : World) (hW : Below w12.heap.size w12 W) => ((BC11.out.kept hk2 (NK2.out C (by omega) VC.out)).si EN.out).later hW)
    have hzz : lE iE zs zs = true := by rw [lE_int]; simp
    have Q1 := hid (eqI39 (some ⟨A, 0, none⟩) (some ⟨C, 0, none⟩) n n ca cc zs zs w12 (SA.out _ (Below.refl _ _)) (SC.out _ (Below.refl _ _)) (by omega))
    have Q2 := hid (fun (W : World) (hW : Below w12.heap.size w12 W) => eqI39 (some ⟨Bb, 0, none⟩) (some ⟨C, 0, none⟩) n n cb cc zs zs W (SB.out _ hW) (SC.out _ hW) (by omega))
    rw [hzz] at Q1 Q2
    clear g2 hk2 ho2 A2 G1 BA11 BB11 BC11 hzz VA VB VC NK2 SA SB SC
    go_wp2_with fail
    refine Q1.out.mono ?_
    rintro e w13 ⟨rfl, hb13⟩
    have G3 := hid (G2.out.kept (S := fun _ => False) (kept_bel hb13) (fun _ _ h => h))
    have L13 := hid (L12.out.trans (hb13.mono L12.out.size))
    have Q3 := hid (Q2.out w13 hb13)
    clear hb13 G2 Q1 Q2
    go_wp2_with fail
    refine Q3.out.mono ?_
    rintro e w14 ⟨rfl, hb14⟩
    have G4 := hid (G3.out.kept (S := fun _ => False) (kept_bel hb14) (fun _ _ h => h))
    have L14 := hid (L13.out.trans (hb14.mono L13.out.size))
    clear hb14 G3 Q3
    have AP := hid (G4.out.apart (by show 2 ≤ 300; omega))
    go_wp2_with fail
    refine AP.out.mono ?_
    rintro e w15 ⟨rfl, hk15⟩
    have L15 := hid (L14.out.trans (hk15.to_below L14.out.size (fun k hk e => by
      have hl := G4.out.low e
      omega)))
    have EQ := hid (eqS7 y x w15 (HYS.out _ L15.out) (HS.out _ (BX.out _ L15.out)) HYB.out SBX.out)
    rw [HYE.out] at EQ
    obtain ⟨c0, c1, c2, c3, c4, c5, c6, c7⟩ := HYC.out _ L15.out
    obtain ⟨d0, d1, d2, d3, d4, d5, d6, d7⟩ := HC.out _ (BX.out _ L15.out)
    clear hk15 AP
    go_wp2_with fail
    refine EQ.out.mono ?_
    rintro e w16 ⟨rfl, hb16⟩
    have L16 := hid (L15.out.trans (hb16.mono L15.out.size))
    have SP := hid (HSP.out w16 L16.out (HT.out w16 (BX.out _ L16.out)).1 (HT.out w16 (BX.out _ L16.out)).2)
    clear c0 c1 c2 c3 c4 c5 c6 c7
    clear d0 d1 d2 d3 d4 d5 d6 d7
    obtain ⟨c0, c1, c2, c3, c4, c5, c6, c7⟩ := HYC.out _ L16.out
    clear hb16 EQ
    go_wp2_with fail
    refine SP.out.mono ?_
    rintro e w17 ⟨rfl, hb17⟩
    have L17 := hid (L16.out.trans (hb17.mono L16.out.size))
    clear hb17 SP
    go_wp2_with fail
    go_ret
    exact ⟨rfl, HB1.out.trans ((BX.out _ L17.out).mono HB1.out.size)⟩
end Go.Proofs.YtbdjghokedfkfaaDoor
