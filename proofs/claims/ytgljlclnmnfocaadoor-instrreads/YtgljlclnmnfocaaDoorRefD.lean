/-
  The walk over the document's Decode.
-/
import Derived.Test.YtgljlclnmnfocaaDoorRefL
import Derived.Test.YtgljlclnmnfocaaDoorEqI
namespace Go.Proofs.YtgljlclnmnfocaaDoor
open Go.RowKit
set_option linter.unusedVariables false

set_option maxHeartbeats 1000000 in
theorem rdecode_out (a : Option Addr) (n cap : Nat) (p : Int) (w : World) (hn : n ≤ 1099511627776) (hp : p < 0 ∨ (n : Int) < p) :
    Calls Tryd.prog 20 #[.slice a n cap, .int .i64 p] w (DecPost w (0, 0, [], 0, 1)) := by
  unfold DecPost
  rcases hp with hp | hp
  · go_enter Tryd.func20, Tryd.ntmps20
    go_wp2_with fail
    refine bodyPost_ret (v := .tuple #[.agg #[.int .u8 0, .int .i64 0, .slice none 0 0], .int .i64 0, .int .i64 1]) (by simp [results, Tryd.results20, go_sem]) rfl ⟨.slice none 0 0, rfl, World.ownsRow_nil _ _ _ _, ?_⟩
    exact (Below.refl _ _).alloc (Nat.le_refl _) _
  · have h0 : ¬ p < 0 := by omega
    go_enter Tryd.func20, Tryd.ntmps20
    go_wp2_with fail
    refine bodyPost_ret (v := .tuple #[.agg #[.int .u8 0, .int .i64 0, .slice none 0 0], .int .i64 0, .int .i64 1]) (by simp [results, Tryd.results20, go_sem]) rfl ⟨.slice none 0 0, rfl, World.ownsRow_nil _ _ _ _, ?_⟩
    exact (Below.refl _ _).alloc (Nat.le_refl _) _

set_option maxHeartbeats 1000000 in
theorem rdecode_end (a : Option Addr) (n cap : Nat) (w : World) (hn : n ≤ 1099511627776) :
    Calls Tryd.prog 20 #[.slice a n cap, .int .i64 n] w (DecPost w (0, 0, [], 0, 10)) := by
  unfold DecPost
  have h0 : ¬ (n : Int) < 0 := by omega
  have h1 : ¬ (n : Int) < n := by omega
  have h2 : ((n : Int) == n) = true := by simp
  go_enter Tryd.func20, Tryd.ntmps20
  go_wp2_with fail
  refine bodyPost_ret (v := .tuple #[.agg #[.int .u8 0, .int .i64 0, .slice none 0 0], .int .i64 0, .int .i64 10]) (by simp [results, Tryd.results20, go_sem]) rfl ⟨.slice none 0 0, rfl, World.ownsRow_nil _ _ _ _, ?_⟩
  exact (Below.refl _ _).alloc (Nat.le_refl _) _

theorem chk_const {t : Int} {g : Bool} {v : Int} (h1 : t ≠ -1) (h3 : t ≠ 3) : chk t g v [] = if v < lo t g ∨ hi t g < v then 17 else 0 := by
  unfold chk
  rw [if_neg h1]
  by_cases h : v < lo t g ∨ hi t g < v
  · rw [if_pos h, if_pos h]
  · rw [if_neg h, if_neg h, if_neg h3]; rfl

theorem decR_8v {g : Bool} {zs : List Int} {p v q x : Int} (h : rsAt zs p = (v, q, x)) : decR 8 g zs p = if x ≠ 0 then (0, [], 0, x) else if v < lo 8 g ∨ hi 8 g < v then (0, [], 0, 17) else (v, [], q, 0) := by
  unfold decR
  rw [if_neg (by decide : ¬ (8 : Int) = 0), if_neg (by decide : ¬ (8 : Int) = 3), if_pos rfl, h]
theorem decR_dv {t : Int} {g : Bool} {zs : List Int} {p v q x : Int} (t0 : t ≠ 0) (t3 : t ≠ 3) (t8 : t ≠ 8) (h : ruAt zs p = (v, q, x)) : decR t g zs p = if x ≠ 0 then (0, [], 0, x) else if hi t g < v then (0, [], 0, 17) else (v, [], q, 0) := by
  unfold decR
  rw [if_neg t0, if_neg t3, if_neg t8, h]

theorem below_Y {w W : World} {Y : Nat} {x y z : Value} (h : Below w.heap.size w W) (hY : w.heap.size ≤ Y) : Below w.heap.size w (((W.setCell ⟨Y, 0, none⟩ x).setCell ⟨Y, 1, none⟩ y).setCell ⟨Y, 2, none⟩ z) :=
  ((h.setCell (p := ⟨Y, 0, none⟩) hY _).setCell (p := ⟨Y, 1, none⟩) hY _).setCell (p := ⟨Y, 2, none⟩) hY _

set_option maxRecDepth 100000 in
set_option maxHeartbeats 4000000 in
theorem rdecode_in (b off n cap p : Nat) (zs : List Int) (w : World) (hs : Seg w (some ⟨b, off, none⟩) n cap zs) (hp : p < n) (hc : w.cell? ⟨b, off + p, none⟩ = some (.int .u8 (zs.getD p 0))) (hb : b < w.heap.size) :
    Calls Tryd.prog 20 #[.slice (some ⟨b, off, none⟩) n cap, .int .i64 p] w (DecPost w (decV zs p)) := by
  have hlen := hs.1
  have hn := hs.2.2.1
  have hV : decV zs p = if tkV (zs.getD p 0) = -1 then (0, 0, [], 0, 21)
    else if (decR (tkV (zs.getD p 0)) (lgV (zs.getD p 0)) zs (p + 1)).2.2.2 ≠ 0 then (0, 0, [], 0, (decR (tkV (zs.getD p 0)) (lgV (zs.getD p 0)) zs (p + 1)).2.2.2)
    else (zs.getD p 0, (decR (tkV (zs.getD p 0)) (lgV (zs.getD p 0)) zs (p + 1)).1, (decR (tkV (zs.getD p 0)) (lgV (zs.getD p 0)) zs (p + 1)).2.1, (decR (tkV (zs.getD p 0)) (lgV (zs.getD p 0)) zs (p + 1)).2.2.1, 0) := by
    unfold decV
    rw [if_neg (by omega), if_neg (by omega), Int.toNat_natCast]
  obtain ⟨T, hT⟩ : ∃ T, decV zs p = T := ⟨_, rfl⟩
  rw [hT] at hV ⊢
  clear hT
  have hr := getD_range zs hs.2.2.2.1 p
  rw [← List.getD_eq_getElem?_getD] at hr
  obtain ⟨c, hcc⟩ : ∃ c, zs.getD p 0 = c := ⟨_, rfl⟩
  rw [hcc] at hc hr hV
  clear hcc
  have HTk := hid (fun W => takes27 c W hr.1 hr.2)
  have HCk := hid (fun W (v : Int) => rcheck13 c v none 0 0 [] W hr.1 hr.2 (segI_nil W))
  have HRS := hid (fun W (h : Seg W (some ⟨b, off, none⟩) n cap zs) u q x (e : rsAt zs ((p : Int) + 1) = (u, q, x)) => tup3q (rs10 (some ⟨b, off, none⟩) n cap zs ((p : Int) + 1) W h) e)
  have HRU := hid (fun W (h : Seg W (some ⟨b, off, none⟩) n cap zs) u q x (e : ruAt zs ((p : Int) + 1) = (u, q, x)) => tup3q (ru8 (some ⟨b, off, none⟩) n cap zs ((p : Int) + 1) W h) e)
  have HLB := hid (fun W (h : Seg W (some ⟨b, off, none⟩) n cap zs) => rlabels55 (some ⟨b, off, none⟩) n cap zs ((p : Int) + 1) W h)
  have hg := ruAt_range zs ((p : Int) + 1) hs.2.2.2.1
  have hgs := rsAt_zero zs ((p : Int) + 1) hs.2.2.2.1
  generalize tkV c = t at *
  generalize lgV c = g at *
  have HS := hid hs
  have HV := hid hV
  have h0 : ¬ (p : Int) < 0 := by omega
  have h1 : ¬ (n : Int) < p := by omega
  have h2 : ((p : Int) == n) = false := by simp; omega
  obtain ⟨W, hW⟩ : ∃ W, (w.alloc (.cells #[.int .u8 0, .int .i64 0, .slice none 0 0] 24)).alloc (.cells #[.int .u8 c, .int .i64 0, .slice none 0 0] 24) = W := ⟨_, rfl⟩
  have hbW : Below w.heap.size w W := by rw [← hW]; exact ((Below.refl _ _).alloc (Nat.le_refl _) _).alloc (by simp) _
  have HY := hid (show YZ W w.heap.size (w.heap.size + 1) c by rw [← hW]; refine ⟨?_, ?_, ?_, ?_, ?_, ?_, ?_, ?_, ?_, ?_, ?_⟩ <;> simp [go_sem])
  have HB := hid hbW
  have HW := hid hW
  have hc0 : (w.alloc (.cells #[.int .u8 0, .int .i64 0, .slice none 0 0] 24)).cell? ⟨b, off + p, none⟩ = some (.int .u8 c) := by rw [World.cell?_alloc_past _ _ _ hb]; exact hc
  clear hs hV hW hbW
  unfold DecPost
  go_enter Tryd.func20, Tryd.ntmps20
  go_wp2_with fail
  rw [HW.out]
  refine (HTk.out _).mono ?_
  rintro e w1 ⟨rfl, hb1⟩
  have Y1 := hid (HY.out.later hb1)
  have B1 := hid (HB.out.trans (hb1.mono HB.out.size))
  have S1 := hid (HS.out.later B1.out (Nat.le_refl _))
  obtain ⟨Z, hZ⟩ : ∃ Z, w.heap.size + 1 = Z := ⟨_, rfl⟩
  rw [hZ] at Y1 ⊢
  have hwZ : w.heap.size < Z := by omega
  have hne1 : Z ≠ w.heap.size := by omega
  have hne2 : w.heap.size ≠ Z := by omega
  obtain ⟨y0, y1, y2, f0, f1, f2, z0, z1, z2, g1, g2⟩ := Y1.out
  clear hb1 HY HB HTk HW hc0 hc hZ
  by_cases tm : t = -1
  · subst tm
    have hE : T = (0, 0, [], 0, 21) := by rw [HV.out]; rfl
    subst hE
    go_wp2_with fail
    refine bodyPost_ret (v := .tuple #[.agg #[.int .u8 0, .int .i64 0, .slice none 0 0], .int .i64 0, .int .i64 21]) (by simp [results, Tryd.results20, go_sem, y0, y1, y2]) rfl ⟨.slice none 0 0, rfl, World.ownsRow_nil _ _ _ _, ?_⟩
    exact below_Y B1.out (Nat.le_refl _)
  have em : (t == -1) = false := by simp [tm]
  by_cases t0 : t = 0
  · subst t0
    have hE : T = (c, 0, [], (p : Int) + 1, 0) := by rw [HV.out]; rfl
    subst hE
    go_wp2_with fail
    refine bodyPost_ret (v := .tuple #[.agg #[.int .u8 c, .int .i64 0, .slice none 0 0], .int .i64 ((p : Int) + 1), .int .i64 0]) (by simp [results, Tryd.results20, go_sem, y0, y1, y2]) rfl ⟨.slice none 0 0, rfl, World.ownsRow_nil _ _ _ _, ?_⟩
    exact below_Y B1.out (Nat.le_refl _)
  have e0 : (t == 0) = false := by simp [t0]
  by_cases t3 : t = 3
  · subst t3
    obtain ⟨D, hD⟩ : ∃ D, labR zs ((p : Int) + 1) = D := ⟨_, rfl⟩
    have hvv := HV.out
    rw [if_neg (by decide), decR_l, hD] at hvv
    have HL1 := hid (HLB.out w1 S1.out)
    rw [hD] at HL1
    have HVV := hid hvv
    clear hD hvv HV HLB HRS HRU HCk
    by_cases hx : D.2.2 = 0
    · have HE := hid (show T = (c, 0, D.1, D.2.1, 0) by rw [HVV.out]; simp [hx])
      clear HVV
      go_wp2_with fail
      refine HL1.out.mono ?_
      rintro e w2 ⟨v, rfl, hown, hb2⟩
      obtain ⟨va, vn, vc, rfl⟩ := own_slice hown
      have O2 := hid hown
      have B2 := hid (B1.out.trans (hb2.mono B1.out.size))
      have hlt1 := Y1.out.ltZ
      obtain ⟨y0, y1, y2, f0, f1, f2, z0, z1, z2, g1, g2⟩ := Y1.out.later hb2
      have hw12 := hb2.size
      have hB1 := B1.out.size
      clear hown hb2 HL1
      go_wp2_with fail
      refine bodyPost_ret (v := .tuple #[.agg #[.int .u8 c, .int .i64 0, .slice va vn vc], .int .i64 D.2.1, .int .i64 0]) (by simp [results, Tryd.results20, go_sem, y0, y1, y2]) rfl ⟨.slice va vn vc, by rw [HE.out], ?_, ?_⟩
      · rw [HE.out]
        exact own_mono (own_set (own_set (own_set (own_set O2.out (by omega)) (by omega)) (by omega)) (by omega)) hB1
      · exact below_Y (B2.out.setCell (p := ⟨Z, 2, none⟩) (by simp; omega) _) (Nat.le_refl _)
    · have HE := hid (show T = (0, 0, [], 0, D.2.2) by rw [HVV.out, if_pos hx])
      have hx' : (D.2.2 != 0) = true := by simp [hx]
      clear HVV
      go_wp2_with fail
      refine HL1.out.mono ?_
      rintro e w2 ⟨v, rfl, hown, hb2⟩
      obtain ⟨va, vn, vc, rfl⟩ := own_slice hown
      have B2 := hid (B1.out.trans (hb2.mono B1.out.size))
      obtain ⟨y0, y1, y2, f0, f1, f2, z0, z1, z2, g1, g2⟩ := Y1.out.later hb2
      clear hown hb2 HL1
      go_wp2_with fail
      refine bodyPost_ret (v := .tuple #[.agg #[.int .u8 0, .int .i64 0, .slice none 0 0], .int .i64 0, .int .i64 D.2.2]) (by simp [results, Tryd.results20, go_sem, y0, y1, y2]) rfl ⟨.slice none 0 0, by rw [HE.out], by rw [HE.out]; exact World.ownsRow_nil _ _ _ _, ?_⟩
      exact below_Y B2.out (Nat.le_refl _)
  have e3 : (t == 3) = false := by simp [t3]
  by_cases t8 : t = 8
  · subst t8
    obtain ⟨r, hrs⟩ : ∃ r, rsAt zs ((p : Int) + 1) = r := ⟨_, rfl⟩
    obtain ⟨v, q, x⟩ := r
    have hvv := HV.out
    rw [if_neg (by decide : ¬ (8 : Int) = -1), decR_8v hrs] at hvv
    have HR1 := hid (HRS.out w1 S1.out v q x hrs)
    rw [hrs] at hgs
    have HCC := hid (chk_const (t := 8) (g := g) (v := v) (by decide) (by decide))
    have HVV := hid hvv
    clear hrs hvv HV HLB HRS HRU
    by_cases hx : x = 0
    · subst hx
      by_cases hin : v < lo 8 g ∨ hi 8 g < v
      · have HE := hid (show T = (0, 0, [], 0, 17) by rw [HVV.out]; simp [hin])
        have hck := HCC.out
        rw [if_pos hin] at hck
        have HC1 := hid (fun W => HCk.out W v)
        rw [hck] at HC1
        unfold insV at HC1
        clear HVV HCC HCk hck hin hgs
        go_wp2_with fail
        refine HR1.out.mono ?_
        rintro e w2 ⟨rfl, rfl⟩
        go_wp2_with fail
        refine (HC1.out _).mono ?_
        rintro e w3 ⟨rfl, hb3⟩
        have B3 := hid ((B1.out.setCell (p := ⟨Z, 1, none⟩) (by simp; omega) (.int .i64 v)).trans (hb3.mono (by simp; exact B1.out.size)))
        have hsz : ∀ u, (w2.setCell ⟨Z, 1, none⟩ u).heap.size = w2.heap.size := fun u => by simp
        have hltY : w.heap.size < w2.heap.size := Y1.out.ltY
        have hbk : w3.heap[w.heap.size]? = w2.heap[w.heap.size]? := (hb3.block w.heap.size (by rw [hsz]; exact hltY)).trans (Below.heap_setCell _ _ _ _ (by simp; omega))
        have k0 := (cell_of_block hbk 0).trans y0
        have k1 := (cell_of_block hbk 1).trans y1
        have k2 := (cell_of_block hbk 2).trans y2
        have j0 := (frozen_of_block hbk 0).trans f0
        have j1 := (frozen_of_block hbk 1).trans f1
        have j2 := (frozen_of_block hbk 2).trans f2
        clear hb3 hbk
        go_wp2_with fail
        refine bodyPost_ret (v := .tuple #[.agg #[.int .u8 0, .int .i64 0, .slice none 0 0], .int .i64 0, .int .i64 17]) (by simp [results, Tryd.results20, go_sem, k0, k1, k2]) rfl ⟨.slice none 0 0, by rw [HE.out], by rw [HE.out]; exact World.ownsRow_nil _ _ _ _, ?_⟩
        exact below_Y B3.out (Nat.le_refl _)
      · have HE := hid (show T = (c, v, [], q, 0) by rw [HVV.out]; simp [hin])
        have hck := HCC.out
        rw [if_neg hin] at hck
        have HC1 := hid (fun W => HCk.out W v)
        rw [hck] at HC1
        unfold insV at HC1
        clear HVV HCC HCk hck hin hgs
        go_wp2_with fail
        refine HR1.out.mono ?_
        rintro e w2 ⟨rfl, rfl⟩
        go_wp2_with fail
        refine (HC1.out _).mono ?_
        rintro e w3 ⟨rfl, hb3⟩
        have B3 := hid ((B1.out.setCell (p := ⟨Z, 1, none⟩) (by simp; omega) (.int .i64 v)).trans (hb3.mono (by simp; exact B1.out.size)))
        have hsz : ∀ u, (w2.setCell ⟨Z, 1, none⟩ u).heap.size = w2.heap.size := fun u => by simp
        have hltY : w.heap.size < w2.heap.size := Y1.out.ltY
        have hltZ : Z < w2.heap.size := Y1.out.ltZ
        have hbk : w3.heap[w.heap.size]? = w2.heap[w.heap.size]? := (hb3.block w.heap.size (by rw [hsz]; exact hltY)).trans (Below.heap_setCell _ _ _ _ (by simp; omega))
        have k0 := (cell_of_block hbk 0).trans y0
        have k1 := (cell_of_block hbk 1).trans y1
        have k2 := (cell_of_block hbk 2).trans y2
        have j0 := (frozen_of_block hbk 0).trans f0
        have j1 := (frozen_of_block hbk 1).trans f1
        have j2 := (frozen_of_block hbk 2).trans f2
        have m0 : w3.cell? ⟨Z, 0, none⟩ = some (.int .u8 c) := (hb3.cell (by rw [hsz]; exact hltZ)).trans ((World.cell?_setCell_other _ _ _ _ (by simp)).trans z0)
        have m1 : w3.cell? ⟨Z, 1, none⟩ = some (.int .i64 v) := (hb3.cell (by rw [hsz]; exact hltZ)).trans (World.cell?_setCell_same _ _ _ z1)
        have m2 : w3.cell? ⟨Z, 2, none⟩ = some (.slice none 0 0) := (hb3.cell (by rw [hsz]; exact hltZ)).trans ((World.cell?_setCell_other _ _ _ _ (by simp)).trans z2)
        clear hb3 hbk
        go_wp2_with fail
        refine bodyPost_ret (v := .tuple #[.agg #[.int .u8 c, .int .i64 v, .slice none 0 0], .int .i64 q, .int .i64 0]) (by simp [results, Tryd.results20, go_sem, k0, k1, k2]) rfl ⟨.slice none 0 0, by rw [HE.out], by rw [HE.out]; exact World.ownsRow_nil _ _ _ _, ?_⟩
        exact below_Y B3.out (Nat.le_refl _)
    · have HE := hid (show T = (0, 0, [], 0, x) by rw [HVV.out]; simp [hx])
      have hx' : (x != 0) = true := by simp [hx]
      clear HVV HCC HCk hgs
      go_wp2_with fail
      refine HR1.out.mono ?_
      rintro e w2 ⟨rfl, rfl⟩
      go_wp2_with fail
      refine bodyPost_ret (v := .tuple #[.agg #[.int .u8 0, .int .i64 0, .slice none 0 0], .int .i64 0, .int .i64 x]) (by simp [results, Tryd.results20, go_sem, y0, y1, y2]) rfl ⟨.slice none 0 0, by rw [HE.out], by rw [HE.out]; exact World.ownsRow_nil _ _ _ _, ?_⟩
      exact below_Y B1.out (Nat.le_refl _)
  have e8 : (t == 8) = false := by simp [t8]
  obtain ⟨r, hrs⟩ : ∃ r, ruAt zs ((p : Int) + 1) = r := ⟨_, rfl⟩
  obtain ⟨v, q, x⟩ := r
  have hvv := HV.out
  rw [if_neg tm, decR_dv t0 t3 t8 hrs] at hvv
  have HR1 := hid (HRU.out w1 S1.out v q x hrs)
  rw [hrs] at hg
  obtain ⟨v0, v1, _⟩ := hg
  simp only at v0 v1
  have hhi := (hi_range t g).2.2 t8
  have HCC := hid (chk_const (t := t) (g := g) (v := v) tm t3)
  have HVV := hid hvv
  clear hrs hvv HV HLB HRS HRU
  by_cases hx : x = 0
  · subst hx
    by_cases hbig : 4294967296 < v
    · have hin : hi t g < v := by omega
      have HE := hid (show T = (0, 0, [], 0, 17) by rw [HVV.out]; simp [hin])
      clear HVV HCC HCk hin hhi v1
      go_wp2_with fail
      refine HR1.out.mono ?_
      rintro e w2 ⟨rfl, rfl⟩
      go_wp2_with fail
      refine bodyPost_ret (v := .tuple #[.agg #[.int .u8 0, .int .i64 0, .slice none 0 0], .int .i64 0, .int .i64 17]) (by simp [results, Tryd.results20, go_sem, y0, y1, y2]) rfl ⟨.slice none 0 0, by rw [HE.out], by rw [HE.out]; exact World.ownsRow_nil _ _ _ _, ?_⟩
      exact below_Y B1.out (Nat.le_refl _)
    have hwr := i64_in v (by omega) (by omega)
    have hv2 : v ≤ 4294967296 := by omega
    clear v1
    by_cases hin : hi t g < v
    · have HE := hid (show T = (0, 0, [], 0, 17) by rw [HVV.out]; simp [hin])
      have hck := HCC.out
      rw [if_pos (.inr hin)] at hck
      have HC1 := hid (fun W => HCk.out W v)
      rw [hck] at HC1
      unfold insV at HC1
      clear HVV HCC HCk hck hin hhi
      go_wp2_with fail
      refine HR1.out.mono ?_
      rintro e w2 ⟨rfl, rfl⟩
      go_wp2_with fail
      refine (HC1.out _).mono ?_
      rintro e w3 ⟨rfl, hb3⟩
      have B3 := hid ((B1.out.setCell (p := ⟨Z, 1, none⟩) (by simp; omega) (.int .i64 v)).trans (hb3.mono (by simp; exact B1.out.size)))
      have hsz : ∀ u, (w2.setCell ⟨Z, 1, none⟩ u).heap.size = w2.heap.size := fun u => by simp
      have hltY : w.heap.size < w2.heap.size := Y1.out.ltY
      have hbk : w3.heap[w.heap.size]? = w2.heap[w.heap.size]? := (hb3.block w.heap.size (by rw [hsz]; exact hltY)).trans (Below.heap_setCell _ _ _ _ (by simp; omega))
      have k0 := (cell_of_block hbk 0).trans y0
      have k1 := (cell_of_block hbk 1).trans y1
      have k2 := (cell_of_block hbk 2).trans y2
      have j0 := (frozen_of_block hbk 0).trans f0
      have j1 := (frozen_of_block hbk 1).trans f1
      have j2 := (frozen_of_block hbk 2).trans f2
      clear hb3 hbk
      go_wp2_with fail
      refine bodyPost_ret (v := .tuple #[.agg #[.int .u8 0, .int .i64 0, .slice none 0 0], .int .i64 0, .int .i64 17]) (by simp [results, Tryd.results20, go_sem, k0, k1, k2]) rfl ⟨.slice none 0 0, by rw [HE.out], by rw [HE.out]; exact World.ownsRow_nil _ _ _ _, ?_⟩
      exact below_Y B3.out (Nat.le_refl _)
    · have HE := hid (show T = (c, v, [], q, 0) by rw [HVV.out]; simp [hin])
      have hck := HCC.out
      rw [if_neg (by omega)] at hck
      have HC1 := hid (fun W => HCk.out W v)
      rw [hck] at HC1
      unfold insV at HC1
      clear HVV HCC HCk hck hin hhi
      go_wp2_with fail
      refine HR1.out.mono ?_
      rintro e w2 ⟨rfl, rfl⟩
      go_wp2_with fail
      refine (HC1.out _).mono ?_
      rintro e w3 ⟨rfl, hb3⟩
      have B3 := hid ((B1.out.setCell (p := ⟨Z, 1, none⟩) (by simp; omega) (.int .i64 v)).trans (hb3.mono (by simp; exact B1.out.size)))
      have hsz : ∀ u, (w2.setCell ⟨Z, 1, none⟩ u).heap.size = w2.heap.size := fun u => by simp
      have hltY : w.heap.size < w2.heap.size := Y1.out.ltY
      have hltZ : Z < w2.heap.size := Y1.out.ltZ
      have hbk : w3.heap[w.heap.size]? = w2.heap[w.heap.size]? := (hb3.block w.heap.size (by rw [hsz]; exact hltY)).trans (Below.heap_setCell _ _ _ _ (by simp; omega))
      have k0 := (cell_of_block hbk 0).trans y0
      have k1 := (cell_of_block hbk 1).trans y1
      have k2 := (cell_of_block hbk 2).trans y2
      have j0 := (frozen_of_block hbk 0).trans f0
      have j1 := (frozen_of_block hbk 1).trans f1
      have j2 := (frozen_of_block hbk 2).trans f2
      have m0 : w3.cell? ⟨Z, 0, none⟩ = some (.int .u8 c) := (hb3.cell (by rw [hsz]; exact hltZ)).trans ((World.cell?_setCell_other _ _ _ _ (by simp)).trans z0)
      have m1 : w3.cell? ⟨Z, 1, none⟩ = some (.int .i64 v) := (hb3.cell (by rw [hsz]; exact hltZ)).trans (World.cell?_setCell_same _ _ _ z1)
      have m2 : w3.cell? ⟨Z, 2, none⟩ = some (.slice none 0 0) := (hb3.cell (by rw [hsz]; exact hltZ)).trans ((World.cell?_setCell_other _ _ _ _ (by simp)).trans z2)
      clear hb3 hbk
      go_wp2_with fail
      refine bodyPost_ret (v := .tuple #[.agg #[.int .u8 c, .int .i64 v, .slice none 0 0], .int .i64 q, .int .i64 0]) (by simp [results, Tryd.results20, go_sem, k0, k1, k2]) rfl ⟨.slice none 0 0, by rw [HE.out], by rw [HE.out]; exact World.ownsRow_nil _ _ _ _, ?_⟩
      exact below_Y B3.out (Nat.le_refl _)
  · have HE := hid (show T = (0, 0, [], 0, x) by rw [HVV.out]; simp [hx])
    have hx' : (x != 0) = true := by simp [hx]
    clear HVV HCC HCk hhi v1
    go_wp2_with fail
    refine HR1.out.mono ?_
    rintro e w2 ⟨rfl, rfl⟩
    go_wp2_with fail
    refine bodyPost_ret (v := .tuple #[.agg #[.int .u8 0, .int .i64 0, .slice none 0 0], .int .i64 0, .int .i64 x]) (by simp [results, Tryd.results20, go_sem, y0, y1, y2]) rfl ⟨.slice none 0 0, by rw [HE.out], by rw [HE.out]; exact World.ownsRow_nil _ _ _ _, ?_⟩
    exact below_Y B1.out (Nat.le_refl _)

/-- The document's Decode. -/
theorem rdecode20 (a : Option Addr) (n cap : Nat) (zs : List Int) (p : Int) (w : World) (hs : Seg w a n cap zs) :
    Calls Tryd.prog 20 #[.slice a n cap, .int .i64 p] w (DecPost w (decV zs p)) := by
  by_cases hp : p < 0 ∨ (zs.length : Int) < p
  · have e : decV zs p = (0, 0, [], 0, 1) := by unfold decV; rw [if_pos hp]
    rw [e]
    exact rdecode_out a n cap p w hs.2.2.1 (by have := hs.1; omega)
  by_cases hq : p = zs.length
  · have e : decV zs p = (0, 0, [], 0, 10) := by unfold decV; rw [if_neg hp, if_pos hq]
    rw [e, hq, hs.1]
    exact rdecode_end a n cap w hs.2.2.1
  obtain ⟨p, rfl⟩ := Int.eq_ofNat_of_zero_le (by omega : 0 ≤ p)
  have hl := hs.1
  rcases hs.2.2.2.2 with h0 | ⟨b, off, rfl, hc⟩
  · omega
  · have hpn : p < n := by omega
    exact rdecode_in b off n cap p zs w hs hpn (hc p hpn) (block_lt_of_cell (hc p hpn))
end Go.Proofs.YtgljlclnmnfocaaDoor
