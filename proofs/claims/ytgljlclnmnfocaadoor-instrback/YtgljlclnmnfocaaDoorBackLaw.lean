/-
  The walk over InstrBack: true, whatever the instruction and the bytes.
-/
import Derived.Test.YtgljlclnmnfocaaDoorEqI
namespace Go.Proofs.YtgljlclnmnfocaaDoor
open Go.RowKit
set_option linter.unusedVariables false

theorem Seg.part {w : World} {b off n cap : Nat} {zs : List Int} (h : Seg w (some ⟨b, off, none⟩) n cap zs) (p q : Nat) (hp : p ≤ q) (hq : q ≤ n) : Seg w (some ⟨b, off + p, none⟩) (q - p) (cap - p) ((zs.drop p).take (q - p)) := by
  obtain ⟨hz, hc, hn, hr, ha⟩ := h
  refine ⟨by simp; omega, by omega, by omega, fun z hz => hr z (List.mem_of_mem_drop (List.mem_of_mem_take hz)), ?_⟩
  by_cases h0 : q - p = 0
  · exact .inl h0
  · rcases ha with ha | ⟨b', off', e, ha⟩
    · omega
    · simp at e
      obtain ⟨rfl, rfl⟩ := e
      refine .inr ⟨b, off + p, rfl, fun j hj => ?_⟩
      rw [Nat.add_assoc, ha (p + j) (by omega)]
      simp [hj]

/-- EqBytes, the two lengths said apart. -/
theorem eq15x (a1 a2 : Option Addr) (n1 n2 c1 c2 : Nat) (zs : List Int) (w : World) (hn : n1 = n2) (h1 : Seg w a1 n1 c1 zs) (h2 : Seg w a2 n2 c2 zs) :
    Calls Tryd.prog 14 #[.slice a1 n1 c1, .slice a2 n2 c2] w fun e w' => e = .returned (.bool true) ∧ ∃ m, w' = w.drewN m := by
  subst hn; exact eq15 a1 a2 n1 c1 c2 zs w h1 h2

set_option maxRecDepth 100000 in
set_option maxHeartbeats 1000000 in
/-- Too much of it is let go. -/
theorem back5_big (c a : Int) (la : Option Addr) (ln lc : Nat) (a2 a3 : Option Addr) (n2 c2 n3 c3 : Nat) (pa : Int) (w : World) (hk : KindsOk w) (hsum : 65536 < ln + n2 + n3) (h1 : ln ≤ 140737488355328) (h2 : n2 ≤ 140737488355328) (h3 : n3 ≤ 140737488355328) :
    Calls Tryd.prog 5 #[insV c a (.slice la ln lc), .slice a2 n2 c2, .slice a3 n3 c3, .int .i64 pa] w fun e w' => e = .returned (.bool true) ∧ Below w.heap.size w w' := by
  unfold insV
  have hb0 : Below w.heap.size w (w.alloc (.cells #[.int .u8 c, .int .i64 a, .slice la ln lc] 24)) := (Below.refl _ _).alloc (Nat.le_refl _) _
  have HW := hid (works7 _ (hk.later hb0 hk.pos))
  have hs' : (65536 : Int) < (ln : Int) + n2 + n3 := by omega
  clear hk
  go_enter Tryd.func5, Tryd.ntmps5
  go_wp2_with fail
  refine HW.out.mono ?_
  rintro e w1 ⟨rfl, hb1⟩
  have x2 : w1.cell? ⟨w.heap.size, 2, none⟩ = some (.slice la ln lc) := by rw [hb1.cell (by simp)]; simp [go_sem]
  have B1 := hid (hb0.trans (hb1.mono (by simp)))
  clear hb1
  go_wp2_with fail
  go_ret
  exact ⟨rfl, B1.out⟩

set_option maxRecDepth 100000 in
set_option maxHeartbeats 4000000 in
theorem back5 (c a : Int) (la : Option Addr) (ln lc : Nat) (l : List Int) (a2 a3 : Option Addr) (n2 c2 n3 c3 : Nat) (z2 z3 : List Int) (pa : Int) (w : World) (hk : KindsOk w) (hc0 : 0 ≤ c) (hc1 : c ≤ 255) (hl : SegI w la ln lc l)
    (hsum : ln + n2 + n3 ≤ 65536) (h2 : Seg w a2 n2 c2 z2) (e2 : a2 = none → c2 = 0) (h3 : Seg w a3 n3 c3 z3) (e3 : a3 = none → c3 = 0) :
    Calls Tryd.prog 5 #[insV c a (.slice la ln lc), .slice a2 n2 c2, .slice a3 n3 c3, .int .i64 pa] w fun e w' => e = .returned (.bool true) ∧ Below w.heap.size w w' := by
  unfold insV
  have h0 := hk.pos
  have hb0 : Below w.heap.size w (w.alloc (.cells #[.int .u8 c, .int .i64 a, .slice la ln lc] 24)) := (Below.refl _ _).alloc (Nat.le_refl _) _
  have HW := hid (works7 _ (hk.later hb0 h0))
  have hs' : ¬ (65536 : Int) < (ln : Int) + n2 + n3 := by omega
  have HK := hid hk
  have H2 := hid h2
  have H3 := hid h3
  have E2 := hid e2
  have E3 := hid e3
  have HL := hid hl
  have hz2 := h2.1
  clear hk h2 h3 e2 e3 hl
  go_enter Tryd.func5, Tryd.ntmps5
  go_wp2_with fail
  refine HW.out.mono ?_
  rintro e w1 ⟨rfl, hb1⟩
  have x0 : w1.cell? ⟨w.heap.size, 0, none⟩ = some (.int .u8 c) := by rw [hb1.cell (by simp)]; simp [go_sem]
  have x1 : w1.cell? ⟨w.heap.size, 1, none⟩ = some (.int .i64 a) := by rw [hb1.cell (by simp)]; simp [go_sem]
  have x2 : w1.cell? ⟨w.heap.size, 2, none⟩ = some (.slice la ln lc) := by rw [hb1.cell (by simp)]; simp [go_sem]
  have hx := block_lt_of_cell x0
  simp only at hx
  have B1 := hid (hb0.trans (hb1.mono (by simp)))
  clear hb1 hb0 HW
  have HN := hid (encode9_no c a la ln lc l w1 (HK.out.later B1.out h0) hc0 hc1 (HL.out.later B1.out (Nat.le_refl _)))
  have HY := hid (encode9 c a la ln lc l w1 (HK.out.later B1.out h0) hc0 hc1 (HL.out.later B1.out (Nat.le_refl _)))
  unfold insV at HN HY
  by_cases hx0 : chk (tkV c) (lgV c) a l = 0
  · have HE := hid (HY.out hx0)
    clear HN HY
    have C0 := hid hx0
    have RB := hid (decV_back z2 z3 c a l hx0)
    have hll := encV_len hx0
    have hmem := hid (encV_mem hc0 hc1 hx0)
    rw [hz2] at RB
    clear hx0
    obtain ⟨E, hE⟩ : ∃ E, encV c a l = E := ⟨_, rfl⟩
    rw [hE] at HE RB hll hmem
    clear hE
    go_wp2_with fail
    refine HE.out.mono ?_
    rintro e w2 ⟨v, rfl, hown, hb2⟩
    obtain ⟨va, vc, rfl, hs2, hvn⟩ := seg_of_own hown (by omega) hmem.out
    have B2 := hid (below_late B1.out hb2)
    have S2 := hid hs2
    have HVN := hid hvn
    have X2 := hid (show w2.cell? ⟨w.heap.size, 0, none⟩ = some (.int .u8 c) ∧ w2.cell? ⟨w.heap.size, 1, none⟩ = some (.int .i64 a) ∧ w2.cell? ⟨w.heap.size, 2, none⟩ = some (.slice la ln lc) from ⟨(hb2.cell (by exact hx)).trans x0, (hb2.cell (by exact hx)).trans x1, (hb2.cell (by exact hx)).trans x2⟩)
    have hw12 := hb2.size
    clear hown hs2 hb2 HE B1 x0 x1 x2 hvn
    go_wp2_with (first
      | (at_builtin; refine app_any _ rfl (.tmp 40) (.tmp 41) rfl w2.heap.size (.slice none 0 0) 0 [] rfl (World.ownsRow_nil _ _ _ _) a2 n2 c2 z2 rfl (H2.out.later B2.out (Nat.le_refl _)) E2.out (by omega) (Nat.le_refl _) ?_; intro v3 w3 hown3 hb3; have O3 := hid hown3; have B3 := hid hb3; clear hown3 hb3)
      | (at_builtin; refine app_any _ rfl (.tmp 43) (.tmp 44) rfl w2.heap.size v3 (0 + n2) ([] ++ z2) rfl O3.out va E.length vc E rfl (S2.out.later B3.out (Nat.le_refl _)) HVN.out (by omega) B3.out.size ?_; intro v4 w4 hown4 hb4; have O4 := hid hown4; have B4 := hid (B3.out.trans hb4); clear hown4 hb4)
      | (at_builtin; refine app_any _ rfl (.tmp 46) (.tmp 47) rfl w2.heap.size v4 (0 + n2 + E.length) ([] ++ z2 ++ E) rfl O4.out a3 n3 c3 z3 rfl (H3.out.later (below_late B2.out B4.out) (Nat.le_refl _)) E3.out (by omega) B4.out.size ?_; intro v5 w5 hown5 hb5; have O5 := hid hown5; have B5 := hid (B4.out.trans hb5); clear hown5 hb5))
    have h5 := O5.out
    rw [Nat.zero_add, List.nil_append] at h5
    obtain ⟨ja, jc, rfl, hsj, _⟩ := seg_of_own h5 (by omega) (by
      intro z hz
      simp only [List.mem_append] at hz
      rcases hz with (hz | hz) | hz
      · exact H2.out.2.2.2.1 z hz
      · exact hmem.out z hz
      · exact H3.out.2.2.2.1 z hz)
    have BW5 := hid (below_late B2.out B5.out)
    have hd := decode19 ja _ jc _ (n2 : Int) w5 (HK.out.later BW5.out h0) hsj
    rw [RB.out] at hd
    have HD5 := hid hd
    have X5 := hid (show w5.cell? ⟨w.heap.size, 0, none⟩ = some (.int .u8 c) ∧ w5.cell? ⟨w.heap.size, 1, none⟩ = some (.int .i64 a) ∧ w5.cell? ⟨w.heap.size, 2, none⟩ = some (.slice la ln lc) from
      ⟨(B5.out.cell (by exact Nat.lt_of_lt_of_le hx hw12)).trans X2.out.1, (B5.out.cell (by exact Nat.lt_of_lt_of_le hx hw12)).trans X2.out.2.1, (B5.out.cell (by exact Nat.lt_of_lt_of_le hx hw12)).trans X2.out.2.2⟩)
    have hw25 := B5.out.size
    clear hd h5 hsj O5 O4 O3 B5 B4 B3 B2 S2 HVN X2
    unfold DecPost at HD5
    go_wp2_with fail
    refine HD5.out.mono ?_
    rintro e w6 ⟨v, rfl, hown6, hb6⟩

    obtain ⟨va6, vc6, rfl, hs6⟩ := segI_own (n := l.length) (zs := l) hown6 (by have := (chk_list C0.out).1; omega) (chk_list C0.out).2
    have hln : l.length = ln := HL.out.1
    rw [hln] at hs6 ⊢
    have hxw5 : w.heap.size < w5.heap.size := by omega
    have y0 := (hb6.cell (p := ⟨w.heap.size, 0, none⟩) hxw5).trans X5.out.1
    have y1 := (hb6.cell (p := ⟨w.heap.size, 1, none⟩) hxw5).trans X5.out.2.1
    have y2 := (hb6.cell (p := ⟨w.heap.size, 2, none⟩) hxw5).trans X5.out.2.2
    have hxw6 := block_lt_of_cell y0
    simp only at hxw6
    have B6 := hid (below_late BW5.out hb6)
    have bb : Below w6.heap.size w6 (w6.alloc (.cells #[.int .u8 c, .int .i64 a, .slice va6 ln vc6] 24)) := (Below.refl _ _).alloc (Nat.le_refl _) _
    have HQ := hid (eqIns16 c a la va6 ln lc vc6 l _ (HL.out.later (below_late B6.out bb) (Nat.le_refl _)) (hs6.later bb (Nat.le_refl _)))
    unfold insV at HQ
    have B7 := hid (below_late B6.out bb)
    have hq1 : ((n2 : Int) + (E.length : Int) != (n2 : Int) + (E.length : Int)) = false := by simp
    clear hown6 hb6 hs6 HD5 X5 BW5 bb hmem RB
    go_wp2_with fail
    refine HQ.out.mono ?_
    rintro e W ⟨rfl, hb8⟩
    have BW := hid (below_late B7.out hb8)
    clear hb8 HQ B7 B6 y0 y1 y2
    have HD := hid (decode19 a3 n3 c3 z3 pa W (HK.out.later BW.out h0) (H3.out.later BW.out (Nat.le_refl _)))
    obtain ⟨V, hV⟩ : ∃ V, decV z3 pa = V := ⟨_, rfl⟩
    have hE := decV_err z3 pa
    have hSm := fun c' a' l' q => decV_same z3 pa c' a' l' q H3.out.2.2.2.1
    rw [hV] at HD hE hSm
    clear hV
    unfold DecPost at HD
    obtain ⟨c', a', l', q, x⟩ := V
    simp only at HD hE
    by_cases hx : x = 0
    · subst hx
      obtain ⟨d1, d2, d3, d4, d5, d6, d7⟩ := hSm c' a' l' q rfl
      clear hE hSm
      obtain ⟨p, rfl⟩ := Int.eq_ofNat_of_zero_le d4
      obtain ⟨q, rfl⟩ := Int.eq_ofNat_of_zero_le (by omega : 0 ≤ q)
      rw [Int.toNat_natCast, show ((q : Int) - (p : Int)).toNat = q - p by omega] at d7
      have hz3 := H3.out.1
      have HV := hid d7
      have HLn := hid (show (encV c' a' l').length = q - p by rw [← d7]; simp; omega)
      have D3 := hid d3
      clear d7 d3
      rcases H3.out.2.2.2.2 with hn0 | ⟨b, off, rfl, hcell⟩
      · omega
      clear hcell
      have hpc : (p : Int) ≤ (q : Int) := by omega
      have hcap3 := H3.out.2.1
      have hqc : (q : Int) ≤ (c3 : Int) := by omega
      have hpne : ¬ c3 = p := by omega
      have hqn : (q : Int) ≤ (n3 : Int) := by omega
      have hpq : (p : Int) < (q : Int) := by omega
      have hp0 : (0 : Int) ≤ (p : Int) := by omega
      go_wp2_with fail
      refine HD.out.mono ?_
      rintro e w20 ⟨v, rfl, hown20, hb20⟩
      obtain ⟨va, vc, rfl, hs20⟩ := segI_own hown20 (by have := (chk_list D3.out).1; omega) (chk_list D3.out).2
      have B20 := hid (below_late BW.out hb20)
      have S20 := hid hs20
      clear hown20 hb20 hs20 HD BW
      have bb : Below w20.heap.size w20 (w20.alloc (.cells #[.int .u8 c', .int .i64 a', .slice va l'.length vc] 24)) := (Below.refl _ _).alloc (Nat.le_refl _) _
      have HE := hid (encode9 c' a' va l'.length vc l' _ (HK.out.later (below_late B20.out bb) h0) d1 d2 (S20.out.later bb (Nat.le_refl _)) D3.out)
      unfold insV at HE
      go_wp2_with fail
      refine HE.out.mono ?_
      rintro e w21 ⟨u, rfl, hown21, hb21⟩
      obtain ⟨ua, uc, rfl, hs21, _⟩ := seg_of_own hown21 (by have := encV_len D3.out; omega) (encV_mem d1 d2 D3.out)
      have hbb := below_late bb hb21
      have B21 := hid (below_late B20.out hbb)
      have S21 := hid hs21
      have SI21 := S20.out.later hbb (Nat.le_refl _)
      have y0 : w21.cell? ⟨w20.heap.size, 0, none⟩ = some (.int .u8 c') := by rw [hb21.cell (by simp)]; simp [go_sem]
      have y1 : w21.cell? ⟨w20.heap.size, 1, none⟩ = some (.int .i64 a') := by rw [hb21.cell (by simp)]; simp [go_sem]
      have y2 : w21.cell? ⟨w20.heap.size, 2, none⟩ = some (.slice va l'.length vc) := by rw [hb21.cell (by simp)]; simp [go_sem]
      have HC := hid (check12 c' a' va l'.length vc l' w21 (HK.out.later B21.out h0) d1 d2 SI21)
      rw [D3.out] at HC
      unfold insV at HC
      clear hown21 hs21 hb21 hbb bb HE SI21 S20 B20
      go_wp2_with fail
      refine HC.out.mono ?_
      rintro e w22 ⟨rfl, hb22⟩
      have S22 := S21.out.later hb22 (Nat.le_refl _)
      have B22 := hid (below_late B21.out hb22)
      have sp := (H3.out.later B22.out (Nat.le_refl _)).part p q (by omega) (by omega)
      rw [HV.out] at sp
      have HQ := hid (eq15x _ _ _ _ _ _ (encV c' a' l') w22 HLn.out S22 sp)
      clear hb22 S22 sp HC S21 B21 y0 y1 y2
      go_wp2_with fail
      refine HQ.out.mono ?_
      rintro e w23 ⟨rfl, m, rfl⟩
      go_wp2_with fail
      go_ret
      exact ⟨rfl, below_drewN B22.out m⟩
    · have hx2 : (x != 0) = true := by simp [hx]
      have hE2 := hE hx
      simp only [Prod.mk.injEq] at hE2
      obtain ⟨rfl, rfl, rfl, rfl, _⟩ := hE2
      clear hE hSm
      go_wp2_with fail
      refine HD.out.mono ?_
      rintro e w20 ⟨v, rfl, hown20, hb20⟩
      obtain ⟨va, vn, vc, rfl⟩ := own_slice hown20
      have B20 := hid (below_late BW.out hb20)
      clear hown20 hb20 HD BW
      go_wp2_with fail
      go_ret
      exact ⟨rfl, B20.out.alloc (by have := B20.out.size; omega) _⟩
  · have HE := hid (HN.out hx0)
    clear HN HY
    have hxb : (chk (tkV c) (lgV c) a l == 0) = false := by simp [hx0]
    obtain ⟨X, hX⟩ : ∃ X, chk (tkV c) (lgV c) a l = X := ⟨_, rfl⟩
    rw [hX] at HE hxb
    clear hX hx0
    go_wp2_with fail
    refine HE.out.mono ?_
    rintro e W ⟨rfl, hb2⟩
    have BW := hid (below_late B1.out hb2)
    clear hb2 HE B1 x0 x1 x2
    have HD := hid (decode19 a3 n3 c3 z3 pa W (HK.out.later BW.out h0) (H3.out.later BW.out (Nat.le_refl _)))
    obtain ⟨V, hV⟩ : ∃ V, decV z3 pa = V := ⟨_, rfl⟩
    have hE := decV_err z3 pa
    have hSm := fun c' a' l' q => decV_same z3 pa c' a' l' q H3.out.2.2.2.1
    rw [hV] at HD hE hSm
    clear hV
    unfold DecPost at HD
    obtain ⟨c', a', l', q, x⟩ := V
    simp only at HD hE
    by_cases hx : x = 0
    · subst hx
      obtain ⟨d1, d2, d3, d4, d5, d6, d7⟩ := hSm c' a' l' q rfl
      clear hE hSm
      obtain ⟨p, rfl⟩ := Int.eq_ofNat_of_zero_le d4
      obtain ⟨q, rfl⟩ := Int.eq_ofNat_of_zero_le (by omega : 0 ≤ q)
      rw [Int.toNat_natCast, show ((q : Int) - (p : Int)).toNat = q - p by omega] at d7
      have hz3 := H3.out.1
      have HV := hid d7
      have HLn := hid (show (encV c' a' l').length = q - p by rw [← d7]; simp; omega)
      have D3 := hid d3
      clear d7 d3
      rcases H3.out.2.2.2.2 with hn0 | ⟨b, off, rfl, hcell⟩
      · omega
      clear hcell
      have hpc : (p : Int) ≤ (q : Int) := by omega
      have hcap3 := H3.out.2.1
      have hqc : (q : Int) ≤ (c3 : Int) := by omega
      have hpne : ¬ c3 = p := by omega
      have hqn : (q : Int) ≤ (n3 : Int) := by omega
      have hpq : (p : Int) < (q : Int) := by omega
      have hp0 : (0 : Int) ≤ (p : Int) := by omega
      go_wp2_with fail
      refine HD.out.mono ?_
      rintro e w20 ⟨v, rfl, hown20, hb20⟩
      obtain ⟨va, vc, rfl, hs20⟩ := segI_own hown20 (by have := (chk_list D3.out).1; omega) (chk_list D3.out).2
      have B20 := hid (below_late BW.out hb20)
      have S20 := hid hs20
      clear hown20 hb20 hs20 HD BW
      have bb : Below w20.heap.size w20 (w20.alloc (.cells #[.int .u8 c', .int .i64 a', .slice va l'.length vc] 24)) := (Below.refl _ _).alloc (Nat.le_refl _) _
      have HE := hid (encode9 c' a' va l'.length vc l' _ (HK.out.later (below_late B20.out bb) h0) d1 d2 (S20.out.later bb (Nat.le_refl _)) D3.out)
      unfold insV at HE
      go_wp2_with fail
      refine HE.out.mono ?_
      rintro e w21 ⟨u, rfl, hown21, hb21⟩
      obtain ⟨ua, uc, rfl, hs21, _⟩ := seg_of_own hown21 (by have := encV_len D3.out; omega) (encV_mem d1 d2 D3.out)
      have hbb := below_late bb hb21
      have B21 := hid (below_late B20.out hbb)
      have S21 := hid hs21
      have SI21 := S20.out.later hbb (Nat.le_refl _)
      have y0 : w21.cell? ⟨w20.heap.size, 0, none⟩ = some (.int .u8 c') := by rw [hb21.cell (by simp)]; simp [go_sem]
      have y1 : w21.cell? ⟨w20.heap.size, 1, none⟩ = some (.int .i64 a') := by rw [hb21.cell (by simp)]; simp [go_sem]
      have y2 : w21.cell? ⟨w20.heap.size, 2, none⟩ = some (.slice va l'.length vc) := by rw [hb21.cell (by simp)]; simp [go_sem]
      have HC := hid (check12 c' a' va l'.length vc l' w21 (HK.out.later B21.out h0) d1 d2 SI21)
      rw [D3.out] at HC
      unfold insV at HC
      clear hown21 hs21 hb21 hbb bb HE SI21 S20 B20
      go_wp2_with fail
      refine HC.out.mono ?_
      rintro e w22 ⟨rfl, hb22⟩
      have S22 := S21.out.later hb22 (Nat.le_refl _)
      have B22 := hid (below_late B21.out hb22)
      have sp := (H3.out.later B22.out (Nat.le_refl _)).part p q (by omega) (by omega)
      rw [HV.out] at sp
      have HQ := hid (eq15x _ _ _ _ _ _ (encV c' a' l') w22 HLn.out S22 sp)
      clear hb22 S22 sp HC S21 B21 y0 y1 y2
      go_wp2_with fail
      refine HQ.out.mono ?_
      rintro e w23 ⟨rfl, m, rfl⟩
      go_wp2_with fail
      go_ret
      exact ⟨rfl, below_drewN B22.out m⟩
    · have hx2 : (x != 0) = true := by simp [hx]
      have hE2 := hE hx
      simp only [Prod.mk.injEq] at hE2
      obtain ⟨rfl, rfl, rfl, rfl, _⟩ := hE2
      clear hE hSm
      go_wp2_with fail
      refine HD.out.mono ?_
      rintro e w20 ⟨v, rfl, hown20, hb20⟩
      obtain ⟨va, vn, vc, rfl⟩ := own_slice hown20
      have B20 := hid (below_late BW.out hb20)
      clear hown20 hb20 HD BW
      go_wp2_with fail
      go_ret
      exact ⟨rfl, B20.out.alloc (by have := B20.out.size; omega) _⟩
end Go.Proofs.YtgljlclnmnfocaaDoor
