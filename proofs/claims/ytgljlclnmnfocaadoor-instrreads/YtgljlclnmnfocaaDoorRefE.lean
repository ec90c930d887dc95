/-
  The walk over the document's Encode.
-/
import Derived.Test.YtgljlclnmnfocaaDoorRefI
import Derived.Test.YtgljlclnmnfocaaDoorDecP
namespace Go.Proofs.YtgljlclnmnfocaaDoor
open Go.RowKit
set_option linter.unusedVariables false

/-- The document's Uvar and Svar, as slices. -/
theorem ruvarB (v : Int) (w : World) (h0 : 0 ≤ v) (h1 : v < 18446744073709551616) :
    Calls Tryd.prog 29 #[.int .u64 v] w fun e w' => ∃ a c, e = .returned (.slice a (uvar v).length c) ∧ Seg w' a (uvar v).length c (uvar v) ∧ (a = none → c = 0) ∧ Below w.heap.size w w' :=
  (ruvar10 v w h0 h1).mono fun e w' ⟨y, he, ho, hb⟩ => by
    obtain ⟨a, c, rfl, hs, hn⟩ := seg_of_own ho (by have := uvar_len v; omega) (uvar_range v h0 h1)
    exact ⟨a, c, he, hs, hn, hb⟩
theorem rsvarB (v : Int) (w : World) (h0 : -9223372036854775808 ≤ v) (h1 : v < 9223372036854775808) :
    Calls Tryd.prog 28 #[.int .i64 v] w fun e w' => ∃ a c, e = .returned (.slice a (uvar (fo v)).length c) ∧ Seg w' a (uvar (fo v)).length c (uvar (fo v)) ∧ (a = none → c = 0) ∧ Below w.heap.size w w' :=
  (rsvar11 v w h0 h1).mono fun e w' ⟨y, he, ho, hb⟩ => by
    have hr := fo_range v h0 h1
    obtain ⟨a, c, rfl, hs, hn⟩ := seg_of_own ho (by have := uvar_len (fo v); omega) (uvar_range (fo v) hr.1 hr.2)
    exact ⟨a, c, he, hs, hn, hb⟩

set_option maxRecDepth 100000 in
set_option maxHeartbeats 4000000 in
theorem rencode10_no (c a : Int) (la : Option Addr) (ln lc : Nat) (l : List Int) (w : World) (h0 : 0 ≤ c) (h1 : c ≤ 255) (hl : SegI w la ln lc l) (hx : chk (tkV c) (lgV c) a l ≠ 0) :
    Calls Tryd.prog 10 #[insV c a (.slice la ln lc)] w fun e w' => e = .returned (.tuple #[.slice none 0 0, .int .i64 (chk (tkV c) (lgV c) a l)]) ∧ Below w.heap.size w w' := by
  have hb0 : Below w.heap.size w (w.alloc (.cells #[.int .u8 c, .int .i64 a, .slice la ln lc] 24)) := (Below.refl _ _).alloc (Nat.le_refl _) _
  have HC := hid (rcheck13 c a la ln lc l _ h0 h1 (hl.later hb0 (Nat.le_refl _)))
  clear hl
  generalize chk (tkV c) (lgV c) a l = x at *
  have hx' : (x != 0) = true := by simp [hx]
  unfold insV at *
  go_enter Tryd.func10, Tryd.ntmps10
  go_wp2_with fail
  refine HC.out.mono ?_
  rintro e w1 ⟨rfl, hb1⟩
  go_wp2_with fail
  go_ret2
  exact ⟨rfl, hb0.trans (hb1.mono (by simp))⟩

set_option maxRecDepth 100000 in
set_option maxHeartbeats 4000000 in
theorem rencode10 (c a : Int) (la : Option Addr) (ln lc : Nat) (l : List Int) (w : World) (h0 : 0 ≤ c) (h1 : c ≤ 255) (hl : SegI w la ln lc l) (hx : chk (tkV c) (lgV c) a l = 0) :
    Calls Tryd.prog 10 #[insV c a (.slice la ln lc)] w fun e w' => ∃ v, e = .returned (.tuple #[v, .int .i64 0]) ∧ w'.ownsRow w.heap.size 5 1 v (encV c a l).length ((encV c a l).map (Value.int .u8)) ∧ Below w.heap.size w w' := by
  have hb0 : Below w.heap.size w (w.alloc (.cells #[.int .u8 c, .int .i64 a, .slice la ln lc] 24)) := (Below.refl _ _).alloc (Nat.le_refl _) _
  have hchk := rcheck13 c a la ln lc l _ h0 h1 (hl.later hb0 (Nat.le_refl _))
  rw [hx] at hchk
  have HC := hid hchk
  obtain ⟨k1, k2, k3, k4, k5⟩ := chk_ok hx
  have lr := lo_range (tkV c) (lgV c)
  have hr := hi_range (tkV c) (lgV c)
  have HTk := hid (fun W => takes27 c W h0 h1)
  unfold encV encB
  generalize lgV c = g at *
  generalize tkV c = t at *
  clear hx hchk
  have HL := hid hl
  have hln := hl.2.2.1
  have hlen := hl.1
  clear hl
  unfold insV at *
  obtain ⟨E, hE⟩ : ∃ E, c :: (if t = 0 then [] else if t = 8 then uvar (fo a) else if t = 3 then uvar l.length ++ labB l else uvar a) = E := ⟨_, rfl⟩
  rw [hE]
  have HE := hid hE
  clear hE
  go_enter Tryd.func10, Tryd.ntmps10
  go_wp2_with fail
  refine HC.out.mono ?_
  rintro e w1 ⟨rfl, hb1⟩
  have x0 : w1.cell? ⟨w.heap.size, 0, none⟩ = some (.int .u8 c) := by rw [hb1.cell (by simp)]; simp [go_sem]
  have x1 : w1.cell? ⟨w.heap.size, 1, none⟩ = some (.int .i64 a) := by rw [hb1.cell (by simp)]; simp [go_sem]
  have x2 : w1.cell? ⟨w.heap.size, 2, none⟩ = some (.slice la ln lc) := by rw [hb1.cell (by simp)]; simp [go_sem]
  have hx := block_lt_of_cell x0
  simp only at hx
  have B1 := hid (hb0.trans (hb1.mono (by simp)))
  clear hb1 HC hb0
  have b2 : Below w1.heap.size w1 (w1.alloc (.cells #[.int .u8 c] 5)) := (Below.refl _ _).alloc (Nat.le_refl _) _
  have O2 := hid (own_one w1 c w1.heap.size (Nat.le_refl _))
  go_wp2_with fail
  refine (HTk.out _).mono ?_
  rintro e w3 ⟨rfl, hb3⟩
  have b3 := below_late b2 hb3
  have u1 : w3.cell? ⟨w.heap.size, 1, none⟩ = some (.int .i64 a) := (b3.cell (by exact hx)).trans x1
  have u2 : w3.cell? ⟨w.heap.size, 2, none⟩ = some (.slice la ln lc) := (b3.cell (by exact hx)).trans x2
  have O3 := hid (own_later O2.out hb3)
  have B3 := hid b3
  have hw13 : w1.heap.size < w3.heap.size := by have := hb3.size; simp at this; omega
  clear hb3 b2 b3 x0 x1 x2 HTk O2
  by_cases t0 : t = 0
  · subst t0
    go_wp2_with fail
    go_ret2
    refine ⟨_, rfl, ?_, below_late B1.out B3.out⟩
    have hE0 : E = [c] := by rw [← HE.out]; simp
    rw [hE0]
    exact own_mono O3.out B1.out.size
  have e0 : (t == 0) = false := by simp [t0]
  by_cases t8 : t = 8
  · subst t8
    have SV := hid (fun W => rsvarB a W (by omega) (by omega))
    have hul := uvar_len (fo a)
    have HE2 := hid (show E = [c] ++ uvar (fo a) by rw [← HE.out]; simp)
    clear HE HL
    generalize uvar (fo a) = U at *
    go_wp2_with fail
    refine (SV.out _).mono ?_
    rintro e w4 ⟨ua, uc, rfl, hs4, hn4, hb4⟩
    have S4 := hid hs4
    have N4 := hid hn4
    have B4 := hid (below_late B3.out hb4)
    have O4 := hid (own_later O3.out hb4)
    clear hs4 hb4 SV hn4
    go_wp2_with (at_builtin; (refine app_any _ rfl (.tmp 28) (.tmp 31) rfl w1.heap.size _ 1 [c] rfl O4.out _ _ _ U rfl S4.out N4.out (by omega) B4.out.size ?_; intro v5 w5 hown5 hb5; have O5 := hid hown5; have B5 := hid (B4.out.trans hb5); clear hown5 hb5))
    go_ret2
    refine ⟨_, rfl, ?_, below_late B1.out B5.out⟩
    have h := own_mono O5.out B1.out.size
    rw [HE2.out, show ([c] ++ U).length = 1 + U.length by simp; omega]
    exact h
  have e8 : (t == 8) = false := by simp [t8]
  have hh := hr.2.2 t8
  by_cases t3 : t = 3
  · subst t3
    obtain ⟨q1, q2, q3⟩ := k4 rfl
    have UV := hid (fun W => ruvarB (ln : Int) W (by omega) (by omega))
    have hul := uvar_len (ln : Int)
    have HE2 := hid (show E = ([c] ++ uvar (ln : Int)) ++ labB l by rw [← HE.out]; simp [hlen])
    have hw := wrap_in (ln : Int) (by omega) (by omega)
    clear HE
    generalize uvar (ln : Int) = U at *
    go_wp2_with fail
    refine (UV.out _).mono ?_
    rintro e w4 ⟨ua, uc, rfl, hs4, hn4, hb4⟩
    have S4 := hid hs4
    have N4 := hid hn4
    have B4 := hid (below_late B3.out hb4)
    have O4 := hid (own_later O3.out hb4)
    have v2 : w4.cell? ⟨w.heap.size, 2, none⟩ = some (.slice la ln lc) := (hb4.cell (by exact (show w.heap.size < w3.heap.size by omega))).trans u2
    clear hs4 hb4 UV hn4
    go_wp2_with (at_builtin; (refine app_any _ rfl (.tmp 35) (.tmp 40) rfl w1.heap.size _ 1 [c] rfl O4.out _ _ _ U rfl S4.out N4.out (by omega) B4.out.size ?_; intro v5 w5 hown5 hb5; have O5 := hid hown5; have B5 := hid (B4.out.trans hb5); have V2 := hid ((hb5.cell (p := ⟨w.heap.size, 2, none⟩) hx).trans v2); clear hown5 hb5))
    have HQ := hid q3
    have O5' := hid (show w5.ownsRow w1.heap.size 5 1 v5 (([c] ++ U) ++ labB (l.take 0)).length ((([c] ++ U) ++ labB (l.take 0)).map (Value.int .u8)) by
      have h := O5.out
      rw [show 1 + U.length = (([c] ++ U) ++ labB (l.take 0)).length by simp [labB]; omega] at h
      simpa [labB] using h)
    have hU : ([c] ++ U).length ≤ 11 := by simp; omega
    generalize [c] ++ U = C at *
    clear O5 O4 S4 u1 u2 v2
    go_loopw [5, 6] (fun v i wr => ∃ k : Nat, k ≤ ln ∧ i = .int .i64 k ∧ wr.ownsRow w1.heap.size 5 1 v (C ++ labB (l.take k)).length ((C ++ labB (l.take k)).map (Value.int .u8)) ∧ Below w1.heap.size w1 wr ∧ wr.cell? ⟨w.heap.size, 2, none⟩ = some (.slice la ln lc)) (fun _ i _ => ln - (intOf i).toNat)
    case atStart => exact ⟨0, Nat.zero_le _, rfl, O5'.out, B5.out, V2.out⟩
    case round =>
      obtain ⟨k, hk, rfl, hown, hb, hv2⟩ := hrel
      have OW := hid hown
      have BR := hid hb
      clear hown hb O5' B5 V2
      by_cases hlt : k < ln
      · have hgood := (okL_mem l).1 HQ.out
        rcases HL.out.2.2.2.2 with hz | ⟨b, off, rfl, hc⟩
        · omega
        have hcell : wr.cell? ⟨b, off + k, none⟩ = some (.int .i64 (l.getD k 0)) := ((below_late B1.out BR.out).cell (p := ⟨b, off + k, none⟩) (block_lt_of_cell (hc k hlt))).trans (hc k hlt)
        have hz : 0 ≤ l.getD k 0 ∧ l.getD k 0 ≤ 2147483647 := by
          have : k < l.length := by omega
          simp only [List.getD_eq_getElem?_getD, List.getElem?_eq_getElem this, Option.getD_some]; exact hgood _ (List.getElem_mem this)
        have HT := hid (labB_take l k (by omega))
        have hlab := labB_len (l.take k)
        have hlt2 : (l.take k).length ≤ 16 := by simp; omega
        have hlen2 : (C ++ labB (l.take k)).length ≤ 171 := by rw [List.length_append]; omega
        generalize l.getD k 0 = z at *
        have UV := hid (fun W => ruvarB z W (by omega) (by omega))
        have hul2 := uvar_len z
        have hw2 := wrap_in z (by omega) (by omega)
        clear hc hgood hlab
        generalize uvar z = Z at *
        go_wp2_with fail
        refine (UV.out _).mono ?_
        rintro e w6 ⟨ua6, uc6, rfl, hs6, hn6, hb6⟩
        have S6 := hid hs6
        have N6 := hid hn6
        have B6 := hid (below_late BR.out hb6)
        have O6 := hid (own_later OW.out hb6)
        have hwr : w.heap.size < wr.heap.size := block_lt_of_cell hv2
        have V6 := hid ((hb6.cell (p := ⟨w.heap.size, 2, none⟩) hwr).trans hv2)
        clear hs6 hb6 UV hn6
        go_wp2_with (at_builtin; (refine app_any _ rfl (.tmp 49) (.tmp 56) rfl w1.heap.size _ _ (C ++ labB (l.take k)) rfl O6.out _ _ _ Z rfl S6.out N6.out (by omega) B6.out.size ?_; intro v7 w7 hown7 hb7; have O7 := hid hown7; have B7 := hid (B6.out.trans hb7); have V7 := hid ((hb7.cell (p := ⟨w.heap.size, 2, none⟩) hx).trans V6.out); clear hown7 hb7))
        refine ⟨⟨k + 1, by omega, by go_num, ?_, B7.out, V7.out⟩, by simp [intOf]; omega⟩
        have h := O7.out
        rw [HT.out, ← List.append_assoc, @List.length_append Int (C ++ labB (l.take k)) Z]
        exact h
      · go_wp2_with fail
        go_ret2
        refine ⟨_, rfl, ?_, below_late B1.out BR.out⟩
        have h := own_mono OW.out B1.out.size
        rw [List.take_of_length_le (by omega)] at h
        rw [HE2.out]
        exact h
  have e3 : (t == 3) = false := by simp [t3]
  have UV := hid (fun W => ruvarB a W (by omega) (by omega))
  have hul := uvar_len a
  have HE2 := hid (show E = [c] ++ uvar a by rw [← HE.out, if_neg t0, if_neg t8, if_neg t3]; rfl)
  have ha0 : 0 ≤ a := by omega
  have ha1 : a ≤ 4294967295 := by omega
  clear HE HL
  generalize uvar a = U at *
  go_wp2_with fail
  refine (UV.out _).mono ?_
  rintro e w4 ⟨ua, uc, rfl, hs4, hn4, hb4⟩
  have S4 := hid hs4
  have N4 := hid hn4
  have B4 := hid (below_late B3.out hb4)
  have O4 := hid (own_later O3.out hb4)
  clear hs4 hb4 UV hn4
  go_wp2_with (at_builtin; (refine app_any _ rfl (.tmp 18) (.tmp 22) rfl w1.heap.size _ 1 [c] rfl O4.out _ _ _ U rfl S4.out N4.out (by omega) B4.out.size ?_; intro v5 w5 hown5 hb5; have O5 := hid hown5; have B5 := hid (B4.out.trans hb5); clear hown5 hb5))
  go_ret2
  refine ⟨_, rfl, ?_, below_late B1.out B5.out⟩
  have h := own_mono O5.out B1.out.size
  rw [HE2.out, show ([c] ++ U).length = 1 + U.length by simp; omega]
  exact h
end Go.Proofs.YtgljlclnmnfocaaDoor
