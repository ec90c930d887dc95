/-
  The walk over ControlBrackets: true, whatever the code.
-/
import Derived.Test.YtkcidabokgadcaaCross
import Derived.Test.YtkcidabokgadcaaCrossE
import Derived.Test.YtkcidabokgadcaaAround
namespace Go.Proofs.Ytkcidabokgadcaa
open Go.RowKit
set_option linter.unusedVariables false

theorem RI.later {w w' : World} {B n : Nat} {f : Nat → Int} {base : Nat} (h : RI w B n f) (hb : Below base w w') (hB : w.heap.size ≤ base) : RI w' B n f :=
  Row.keep h (hb.block B (by have := RI.lt h; omega))

/-- Nothing is crossed. -/
theorem crossedC (A B b off n cap i : Nat) (xs : List Inx) (w : World) (hn : n ≤ 1048576) (hcap : n ≤ cap) (hc : Cod w b off n xs) (hA : RI w A n (enF (opF xs) n)) (hB : RI w B n (elF (opF xs) n)) (hg : Good (opF xs) n) (hi : i < n) (ho : isO (opF xs i) = true ∨ opF xs i = 5) :
    Calls Try.prog 9 #[.slice (some ⟨b, off, none⟩) n cap, .slice (some ⟨A, 0, none⟩) n n, .slice (some ⟨B, 0, none⟩) n n, .int .i64 i] w fun e w' => e = .returned (.bool false) ∧ Kept (fun _ => False) w w' := by
  obtain ⟨j, e1, e2, e3, e4⟩ : ∃ j : Nat, enF (opF xs) n i = j ∧ i < j ∧ j < n - 1 ∧ opF xs j = 6 := by
    rcases ho with ho | ho
    · obtain ⟨j, a, b, c, d, _⟩ := good_open hg hi ho
      exact ⟨j, a, b, c, d⟩
    · exact (good_else hg hi ho).2
  have hnest : ∀ k, i < k → k < j → isO (opF xs i) = true → isO (opF xs k) = true → enF (opF xs) n k < j := fun k h1 h2 h3 h4 => by
    have := good_nest hg h1 h3 h4 (by rw [e1]; omega)
    rw [e1] at this; exact this
  rcases good_els (i := i) hg with hel | ⟨t, h1, h2, h3, h4, h5, h6⟩
  · exact crossed_plain A B b off n cap i j xs w hn hcap (fun j hj => hc.op hj) (fun j hj => hc.range hj) hA hB hi e1 e2 e3 e4 hnest hel
  · have h7 : t < j := by
      obtain ⟨q, q1, q2, q3, q4, q5, q6⟩ := good_open hg hi (isO_iff.2 (by omega))
      omega
    exact crossed_else A B b off n cap i j xs w hn hcap (fun j hj => hc.op hj) (fun j hj => hc.range hj) hA hB hi e1 e2 e3 e4 hnest t h1 h2 h7 h4 h5 h6

theorem made_ri {w1 : World} {B n : Nat} (hown : w1.ownsRow B 3 1 (.slice (some ⟨B, 0, none⟩) n n) n (madeCells (Value.int .i64 0).cells (n * 1)).toList) (f : Nat → Int) (hf : ∀ i, f i = 0) : RI w1 B n f := by
  have e : (madeCells (Value.int .i64 0).cells (n * 1)).toList = fl n f := by
    rw [Nat.mul_one]; refine (toList_madeCells_one _ _).trans ?_
    apply List.ext_getElem?
    intro j
    by_cases hj : j < n
    · rw [fl_get n _ j hj, hf]; simp [hj]
    · rw [List.getElem?_eq_none (by simp; omega), List.getElem?_eq_none (by rw [fl_len]; omega)]
  unfold RI
  rw [← e]; exact Row.of hown

set_option maxRecDepth 100000 in
set_option maxHeartbeats 8000000 in
theorem brackets (a : Option Addr) (n cap : Nat) (xs : List Inx) (w : World) (hn : n ≤ 140737488355328) (hcap : n ≤ cap) (hc : CodS w a n xs) :
    Calls Try.prog 3 #[.slice a n cap] w fun e w' => e = .returned (.bool true) ∧ Below w.heap.size w w' := by
  obtain ⟨i0, hi0, hz0, hz1, hz2⟩ := info_parts Try.infInts
  have HI0 := hid hi0
  have HZ0 := hid hz0
  have HZ1 := hid hz1
  have HZ2 := hid hz2
  have H1 := hid (works w)
  have HC := hid hc
  clear hc hi0 hz0 hz1 hz2
  go_enter Try.func3, Try.ntmps3
  go_wp2_with fail
  refine H1.out.mono ?_
  rintro e w1 ⟨rfl, hb1⟩
  have H2 := hid (sizeC a n cap xs w1 hn hcap (HC.out.later hb1 (Nat.le_refl _)))
  have hs1 := hb1.size
  have HB1 := hid hb1
  clear hb1
  go_wp2_with fail
  refine H2.out.mono ?_
  rintro e w2 ⟨s, rfl, hsz, hk2⟩
  have hb2 := below_kept HB1.out hk2 hs1 (fun _ x => x.elim)
  have hs2 := hb2.size
  have HB2 := hid hb2
  by_cases hbig : 600 < s
  · have hbig' : (600 : Int) < (s : Int) := by omega
    clear hb2 hsz hk2
    go_wp2_with fail
    go_ret
    exact ⟨rfl, HB2.out⟩
  have hbig' : ¬ (600 : Int) < (s : Int) := by omega
  have hsz := hsz (by omega)
  have hlen := HC.out.1
  have hn3 : n ≤ 600 := by have := szF_len xs n; omega
  have hln : ∀ j, j < n → (xs.getD j dx).ln ≤ 100000 := fun j hj => by have := szF_ln xs hj; omega
  have H3 := hid (map_in a n cap xs w2 (by omega) hcap (HC.out.later hb2 (Nat.le_refl _)))
  have HLN := hid hln
  clear hb2 hsz hk2 hln
  go_wp2_with fail
  refine H3.out.mono ?_
  rintro e w3 ⟨a1, a2, a3, m, rfl, hM, hb3⟩
  have hb3' := HB2.out.trans (hb3.mono hs2)
  have HB3 := hid hb3'
  have hs3 := hb3.size
  rcases hM with ⟨h0, rfl, rfl, rfl, rfl⟩ | ⟨hr, hg, hm, A, B, C, x1, x2, x3, x4, x5, x6, rfl, rfl, rfl, y1, y2, y3⟩
  · generalize (res (opF xs) n 0).1 = er0 at *
    generalize (res (opF xs) n 0).2 = er1 at *
    have hne : (er0 != 0) = true := by simpa using h0
    clear hb3 hb3'
    go_wp2_with fail
    go_ret
    exact ⟨rfl, HB3.out⟩
  have hm' := hm.symm
  subst hm'
  have hn0 := hg.1
  obtain ⟨b, off, rfl, hcd⟩ := HC.out.2.resolve_left (by omega)
  have hr0 : (res (opF xs) n 0).1 = 0 := by rw [hr]
  rw [hr]
  have HCD := hid hcd
  have HG := hid hg
  have HR0 := hid hr0
  have HY1 := hid y1
  have HY2 := hid y2
  have HY3 := hid y3
  have hnn : ((n : Int) != (n : Int)) = false := by simp
  have hn0' : ((n : Int) == 0) = false := by simp; omega
  have hbb2 : i0.bytes * n ≤ 281474976710656 := by rw [HZ2.out]; omega
  have hml : n ≤ maxLen := by unfold maxLen; omega
  have hlA := y1.lt
  have hlB := y2.lt
  have hlC := y3.lt
  clear hb3 hb3' hg hr0 y1 y2 y3 hcd hr
  go_wp2_with (first | (at_make; refine wpList_make_full _ rfl _ _ 25 rfl w3.heap.size 3 i0 (.int .i64 0) 1 Try.underlying25 HI0.out HZ0.out HZ1.out .i64 .i64 _ _ n rfl rfl (by omega) (by omega) hbb2 hml (Nat.le_refl _) ?_; intro w4 hown hgrow))
  have hZ : RI w4 w3.heap.size n (fun j => (cnt (opF xs) n 0 j : Int)) := made_ri hown _ (fun i => rfl)
  have hb4 : Below w3.heap.size w3 w4 := (Below.refl _ _).grown hgrow (Nat.le_refl _) (by simp)
  have hbw4 : Below w.heap.size w w4 := HB3.out.trans (hb4.mono HB3.out.size)
  have hs4 := hb4.size
  have hZl := hZ.lt
  have HZ := hid hZ
  have HA4 := hid (HY1.out.later hb4 (Nat.le_refl _))
  have HB4 := hid (HY2.out.later hb4 (Nat.le_refl _))
  have HC4 := hid (HY3.out.later hb4 (Nat.le_refl _))
  have HBW := hid hbw4
  have hsw : w.heap.size ≤ w3.heap.size := HB3.out.size
  have hsw4 : w.heap.size ≤ w4.heap.size := hbw4.size
  generalize hZn : w3.heap.size = Z at *
  clear hown hgrow hb4 hbw4 hZ hbb2 hml
  go_loopw [10] (fun p wr => ∃ k : Nat, k ≤ n ∧ p = .int .i64 k ∧ RI wr Z n (fun j => (cnt (opF xs) n k j : Int)) ∧ Kept (fun b => b = Z) w4 wr) (fun p _ => n - (intOf p).toNat)
  case atStart => exact ⟨0, by omega, rfl, HZ.out, Kept.refl _ _⟩
  case round =>
    obtain ⟨k, hk, rfl, hZr, kw⟩ := hrel
    have hbr : Below w.heap.size w wr := below_kept HBW.out kw hsw4 (fun x e => by omega)
    have hcr := HCD.out.later hbr (Nat.le_refl _)
    have hsr := hbr.size
    by_cases hkn : k < n
    · have hkn' : (k : Int) < (n : Int) := by omega
      have hAr := HA4.out.kept kw (fun e => by omega)
      have hBr := HB4.out.kept kw (fun e => by omega)
      have d1 := hcr.op hkn
      have r1 := hcr.range hkn
      have d2 := hAr.cell k hkn
      have d3 := hBr.cell k hkn
      have HZR := hid hZr
      have KW := hid kw
      have HAR := hid hAr
      have HBR := hid hBr
      by_cases hO : isO (opF xs k) = true
      · have HX := hid (crossedC A B b off n cap k xs wr (by omega) hcap hcr hAr hBr HG.out hkn (.inl hO))
        obtain ⟨j, e1, e2, e3, _⟩ := good_open HG.out hkn hO
        have HE1 := hid e1
        have HOO := hid hO
        generalize hcc : opF xs k = c at *
        clear hZr kw hAr hBr hcr hbr e1
        go_wp2_with fail
        refine (opensC _ _ r1.1 r1.2).mono ?_
        rintro e w5 ⟨rfl, hw⟩
        have hw := hw.symm
        subst hw
        rw [hO]
        go_wp2_with fail
        refine HX.out.mono ?_
        rintro e w6 ⟨rfl, k6⟩
        have f1 := k6.cell d2 (fun x => x)
        rw [HE1.out] at f1
        have hZ6 := HZR.out.kept k6 (fun x => x)
        have f2 := hZ6.cell j (by omega)
        have f3 := hZ6.free j
        have hq := cnt_le (opF xs) n k j
        have hput := hZ6.put (g := fun i => (cnt (opF xs) n (k + 1) i : Int)) j ((cnt (opF xs) n k j : Int) + 1) (fun i hi => by
          show ((cnt (opF xs) n k i + (if isO (opF xs k) = true ∧ enF (opF xs) n k = (i : Int) then 1 else 0) : Nat) : Int) = _
          rw [hcc]
          by_cases e : i = j
          · subst e; rw [if_pos ⟨HOO.out, HE1.out⟩, if_pos rfl]; omega
          · rw [if_neg (fun x => e (by have := x.2; rw [HE1.out] at this; omega)), if_neg e]; omega)
        have HP := hid hput.1
        have HK := hid (KW.out.trans (Kept.then (k6.mono (fun _ x => x.elim)) hput.2 (fun k _ x => x)))
        have hjn : (j : Int) < (n : Int) := by omega
        generalize cnt (opF xs) n k j = q at *
        clear hput hZ6 k6
        go_wp2_with fail
        exact ⟨⟨k + 1, by omega, by go_num, HP.out, HK.out⟩, by simp [intOf]; omega⟩
      · have hO : isO (opF xs k) = false := by simpa using hO
        by_cases h5 : opF xs k = 5
        · have HX := hid (crossedC A B b off n cap k xs wr (by omega) hcap hcr hAr hBr HG.out hkn (.inr h5))
          have hcn : ∀ i, (cnt (opF xs) n (k + 1) i : Int) = cnt (opF xs) n k i := fun i => by
            show ((cnt (opF xs) n k i + (if isO (opF xs k) = true ∧ enF (opF xs) n k = (i : Int) then 1 else 0) : Nat) : Int) = _
            rw [if_neg (fun x => by rw [hO] at x; cases x.1)]; rfl
          have HCN := hid hcn
          rw [h5] at d1 hO r1
          clear hZr kw hAr hBr hcr hbr hcn h5
          go_wp2_with fail
          refine (opensC _ _ (by omega) (by omega)).mono ?_
          rintro e w5 ⟨rfl, hw⟩
          have hw := hw.symm
          subst hw
          rw [hO]
          go_wp2_with fail
          refine HX.out.mono ?_
          rintro e w6 ⟨rfl, k6⟩
          have HK := hid (KW.out.trans (k6.mono (fun _ x => x.elim)))
          have HP := hid ((HZR.out.kept k6 (fun x => x)).congr (fun i _ => HCN.out i))
          clear k6
          go_wp2_with fail
          exact ⟨⟨k + 1, by omega, by go_num, HP.out, HK.out⟩, by simp [intOf]; omega⟩
        · obtain ⟨e1, e2⟩ := good_oth HG.out hO h5
          rw [e1] at d2
          rw [e2] at d3
          have hcn : ∀ i, (cnt (opF xs) n (k + 1) i : Int) = cnt (opF xs) n k i := fun i => by
            show ((cnt (opF xs) n k i + (if isO (opF xs k) = true ∧ enF (opF xs) n k = (i : Int) then 1 else 0) : Nat) : Int) = _
            rw [if_neg (fun x => by rw [hO] at x; cases x.1)]; rfl
          have HP := hid (hZr.congr (fun i _ => hcn i))
          have h5' : (opF xs k != 5) = true := by simpa using h5
          generalize opF xs k = c at *
          clear hZr kw hAr hBr hcr hbr hcn h5 e1 e2
          go_wp2_with fail
          refine (opensC _ _ r1.1 r1.2).mono ?_
          rintro e w5 ⟨rfl, hw⟩
          have hw := hw.symm
          subst hw
          rw [hO]
          go_wp2_with fail
          exact ⟨⟨k + 1, by omega, by go_num, HP.out, KW.out⟩, by simp [intOf]; omega⟩
    · obtain rfl : k = n := by omega
      have hkn' : ¬ (k : Int) < (k : Int) := by omega
      have HBR := hid hbr
      have HZR := hid hZr
      have HAR := hid (HA4.out.kept kw (fun e => by omega))
      have HCR := hid (HC4.out.kept kw (fun e => by omega))
      clear kw hZr hbr hcr
      generalize wr = wx at *
      go_wp2_with fail
      go_loopw [12] (fun p wr => ∃ q : Nat, q ≤ k ∧ p = .int .i64 q ∧ Below wx.heap.size wx wr) (fun p _ => k - (intOf p).toNat)
      case atStart => exact ⟨0, by omega, rfl, Below.refl _ _⟩
      case round =>
        obtain ⟨q, hq, rfl, hby⟩ := hrel
        have hbw : Below w.heap.size w wr := HBR.out.trans (hby.mono hsr)
        by_cases hqk : q < k
        · have hqk' : (q : Int) < (k : Int) := by omega
          have hcr := HCD.out.later hbw (Nat.le_refl _)
          have d1 := hcr.op hqk
          have r1 := hcr.range hqk
          have hZq := HZR.out.later hby (Nat.le_refl _)
          have d2 := hZq.cell q hqk
          have HX := hid (around A C b off k cap q xs wr (by omega) hcap hcr (HAR.out.later hby (Nat.le_refl _)) (HCR.out.later hby (Nat.le_refl _)) HR0.out hqk HLN.out)
          have HBY := hid hby
          have hsy := hby.size
          by_cases hlast : q = k - 1
          · have h6 : opF xs q = 6 := by rw [hlast]; exact HG.out.2.2.2.1
            rw [cnt_good HG.out hqk h6, if_pos hlast] at d2
            rw [h6] at d1
            have hl1 : ((q : Int) == (k : Int) - 1) = true := by simp; omega
            clear hZq hcr hbw hby hlast h6
            go_wp2_with fail
            refine HX.out.mono ?_
            rintro e w6 ⟨rfl, k6⟩
            have HK := hid (HBY.out.trans (k6.mono hsy))
            clear k6
            go_wp2_with fail
            exact ⟨⟨q + 1, by omega, by go_num, HK.out⟩, by simp [intOf]; omega⟩
          · have hl1 : ((q : Int) == (k : Int) - 1) = false := by simp; omega
            by_cases h6 : opF xs q = 6
            · rw [cnt_good HG.out hqk h6, if_neg hlast] at d2
              rw [h6] at d1
              clear hZq hcr hbw hby
              go_wp2_with fail
              refine HX.out.mono ?_
              rintro e w6 ⟨rfl, k6⟩
              have HK := hid (HBY.out.trans (k6.mono hsy))
              clear k6
              go_wp2_with fail
              exact ⟨⟨q + 1, by omega, by go_num, HK.out⟩, by simp [intOf]; omega⟩
            · have h6' : (opF xs q == 6) = false := by simpa using h6
              generalize opF xs q = c at *
              clear hZq hcr hbw hby d2
              go_wp2_with fail
              refine HX.out.mono ?_
              rintro e w6 ⟨rfl, k6⟩
              have HK := hid (HBY.out.trans (k6.mono hsy))
              clear k6
              go_wp2_with fail
              exact ⟨⟨q + 1, by omega, by go_num, HK.out⟩, by simp [intOf]; omega⟩
        · have hqk' : ¬ (q : Int) < (k : Int) := by omega
          have HB9 := hid hbw
          clear hbw hby
          go_wp2_with fail
          go_ret
          exact ⟨rfl, HB9.out⟩
end Go.Proofs.Ytkcidabokgadcaa
