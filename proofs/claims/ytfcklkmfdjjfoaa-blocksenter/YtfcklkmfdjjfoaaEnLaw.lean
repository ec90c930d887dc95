/-
  The walk over BlocksEnter: true, whatever the code.
-/
import Derived.Test.YtfcklkmfdjjfoaaWk
import Derived.Test.YtfcklkmfdjjfoaaEp
import Derived.Test.YtfcklkmfdjjfoaaNx
namespace Go.Proofs.Ytfcklkmfdjjfoaa
open Go.RowKit
set_option linter.unusedVariables false

theorem seg_nil (w : World) (a : Option Addr) (c : Nat) : SegL w a 0 c [] := ⟨rfl, Nat.zero_le _, by omega, .inl rfl⟩

theorem pls_len (O : Nat → Int) (n i : Nat) (c a : Int) (l : List Int) : (pls O n i c a l).length ≤ l.length + 2 := by
  have h1 := brn_len O n i a
  have h2 := brn_all_len O n i l
  unfold pls
  split
  · simp
  split
  · simp
  split
  · simp
  split
  · simp only [List.length_cons]; omega
  split
  · omega
  split
  · omega
  split
  · simp
  · simp

set_option maxRecDepth 100000 in
set_option maxHeartbeats 16000000 in
theorem enter (a : Option Addr) (n cap : Nat) (xs : List Inx) (w : World) (hn : n ≤ 140737488355328) (hcap : n ≤ cap) (hc : CodS w a n xs) :
    Calls Try.prog 3 #[.slice a n cap] w fun e w' => e = .returned (.bool true) ∧ Below w.heap.size w w' := by
  have H1 := hid (works w)
  have HC := hid hc
  clear hc
  go_enter Try.func3, Try.ntmps3
  go_wp2_with fail
  refine H1.out.mono ?_
  rintro e w1 ⟨rfl, hb1⟩
  have H2 := hid (sizeC a n cap xs w1 hn hcap (HC.out.later hb1 (Nat.le_refl _)))
  have hs1 := hb1.size
  have HB1 := hid hb1
  clear hb1
  go_wp2_with fail
  refine H2.out.mono ?_
  rintro e w2 ⟨s, rfl, hsz, hk2⟩
  have hb2 := below_kept HB1.out hk2 hs1 (fun _ x => x.elim)
  have hs2 := hb2.size
  have HB2 := hid hb2
  by_cases hbig : 500 < s
  · have hbig' : (500 : Int) < (s : Int) := by omega
    clear hb2 hsz hk2
    go_wp2_with fail
    go_ret
    exact ⟨rfl, HB2.out⟩
  have hbig' : ¬ (500 : Int) < (s : Int) := by omega
  have hsz := hsz (by omega)
  have hlen := HC.out.1
  have hn3 : n ≤ 500 := by have := szF_len xs n; omega
  have hln : ∀ j, j < n → (xs.getD j dx).ln ≤ 100000 := fun j hj => by have := szF_ln xs hj; omega
  have H3 := hid (map_in a n cap xs w2 (by omega) hcap (HC.out.later hb2 (Nat.le_refl _)))
  have HLN := hid hln
  clear hb2 hsz hk2 hln H1 H2
  go_wp2_with fail
  refine H3.out.mono ?_
  rintro e w3 ⟨a1, a2, a3, m, rfl, hM, hb3⟩
  have hb3' := HB2.out.trans (hb3.mono hs2)
  have HB3 := hid hb3'
  have hs3 := hb3.size
  rcases hM with ⟨h0, rfl, rfl, rfl, rfl⟩ | ⟨hr, hg, hm, A, B, C, x1, x2, x3, x4, x5, x6, rfl, rfl, rfl, y1, y2, y3⟩
  · have HO := hid (ofC a n cap xs none 0 0 none 0 0 none 0 0 none 0 0 0 [] [] w3 (by omega) hcap (HC.out.later hb3' (Nat.le_refl _)) (seg_nil _ _ _) (seg_nil _ _ _))
    have h00 := h0
    generalize hq0 : (res (opF xs) n 0).1 = er0 at h0 ⊢
    generalize (res (opF xs) n 0).2 = er1 at *
    have HQ0 := hid h00
    clear hq0 h00
    have hne : (er0 != 0) = true := by simpa using h0
    clear hb3 hb3' H3
    go_wp2_with fail
    refine HO.out.mono ?_
    rintro e w4 ⟨b1, b2, m, rfl, hO, hb4⟩
    rcases hO with ⟨_, rfl, rfl, rfl⟩ | ⟨hg, _⟩
    · have hb5 := HB3.out.trans (hb4.mono HB3.out.size)
      have HB5 := hid (hb5.alloc hb5.size (Obj.cells #[Value.slice none 0 0, .slice none 0 0] 30))
      clear hb4 hb5
      go_wp2_with fail
      go_ret
      exact ⟨rfl, HB5.out⟩
    · exact absurd (by rw [res_good_back hg]) HQ0.out
  have hm' := hm.symm
  subst hm'
  have hn0 := hg.1
  obtain ⟨b, off, rfl, hcd⟩ := HC.out.2.resolve_left (by omega)
  have hr0 : (res (opF xs) n 0).1 = 0 := by rw [hr]
  have HO := hid (ofC (some ⟨b, off, none⟩) n cap xs none 0 0 (some ⟨A, 0, none⟩) n n (some ⟨B, 0, none⟩) n n none 0 0 0 _ _ w3 (by omega) hcap (HC.out.later hb3' (Nat.le_refl _)) (y1.segL (by omega)) (y2.segL (by omega)))
  rw [hr]
  have HCD := hid hcd
  have HG := hid hg
  have HR0 := hid hr0
  clear hb3 hb3' hg hr0 y1 y2 y3 hcd hr H3
  go_wp2_with fail
  refine HO.out.mono ?_
  rintro e w4 ⟨b1, b2, m, rfl, hO, hb4⟩
  rcases hO with ⟨hx, _⟩ | ⟨hg, _, _, hm, A2, B2, z1, z2, z3, rfl, rfl, y1, y2⟩
  · exact absurd ⟨HR0.out, rfl, rfl⟩ hx
  have hm' := hm.symm
  subst hm'
  have hb5 := HB3.out.trans (hb4.mono HB3.out.size)
  obtain ⟨ob, hob⟩ : ∃ ob, ob = Obj.cells #[Value.slice (some ⟨A2, 0, none⟩) n n, .slice (some ⟨B2, 0, none⟩) n n] 30 := ⟨_, rfl⟩
  have p0 : (w4.alloc ob).cell? ⟨w4.heap.size, 0, none⟩ = some (.slice (some ⟨A2, 0, none⟩) n n) := by rw [hob, World.cell?_alloc_new]; rfl
  have p1 : (w4.alloc ob).cell? ⟨w4.heap.size, 1, none⟩ = some (.slice (some ⟨B2, 0, none⟩) n n) := by rw [hob, World.cell?_alloc_new]; rfl
  have zz : (w4.alloc ob).heap.size = w4.heap.size + 1 := by simp
  have Y1 := hid (y1.kept (Kept.alloc (fun _ => False) w4 ob) (fun x => x))
  have Y2 := hid (y2.kept (Kept.alloc (fun _ => False) w4 ob) (fun x => x))
  have HB5 := hid (hb5.alloc hb5.size ob)
  have hmm : ((n : Int) != (n : Int)) = false := by simp
  have hm0 : ((n : Int) == 0) = false := by simp; omega
  clear hb4 hb5 y1 y2 hg HO
  subst hob
  go_wp2_with fail
  generalize w4.alloc (Obj.cells #[Value.slice (some ⟨A2, 0, none⟩) n n, .slice (some ⟨B2, 0, none⟩) n n] 30) = wx at *
  have hwx : w.heap.size ≤ wx.heap.size := HB5.out.size
  have hX : w4.heap.size < wx.heap.size := by omega
  go_loopw [10] (fun p wr => ∃ k : Nat, k ≤ n ∧ p = .int .i64 k ∧ Below wx.heap.size wx wr) (fun p _ => n - (intOf p).toNat)
  case atStart => exact ⟨0, by omega, rfl, Below.refl _ _⟩
  case round =>
    obtain ⟨k, hk, rfl, hbx⟩ := hrel
    have hbw : Below w.heap.size w wr := HB5.out.trans (hbx.mono hwx)
    by_cases hlt : k < n
    · have hcr := HCD.out.later hbw (Nat.le_refl _)
      have hN := nextC (some ⟨b, off, none⟩) n cap xs k wr (by omega) hcap ⟨HCD.out.1, .inr ⟨_, _, rfl, hcr⟩⟩ HLN.out
      have hnx : nxtV (opF xs) n k (xs.getD (k : Int).toNat dx) = nub (pls (opF xs) n k (opF xs k) (xs.getD k dx).a (xs.getD k dx).l) := by
        unfold nxtV; rw [if_pos ⟨HR0.out, by omega, by omega⟩, Int.toNat_natCast]; rfl
      rw [hnx] at hN
      have hF := enter_fact (a := (xs.getD k dx).a) (l := (xs.getD k dx).l) HG.out hlt
      have hA := Y1.out.later hbx (Nat.le_refl _)
      have hB := Y2.out.later hbx (Nat.le_refl _)
      have u0 := (hbx.cell (p := ⟨w4.heap.size, 0, none⟩) (by exact hX)).trans p0
      have u1 := (hbx.cell (p := ⟨w4.heap.size, 1, none⟩) (by exact hX)).trans p1
      have HN := hid hN
      have hNL : (nub (pls (opF xs) n k (opF xs k) (xs.getD k dx).a (xs.getD k dx).l)).length ≤ 100002 := by
        refine Nat.le_trans (nub_len _) (Nat.le_trans (pls_len _ _ _ _ _ _) ?_)
        have h1 := (hcr.2 k hlt).2.2.2.2.2.2.2.2 (HLN.out k hlt)
        have h2 := HLN.out k hlt
        have h3 := h1.1
        omega
      have HNL := hid hNL
      clear hN hnx hcr hNL
      generalize nub (pls (opF xs) n k (opF xs k) (xs.getD k dx).a (xs.getD k dx).l) = N at *
      generalize stF (leB (opF xs) n) = S at *
      generalize lfF S n = F at *
      obtain ⟨e1, e2, e3, e4, e5, e6, e7, e8, e9, e10⟩ := hF
      have c0 := hA.cell k hlt
      have c1 := hB.cell k hlt
      have c2 := hA.cell (S k) (by omega)
      have c3 := hB.cell (S k) (by omega)
      rw [e4] at c2
      have e5' : ((F (S k) : Nat) : Int) = (k : Int) - (S k : Int) + (F k : Int) := by omega
      rw [e5'] at c3
      have g1 : ¬ ((S k : Nat) : Int) < 0 := by omega
      have g2 : ¬ (k : Int) < ((S k : Nat) : Int) := by omega
      have g3 : ¬ ((F k : Nat) : Int) < 1 := by omega
      have g4 : ¬ (n : Int) < (k : Int) + ((F k : Nat) : Int) := by omega
      have g5 : ¬ (16 : Int) < (k : Int) - ((S k : Nat) : Int) + ((F k : Nat) : Int) := by omega
      have hlt' : (k : Int) < (n : Int) := by omega
      have hxr : wx.heap.size ≤ wr.heap.size := hbx.size
      have HE9 := hid e9
      have HE10 := hid e10
      have hkk : ((S k : Int) != (S k : Int)) = false := by simp
      have hc4 : 0 < k → wr.cell? ⟨A2, k - 1, none⟩ = some (.int .i64 (S (k - 1) : Int)) ∧ wr.cell? ⟨B2, k - 1, none⟩ = some (.int .i64 (F (k - 1) : Int)) := fun h => ⟨hA.cell (k - 1) (by omega), hB.cell (k - 1) (by omega)⟩
      have HC4 := hid hc4
      have HE7 := hid e7
      have HE8 := hid e8
      have HBX := hid hbx
      have HAA := hid hA
      clear e9 e10 hc4 e7 e8 e5 e6 e4 e5' hB hbw
      have hcase : (S k ≠ k ∧ 0 < k ∧ wr.cell? ⟨A2, k - 1, none⟩ = some (.int .i64 (S k : Int)) ∧ wr.cell? ⟨B2, k - 1, none⟩ = some (.int .i64 ((F k : Int) + 1))) ∨ (S k = k ∧ k = 0) ∨ (S k = k ∧ 0 < k ∧ wr.cell? ⟨B2, k - 1, none⟩ = some (.int .i64 1)) := by
        by_cases hsk : S k = k
        · by_cases hk0 : k = 0
          · exact .inr (.inl ⟨hsk, hk0⟩)
          · have h1 := HC4.out (by omega)
            have h2 := HE8.out hsk (by omega)
            rw [h2] at h1
            exact .inr (.inr ⟨hsk, by omega, h1.2⟩)
        · obtain ⟨h0, h1, h2⟩ := HE7.out hsk
          have h3 := HC4.out h0
          rw [h1, h2] at h3
          exact .inl ⟨hsk, h0, h3.1, by rw [h3.2]; rfl⟩
      have HCASE := hid hcase
      clear hcase HE7 HE8 HC4
      generalize hs0 : S k = sk at *
      generalize hf0 : F k = f at *
      clear hs0 hf0
      rcases HCASE.out with ⟨d1, d2, d3, d4⟩ | ⟨d1, d2⟩ | ⟨d1, d2, d4⟩
      · have hne : ((sk : Int) != (k : Int)) = true := by simp; omega
        have hne' : ((sk : Int) == (k : Int)) = false := by simp; omega
        have d2' : (0 : Int) < (k : Int) := by omega
        have D1 := hid d1
        clear d1 HCASE hbx hA
        go_wp2_with fail
        refine HN.out.mono ?_
        rintro e w5 ⟨v, rfl, hL, hb5⟩
        obtain ⟨na, nc, rfl⟩ := hL.slice
        have hLc := hL.cell
        have v0 := (hb5.cell (p := ⟨w4.heap.size, 0, none⟩) (by show w4.heap.size < _; omega)).trans u0
        have hA5 := HAA.out.later hb5 (Nat.le_refl _)
        have HB6 := hid (HBX.out.trans (hb5.mono hxr))
        have hNl := hL.1
        have hNL : N.length ≤ 100002 := HNL.out
        by_cases hf : 1 < f
        · have hN1 := HE9.out hf
          have hf' : (1 : Int) < (f : Int) := by omega
          have hl1 : N.length = 1 := by rw [hN1]; rfl
          obtain ⟨Bn, hna, hcl⟩ := hLc.2.resolve_left (by omega)
          subst hna
          have k0 := hcl 0 (by omega)
          rw [hN1] at k0
          simp only [List.getD_cons_zero] at k0
          have hone : (f : Int) ≠ 1 := by omega
          have hone' : ((f : Int) == 1) = false := by simp; omega
          rw [hl1]
          have K0 := hid k0
          have HA5 := hid hA5
          clear hN1 hLc hL hb5 hcl hA5 hNl
          go_wp2_with fail
          go_loopw [14] (fun p wy => ∃ j : Nat, j ≤ 1 ∧ p = .int .i64 j ∧ wy = w5) (fun p _ => 1 - (intOf p).toNat)
          case atStart => exact ⟨0, by omega, rfl, rfl⟩
          case round =>
            obtain ⟨j, hj, rfl, rfl⟩ := hrel
            by_cases hj0 : j = 0
            · subst hj0
              have k0 := K0.out
              by_cases hkn : k + 1 < n
              · have hkn' : (k : Int) + 1 < (n : Int) := by omega
                go_wp2_with fail
                exact ⟨⟨1, by omega, by go_num, trivial⟩, by simp [intOf]⟩
              · have hkn' : ¬ (k : Int) + 1 < (n : Int) := by omega
                go_wp2_with fail
                exact ⟨⟨1, by omega, by go_num, trivial⟩, by simp [intOf]⟩
            · have hj1 : j = 1 := by omega
              subst hj1
              go_wp2_with fail
              exact ⟨⟨k + 1, by omega, by go_num, HB6.out⟩, by simp [intOf]; omega⟩
        · have hf' : ¬ (1 : Int) < (f : Int) := by omega
          have hf1 : f = 1 := by omega
          have hone : ((f : Int) == 1) = true := by simp; omega
          have HLC := hid hLc
          have HA5 := hid hA5
          have HF1 := hid hf1
          clear hLc hL hb5 hA5 hNl hf1 hf
          go_wp2_with fail
          go_loopw [14] (fun p wy => ∃ j : Nat, j ≤ N.length ∧ p = .int .i64 j ∧ wy = w5) (fun p _ => N.length - (intOf p).toNat)
          case atStart => exact ⟨0, by omega, rfl, rfl⟩
          case round =>
            obtain ⟨j, hj, rfl, rfl⟩ := hrel
            by_cases hjl : j < N.length
            · have hjl' : (j : Int) < (N.length : Int) := by omega
              obtain ⟨Bn, hna, hcl⟩ := HLC.out.2.resolve_left (by omega)
              subst hna
              have k0 := hcl j hjl
              have hin : N.getD j 0 ∈ N := by
                rw [List.getD_eq_getElem?_getD, List.getElem?_eq_getElem hjl]; exact List.getElem_mem hjl
              obtain ⟨q0, q1⟩ := HE10.out _ hin
              obtain ⟨p, hp⟩ : ∃ p : Nat, N.getD j 0 = p := ⟨(N.getD j 0).toNat, by omega⟩
              rw [hp] at k0 q1
              rw [Int.toNat_natCast] at q1
              have HCL := hid hcl
              clear hcl hin q0 hp
              generalize N.length = NL at *
              by_cases hpn : p < n
              · have hpn' : (p : Int) < (n : Int) := by omega
                have hS := q1 hpn' (.inr HF1.out)
                have kA := HA5.out.cell p hpn
                rw [hS] at kA
                have hpp : ((p : Int) != (p : Int)) = false := by simp
                clear hS q1
                by_cases hpk : (p : Int) = (k : Int) + 1
                · have hpk1 : ((p : Int) != (k : Int) + 1) = false := by simp [hpk]
                  have HPK := hid hpk
                  clear hpk
                  go_wp2_with fail
                  exact ⟨⟨j + 1, by omega, by go_num, trivial⟩, by simp [intOf]; omega⟩
                · have hpk1 : ((p : Int) != (k : Int) + 1) = true := by simpa using hpk
                  have HPK := hid hpk
                  clear hpk
                  go_wp2_with fail
                  exact ⟨⟨j + 1, by omega, by go_num, trivial⟩, by simp [intOf]; omega⟩
              · have hpn' : ¬ (p : Int) < (n : Int) := by omega
                clear q1
                go_wp2_with fail
                exact ⟨⟨j + 1, by omega, by go_num, trivial⟩, by simp [intOf]; omega⟩
            · have hjl' : ¬ (j : Int) < (N.length : Int) := by omega
              generalize N.length = NL at *
              go_wp2_with fail
              exact ⟨⟨k + 1, by omega, by go_num, HB6.out⟩, by simp [intOf]; omega⟩
      · have hne : ((sk : Int) != (k : Int)) = false := by simp; omega
        have hne' : ((sk : Int) == (k : Int)) = true := by simp; omega
        have d2' : ¬ (0 : Int) < (k : Int) := by omega
        have D1 := hid d1
        have D2 := hid d2
        clear d1 d2 HCASE hbx hA
        go_wp2_with fail
        refine HN.out.mono ?_
        rintro e w5 ⟨v, rfl, hL, hb5⟩
        obtain ⟨na, nc, rfl⟩ := hL.slice
        have hLc := hL.cell
        have v0 := (hb5.cell (p := ⟨w4.heap.size, 0, none⟩) (by show w4.heap.size < _; omega)).trans u0
        have hA5 := HAA.out.later hb5 (Nat.le_refl _)
        have HB6 := hid (HBX.out.trans (hb5.mono hxr))
        have hNl := hL.1
        have hNL : N.length ≤ 100002 := HNL.out
        by_cases hf : 1 < f
        · have hN1 := HE9.out hf
          have hf' : (1 : Int) < (f : Int) := by omega
          have hl1 : N.length = 1 := by rw [hN1]; rfl
          obtain ⟨Bn, hna, hcl⟩ := hLc.2.resolve_left (by omega)
          subst hna
          have k0 := hcl 0 (by omega)
          rw [hN1] at k0
          simp only [List.getD_cons_zero] at k0
          have hone : (f : Int) ≠ 1 := by omega
          have hone' : ((f : Int) == 1) = false := by simp; omega
          rw [hl1]
          have K0 := hid k0
          have HA5 := hid hA5
          clear hN1 hLc hL hb5 hcl hA5 hNl
          go_wp2_with fail
          go_loopw [14] (fun p wy => ∃ j : Nat, j ≤ 1 ∧ p = .int .i64 j ∧ wy = w5) (fun p _ => 1 - (intOf p).toNat)
          case atStart => exact ⟨0, by omega, rfl, rfl⟩
          case round =>
            obtain ⟨j, hj, rfl, rfl⟩ := hrel
            by_cases hj0 : j = 0
            · subst hj0
              have k0 := K0.out
              by_cases hkn : k + 1 < n
              · have hkn' : (k : Int) + 1 < (n : Int) := by omega
                go_wp2_with fail
                exact ⟨⟨1, by omega, by go_num, trivial⟩, by simp [intOf]⟩
              · have hkn' : ¬ (k : Int) + 1 < (n : Int) := by omega
                go_wp2_with fail
                exact ⟨⟨1, by omega, by go_num, trivial⟩, by simp [intOf]⟩
            · have hj1 : j = 1 := by omega
              subst hj1
              go_wp2_with fail
              exact ⟨⟨k + 1, by omega, by go_num, HB6.out⟩, by simp [intOf]; omega⟩
        · have hf' : ¬ (1 : Int) < (f : Int) := by omega
          have hf1 : f = 1 := by omega
          have hone : ((f : Int) == 1) = true := by simp; omega
          have HLC := hid hLc
          have HA5 := hid hA5
          have HF1 := hid hf1
          clear hLc hL hb5 hA5 hNl hf1 hf
          go_wp2_with fail
          go_loopw [14] (fun p wy => ∃ j : Nat, j ≤ N.length ∧ p = .int .i64 j ∧ wy = w5) (fun p _ => N.length - (intOf p).toNat)
          case atStart => exact ⟨0, by omega, rfl, rfl⟩
          case round =>
            obtain ⟨j, hj, rfl, rfl⟩ := hrel
            by_cases hjl : j < N.length
            · have hjl' : (j : Int) < (N.length : Int) := by omega
              obtain ⟨Bn, hna, hcl⟩ := HLC.out.2.resolve_left (by omega)
              subst hna
              have k0 := hcl j hjl
              have hin : N.getD j 0 ∈ N := by
                rw [List.getD_eq_getElem?_getD, List.getElem?_eq_getElem hjl]; exact List.getElem_mem hjl
              obtain ⟨q0, q1⟩ := HE10.out _ hin
              obtain ⟨p, hp⟩ : ∃ p : Nat, N.getD j 0 = p := ⟨(N.getD j 0).toNat, by omega⟩
              rw [hp] at k0 q1
              rw [Int.toNat_natCast] at q1
              have HCL := hid hcl
              clear hcl hin q0 hp
              generalize N.length = NL at *
              by_cases hpn : p < n
              · have hpn' : (p : Int) < (n : Int) := by omega
                have hS := q1 hpn' (.inr HF1.out)
                have kA := HA5.out.cell p hpn
                rw [hS] at kA
                have hpp : ((p : Int) != (p : Int)) = false := by simp
                clear hS q1
                by_cases hpk : (p : Int) = (k : Int) + 1
                · have hpk1 : ((p : Int) != (k : Int) + 1) = false := by simp [hpk]
                  have HPK := hid hpk
                  clear hpk
                  go_wp2_with fail
                  exact ⟨⟨j + 1, by omega, by go_num, trivial⟩, by simp [intOf]; omega⟩
                · have hpk1 : ((p : Int) != (k : Int) + 1) = true := by simpa using hpk
                  have HPK := hid hpk
                  clear hpk
                  go_wp2_with fail
                  exact ⟨⟨j + 1, by omega, by go_num, trivial⟩, by simp [intOf]; omega⟩
              · have hpn' : ¬ (p : Int) < (n : Int) := by omega
                clear q1
                go_wp2_with fail
                exact ⟨⟨j + 1, by omega, by go_num, trivial⟩, by simp [intOf]; omega⟩
            · have hjl' : ¬ (j : Int) < (N.length : Int) := by omega
              generalize N.length = NL at *
              go_wp2_with fail
              exact ⟨⟨k + 1, by omega, by go_num, HB6.out⟩, by simp [intOf]; omega⟩
      · have hne : ((sk : Int) != (k : Int)) = false := by simp; omega
        have hne' : ((sk : Int) == (k : Int)) = true := by simp; omega
        have d2' : (0 : Int) < (k : Int) := by omega
        have D1 := hid d1
        clear d1 HCASE hbx hA
        go_wp2_with fail
        refine HN.out.mono ?_
        rintro e w5 ⟨v, rfl, hL, hb5⟩
        obtain ⟨na, nc, rfl⟩ := hL.slice
        have hLc := hL.cell
        have v0 := (hb5.cell (p := ⟨w4.heap.size, 0, none⟩) (by show w4.heap.size < _; omega)).trans u0
        have hA5 := HAA.out.later hb5 (Nat.le_refl _)
        have HB6 := hid (HBX.out.trans (hb5.mono hxr))
        have hNl := hL.1
        have hNL : N.length ≤ 100002 := HNL.out
        by_cases hf : 1 < f
        · have hN1 := HE9.out hf
          have hf' : (1 : Int) < (f : Int) := by omega
          have hl1 : N.length = 1 := by rw [hN1]; rfl
          obtain ⟨Bn, hna, hcl⟩ := hLc.2.resolve_left (by omega)
          subst hna
          have k0 := hcl 0 (by omega)
          rw [hN1] at k0
          simp only [List.getD_cons_zero] at k0
          have hone : (f : Int) ≠ 1 := by omega
          have hone' : ((f : Int) == 1) = false := by simp; omega
          rw [hl1]
          have K0 := hid k0
          have HA5 := hid hA5
          clear hN1 hLc hL hb5 hcl hA5 hNl
          go_wp2_with fail
          go_loopw [14] (fun p wy => ∃ j : Nat, j ≤ 1 ∧ p = .int .i64 j ∧ wy = w5) (fun p _ => 1 - (intOf p).toNat)
          case atStart => exact ⟨0, by omega, rfl, rfl⟩
          case round =>
            obtain ⟨j, hj, rfl, rfl⟩ := hrel
            by_cases hj0 : j = 0
            · subst hj0
              have k0 := K0.out
              by_cases hkn : k + 1 < n
              · have hkn' : (k : Int) + 1 < (n : Int) := by omega
                go_wp2_with fail
                exact ⟨⟨1, by omega, by go_num, trivial⟩, by simp [intOf]⟩
              · have hkn' : ¬ (k : Int) + 1 < (n : Int) := by omega
                go_wp2_with fail
                exact ⟨⟨1, by omega, by go_num, trivial⟩, by simp [intOf]⟩
            · have hj1 : j = 1 := by omega
              subst hj1
              go_wp2_with fail
              exact ⟨⟨k + 1, by omega, by go_num, HB6.out⟩, by simp [intOf]; omega⟩
        · have hf' : ¬ (1 : Int) < (f : Int) := by omega
          have hf1 : f = 1 := by omega
          have hone : ((f : Int) == 1) = true := by simp; omega
          have HLC := hid hLc
          have HA5 := hid hA5
          have HF1 := hid hf1
          clear hLc hL hb5 hA5 hNl hf1 hf
          go_wp2_with fail
          go_loopw [14] (fun p wy => ∃ j : Nat, j ≤ N.length ∧ p = .int .i64 j ∧ wy = w5) (fun p _ => N.length - (intOf p).toNat)
          case atStart => exact ⟨0, by omega, rfl, rfl⟩
          case round =>
            obtain ⟨j, hj, rfl, rfl⟩ := hrel
            by_cases hjl : j < N.length
            · have hjl' : (j : Int) < (N.length : Int) := by omega
              obtain ⟨Bn, hna, hcl⟩ := HLC.out.2.resolve_left (by omega)
              subst hna
              have k0 := hcl j hjl
              have hin : N.getD j 0 ∈ N := by
                rw [List.getD_eq_getElem?_getD, List.getElem?_eq_getElem hjl]; exact List.getElem_mem hjl
              obtain ⟨q0, q1⟩ := HE10.out _ hin
              obtain ⟨p, hp⟩ : ∃ p : Nat, N.getD j 0 = p := ⟨(N.getD j 0).toNat, by omega⟩
              rw [hp] at k0 q1
              rw [Int.toNat_natCast] at q1
              have HCL := hid hcl
              clear hcl hin q0 hp
              generalize N.length = NL at *
              by_cases hpn : p < n
              · have hpn' : (p : Int) < (n : Int) := by omega
                have hS := q1 hpn' (.inr HF1.out)
                have kA := HA5.out.cell p hpn
                rw [hS] at kA
                have hpp : ((p : Int) != (p : Int)) = false := by simp
                clear hS q1
                by_cases hpk : (p : Int) = (k : Int) + 1
                · have hpk1 : ((p : Int) != (k : Int) + 1) = false := by simp [hpk]
                  have HPK := hid hpk
                  clear hpk
                  go_wp2_with fail
                  exact ⟨⟨j + 1, by omega, by go_num, trivial⟩, by simp [intOf]; omega⟩
                · have hpk1 : ((p : Int) != (k : Int) + 1) = true := by simpa using hpk
                  have HPK := hid hpk
                  clear hpk
                  go_wp2_with fail
                  exact ⟨⟨j + 1, by omega, by go_num, trivial⟩, by simp [intOf]; omega⟩
              · have hpn' : ¬ (p : Int) < (n : Int) := by omega
                clear q1
                go_wp2_with fail
                exact ⟨⟨j + 1, by omega, by go_num, trivial⟩, by simp [intOf]; omega⟩
            · have hjl' : ¬ (j : Int) < (N.length : Int) := by omega
              generalize N.length = NL at *
              go_wp2_with fail
              exact ⟨⟨k + 1, by omega, by go_num, HB6.out⟩, by simp [intOf]; omega⟩
    · have hlt' : ¬ (k : Int) < (n : Int) := by omega
      have HB9 := hid hbw
      clear hbw hbx
      go_wp2_with fail
      go_ret
      exact ⟨rfl, HB9.out⟩
end Go.Proofs.Ytfcklkmfdjjfoaa
