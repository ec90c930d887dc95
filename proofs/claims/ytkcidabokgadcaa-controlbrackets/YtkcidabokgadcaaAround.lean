/-
  The walk over around: the labels at a pc are owners of owners, open there, and the places rise.
-/
import Derived.Test.YtkcidabokgadcaaGood
import Derived.Test.YtkcidabokgadcaaNx
namespace Go.Proofs.Ytkcidabokgadcaa
open Go.RowKit
set_option linter.unusedVariables false

/-- The k-th of the owners around i, and the one behind it. -/
theorem own_next {O : Nat → Int} {n i k : Nat} (hg : Good O n) (hi : i < n) (hk : k < (stk O i).length) : ∃ t : Nat, top ((stk O i).drop k) = (t : Int) ∧ t < i ∧ top (stk O t) = top ((stk O i).drop (k + 1)) ∧ (i : Int) ≤ enF O n t := by
  have hm : (stk O i)[k] ∈ stk O i := List.getElem_mem hk
  refine ⟨(stk O i)[k], ?_, (stk_mem O i _ hm).1, ?_, good_behind hg hi hm⟩
  · rw [List.drop_eq_getElem_cons hk]; rfl
  · rw [stk_drop O k i _ (List.getElem?_eq_getElem hk)]

theorem nxt_cell {l : List Int} (h : l.Pairwise (· < ·)) {k : Nat} (hk : k < l.length) (h0 : 0 < k) : l.getD (k - 1) 0 < l.getD k 0 := by
  have := List.pairwise_iff_getElem.1 h (k - 1) k (by omega) hk (by omega)
  rw [List.getD_eq_getElem?_getD, List.getD_eq_getElem?_getD, List.getElem?_eq_getElem hk, List.getElem?_eq_getElem (show k - 1 < l.length by omega)]
  exact this

set_option maxRecDepth 100000 in
set_option maxHeartbeats 4000000 in
theorem around (A C b off n cap i : Nat) (xs : List Inx) (w : World) (hn : n ≤ 1048576) (hcap : n ≤ cap) (hc : Cod w b off n xs) (hA : RI w A n (enF (opF xs) n)) (hC : RI w C n (owF (opF xs) n)) (h0 : (res (opF xs) n 0).1 = 0) (hi : i < n) (hln : ∀ j, j < n → (xs.getD j dx).ln ≤ 100000) :
    Calls Try.prog 10 #[.slice (some ⟨b, off, none⟩) n cap, .slice (some ⟨A, 0, none⟩) n n, .slice (some ⟨C, 0, none⟩) n n, .int .i64 i] w fun e w' => e = .returned (.bool true) ∧ Below w.heap.size w w' := by
  have hg := res_good h0
  have hcs : CodS w (some ⟨b, off, none⟩) n xs := ⟨hc.1, .inr ⟨b, off, rfl, hc⟩⟩
  have H1 := hid (labelsC (some ⟨b, off, none⟩) n cap xs i w hn hcap hcs)
  have ho : ∀ t, t < n → owF (opF xs) n t = top (stk (opF xs) t) := fun t ht => by unfold owF; rw [if_pos ht]
  have hv : labV (opF xs) n i = labs (opF xs) i := by unfold labV; rw [if_pos ⟨h0, by omega, by omega⟩]; simp
  have hbh : ∀ k, k < (stk (opF xs) i).length → _ := fun k hk => own_next hg hi hk
  have htl : ∀ k, k ≤ (stk (opF xs) i).length → top ((stk (opF xs) i).drop k) = (labs (opF xs) i).getD k 0 := top_labs (opF xs) i
  have hdn : ∀ k, (stk (opF xs) i).length ≤ k → top ((stk (opF xs) i).drop k) = -1 := fun k hk => by rw [List.drop_of_length_le hk]; rfl
  have hpr : ∀ z ∈ pls (opF xs) n i (opF xs i) (xs.getD i dx).a (xs.getD i dx).l, 0 ≤ z ∧ z ≤ n := pls_range hg hi
  have hnf := nub_facts (pls (opF xs) n i (opF xs i) (xs.getD i dx).a (xs.getD i dx).l)
  have hnv : nxtV (opF xs) n i (xs.getD ((i : Int)).toNat dx) = nub (pls (opF xs) n i (opF xs i) (xs.getD i dx).a (xs.getD i dx).l) := by
    unfold nxtV; rw [if_pos ⟨h0, by omega, by omega⟩]; simp [opF]
  have HA := hid hA
  have HC := hid hC
  have HCS := hid hcs
  have HG := hid hg
  have HO := hid ho
  have HV := hid hv
  have HBH := hid hbh
  have HTL := hid htl
  have HDN := hid hdn
  have HPR := hid hpr
  have HNF := hid hnf
  have HNV := hid hnv
  have H0 := hid h0
  have HLN := hid hln
  clear hc hA hC hcs hg ho hv hbh htl hdn hpr hnf hnv h0 hln
  go_enter Try.func10, Try.ntmps10
  go_wp2_with fail
  refine H1.out.mono ?_
  rintro e w1 ⟨v, rfl, hL, hb1⟩
  rw [HV.out] at hL
  obtain ⟨la, lc, rfl⟩ := hL.slice
  have hlen := labs_length (opF xs) i
  obtain ⟨Lb, rfl, hcell⟩ := hL.cell.2.resolve_left (by omega)
  have hs1 := hb1.size
  have c1 := HC.out.cell i hi
  rw [HO.out i hi] at c1
  have c1' : w1.cell? ⟨C, i, none⟩ = some (.int .i64 (top (stk (opF xs) i))) := (hb1.cell (p := ⟨C, i, none⟩) (by have := HC.out.lt; simp only; omega)).trans c1
  have HB1 := hid hb1
  have HCL := hid hcell
  have hlt := top_lt (opF xs) i
  generalize hS : (stk (opF xs) i).length = S at *
  generalize hLn : (labs (opF xs) i).length = L at *
  have ht0 : top (stk (opF xs) i) = top ((stk (opF xs) i).drop 0) := by rw [List.drop_zero]
  have hSb : S ≤ 32 := by rw [← hS]; exact stk_len (good_okp HG.out hi)
  have hL1 : 1 ≤ L := by omega
  have hL33 : L ≤ 33 := by omega
  have HLEN := hid hlen
  clear hL hb1 c1 hcell hlen hLn hS
  go_wp2_with fail
  go_loopw [10, 11] (fun p q wr => ∃ k : Nat, k ≤ L ∧ q = .int .i64 k ∧ p = .int .i64 (top ((stk (opF xs) i).drop k)) ∧ Kept (fun _ => False) w1 wr) (fun _ q _ => L - (intOf q).toNat)
  case atStart => exact ⟨0, by omega, rfl, by rw [← ht0], Kept.refl _ _⟩
  case round =>
    obtain ⟨k, hk, rfl, rfl, kw⟩ := hrel
    have KW := hid kw
    have hLS := HLEN.out
    by_cases hkL : k < L
    · have d1 := kw.cell (HCL.out k hkL) (fun x => x)
      rw [← HTL.out k (by omega)] at d1
      have hkL' : (k : Int) < (L : Int) := by omega
      by_cases hkS : k < S
      · obtain ⟨t, e1, e2, e3, e4⟩ := HBH.out k hkS
        have d2 : wr.cell? ⟨A, t, none⟩ = some (.int .i64 (enF (opF xs) n t)) := kw.cell ((HB1.out.cell (p := ⟨A, t, none⟩) (by have := HA.out.lt; simp only; omega)).trans (HA.out.cell t (by omega))) (fun x => x)
        have d3 : wr.cell? ⟨C, t, none⟩ = some (.int .i64 (top (stk (opF xs) t))) := by
          have := HC.out.cell t (by omega)
          rw [HO.out t (by omega)] at this
          exact kw.cell ((HB1.out.cell (p := ⟨C, t, none⟩) (by have := HC.out.lt; simp only; omega)).trans this) (fun x => x)
        rw [e3] at d3
        rw [e1] at d1
        rw [e1]
        have E3 := hid e3
        have KW := hid kw
        generalize enF (opF xs) n t = et at *
        generalize hz' : top ((stk (opF xs) i).drop (k + 1)) = z' at *
        have q1 : ((t : Int) != (t : Int)) = false := by simp
        have q2 : decide ((i : Int) ≤ (t : Int)) = false := by simp; omega
        have q2' : decide (i ≤ t) = false := by simp; omega
        have q3 : decide (et < (i : Int)) = false := by simp; omega
        have q4 : ((k : Int) == (L : Int) - 1) = false := by simp; omega
        have q5 : (t : Int) < (n : Int) := by omega
        have q6 : decide ((t : Int) < 0) = false := by simp
        clear e1 e3 kw hLS
        go_wp2_with fail
        refine ⟨⟨k + 1, by omega, by go_num, ?_, KW.out⟩, ?_⟩
        · rw [hz']
        · simp [intOf]; omega
      · have e1 := HDN.out k (by omega)
        rw [e1] at d1
        rw [e1]
        have e2 := HDN.out (k + 1) (by omega)
        have q2 : decide ((i : Int) ≤ (-1 : Int)) = false := by simp; omega
        have q4 : ((k : Int) == (L : Int) - 1) = true := by simp; omega
        clear e1 kw hLS
        go_wp2_with fail
        refine ⟨⟨k + 1, by omega, by go_num, ?_, KW.out⟩, ?_⟩
        · rw [e2]
        · simp [intOf]; omega
    · have hkL' : ¬ (k : Int) < (L : Int) := by omega
      have hb2 := below_kept HB1.out kw hs1 (fun _ x => x.elim)
      have hs2 := hb2.size
      have H2 := hid (nextC (some ⟨b, off, none⟩) n cap xs i wr hn hcap (HCS.out.later hb2 (Nat.le_refl _)) HLN.out)
      have HB2 := hid hb2
      clear kw hb2 hLS
      go_wp2_with fail
      refine H2.out.mono ?_
      rintro e w3 ⟨v, rfl, hL3, hb3⟩
      rw [HNV.out] at hL3
      obtain ⟨ma, mc, rfl⟩ := hL3.slice
      have hcl := hL3.cell.2
      have HB3 := hid (HB2.out.trans (hb3.mono hs2))
      have hnl : ∀ z ∈ nub (pls (opF xs) n i (opF xs i) (xs.getD i dx).a (xs.getD i dx).l), 0 ≤ z ∧ z ≤ n := fun z hz => HPR.out z ((HNF.out.2 z).1 hz)
      have HPW := hid HNF.out.1
      generalize nub (pls (opF xs) n i (opF xs i) (xs.getD i dx).a (xs.getD i dx).l) = l at *
      have hrg : ∀ k, k < l.length → 0 ≤ l.getD k 0 ∧ l.getD k 0 ≤ n := fun k hk => hnl _ (by rw [List.getD_eq_getElem?_getD, List.getElem?_eq_getElem hk]; exact List.getElem_mem hk)
      have hM : l.length ≤ 9223372036854775807 := by
        rcases hL3.2 with ⟨_, h⟩ | ⟨g, cp, cur, _, _, _, h4, h5, _⟩
        · omega
        · exact Nat.le_trans h4 (Nat.le_trans h5 (by decide))
      have HRG := hid hrg
      have HCL3 := hid hcl
      have hnx : ∀ k, k < l.length → 0 < k → l.getD (k - 1) 0 < l.getD k 0 := fun k h1 h2 => nxt_cell HPW.out h1 h2
      have HNX := hid hnx
      clear hL3 hb3 hcl hnl hrg hnx
      generalize hMl : l.length = M at *
      go_wp2_with fail
      go_loopw [13] (fun q wr => ∃ k : Nat, k ≤ M ∧ q = .int .i64 k ∧ Kept (fun _ => False) w3 wr) (fun q _ => M - (intOf q).toNat)
      case atStart => exact ⟨0, by omega, rfl, Kept.refl _ _⟩
      case round =>
        obtain ⟨k, hk, rfl, kw⟩ := hrel
        have KW := hid kw
        by_cases hkM : k < M
        · obtain ⟨Mb, rfl, hcl⟩ := HCL3.out.resolve_left (by omega)
          have hkM' : (k : Int) < (M : Int) := by omega
          have d1 := kw.cell (hcl k hkM) (fun x => x)
          have r1 := HRG.out k hkM
          by_cases hk0 : k = 0
          · have q0 : ¬ (0 : Int) < (k : Int) := by omega
            have q0n : ¬ 0 < k := by omega
            have q0' : decide (0 < k) = false := by simp; omega
            have q0'' : decide ((0 : Int) < (k : Int)) = false := by simp; omega
            generalize l.getD k 0 = z at *
            have q1 : decide (z < 0) = false := by simp; omega
            have q2 : decide ((n : Int) < z) = false := by simp; omega
            have q5 : ¬ z < 0 := by omega
            have q6 : ¬ (n : Int) < z := by omega
            clear kw hcl hk0
            go_wp2_with fail
            go_quiet (fail)
            go_wp2_with fail
            exact ⟨⟨k + 1, by omega, by go_num, KW.out.trans (Kept.drewN _ wr nq)⟩, by simp [intOf]; omega⟩
          · have d2 := kw.cell (hcl (k - 1) (by omega)) (fun x => x)
            have r2 := HNX.out k hkM (by omega)
            generalize l.getD k 0 = z at *
            generalize l.getD (k - 1) 0 = z' at *
            have q1 : decide (z < 0) = false := by simp; omega
            have q2 : decide ((n : Int) < z) = false := by simp; omega
            have q3 : decide (0 < k) = true := by simp; omega
            have q3' : decide ((0 : Int) < (k : Int)) = true := by simp; omega
            have q3'' : (0 : Int) < (k : Int) := by omega
            have q3o : 0 < k := by omega
            have q4 : decide (z ≤ z') = false := by simp; omega
            have q5 : ¬ z < 0 := by omega
            have q6 : ¬ (n : Int) < z := by omega
            have q7 : ¬ z ≤ z' := by omega
            clear kw hcl
            go_wp2_with fail
            go_quiet (fail)
            go_wp2_with fail
            exact ⟨⟨k + 1, by omega, by go_num, KW.out.trans (Kept.drewN _ wr nq)⟩, by simp [intOf]; omega⟩
        · have hkM' : ¬ (k : Int) < (M : Int) := by omega
          have hL0 : decide (0 < L) = true := by simp; omega
          have hL0' : decide ((0 : Int) < (L : Int)) = true := by simp; omega
          have hb4 := below_kept HB3.out kw HB3.out.size (fun _ x => x.elim)
          clear kw
          go_wp2_with fail
          go_ret
          exact ⟨by simp <;> omega, hb4⟩
end Go.Proofs.Ytkcidabokgadcaa
