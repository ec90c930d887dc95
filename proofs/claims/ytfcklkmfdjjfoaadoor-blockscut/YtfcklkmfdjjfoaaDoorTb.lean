/-
  The walks over EqInts at any length, EqTexts, EqBlocks, EqTable, SpareTable.
-/
import Derived.Test.YtfcklkmfdjjfoaaDoorTx
namespace Go.Proofs.YtfcklkmfdjjfoaaDoor
open Go.RowKit
set_option linter.unusedVariables false

theorem ba_ext {a b : ByteArray} (h : a.toList = b.toList) : a = b := by
  rw [ByteArray.toList_eq, ByteArray.toList_eq] at h
  have h2 : a.data = b.data := by
    cases ha : a.data; cases hb : b.data
    rw [ha, hb] at h
    simpa using h
  cases a; cases b
  simp at h2
  rw [h2]

set_option maxHeartbeats 1000000 in
theorem eqL_in (b1 o1 b2 o2 n c1 c2 : Nat) (xs ys : List Int) (w : World) (hz : xs.length = n) (hy : ys.length = n) (hn : n ≤ 140737488355328)
    (hc1 : ∀ j, j < n → w.cell? ⟨b1, o1 + j, none⟩ = some (.int .i64 (xs.getD j 0)))
    (hc2 : ∀ j, j < n → w.cell? ⟨b2, o2 + j, none⟩ = some (.int .i64 (ys.getD j 0))) :
    Calls Tryd.prog 22 #[.slice (some ⟨b1, o1, none⟩) n c1, .slice (some ⟨b2, o2, none⟩) n c2] w fun e w' => e = .returned (.bool (decide (xs = ys))) ∧ Kept (fun _ => False) w w' := by
  have hne : ((n : Int) != n) = false := by simp
  go_enter Tryd.func22, Tryd.ntmps22
  go_wp2
  go_loopw [5] (fun i wr => ∃ k m : Nat, k ≤ n ∧ i = .int .i64 k ∧ wr = w.drewN m ∧ xs.take k = ys.take k) (fun i _ => n - (intOf i).toNat)
  case atStart => exact ⟨0, 0, by omega, rfl, rfl, by simp⟩
  case round =>
    obtain ⟨k, m, hk, rfl, rfl, heq⟩ := hrel
    by_cases hlt : k < n
    · have g1 : w.cell? ⟨b1, o1 + k, none⟩ = some (.int .i64 (xs.getD k 0)) := hc1 k hlt
      have g2 : w.cell? ⟨b2, o2 + k, none⟩ = some (.int .i64 (ys.getD k 0)) := hc2 k hlt
      have hstep : xs.getD k 0 = ys.getD k 0 → xs.take (k + 1) = ys.take (k + 1) := fun e => by
        rw [List.getD_eq_getElem?_getD, List.getD_eq_getElem?_getD, List.getElem?_eq_getElem (show k < xs.length by omega), List.getElem?_eq_getElem (show k < ys.length by omega)] at e
        simp only [Option.getD_some] at e
        rw [List.take_succ_eq_append_getElem (show k < xs.length by omega), List.take_succ_eq_append_getElem (show k < ys.length by omega), heq, e]
      have hdiff : xs.getD k 0 ≠ ys.getD k 0 → xs ≠ ys := fun h e => h (by rw [e])
      have HST := hid hstep
      have HDI := hid hdiff
      clear hc1 hc2 heq hstep hdiff
      have hlt' : (k : Int) < (n : Int) := by omega
      generalize xs.getD k 0 = u at *
      generalize ys.getD k 0 = v at *
      by_cases huv : u = v
      · have HS2 := hid (HST.out huv)
        clear HST HDI
        subst huv
        have hb : (u != u) = false := by simp
        have hb' : (u == u) = true := by simp
        go_wp2
        go_quiet (fail)
        go_wp2
        exact ⟨⟨k + 1, m + nq, by omega, by go_num, rfl, HS2.out⟩, by simp [intOf]; omega⟩
      · have hb : (u != v) = true := by simpa using huv
        have hb' : (u == v) = false := by simpa using huv
        have HUV := hid huv
        clear huv
        go_wp2
        go_quiet (fail)
        go_wp2
        go_ret
        exact ⟨by rw [decide_eq_false (HDI.out HUV.out)]; rfl, (Kept.drewN _ w m).trans (Kept.drewN _ _ nq)⟩
    · have hkn : k = n := by omega
      have HE := hid heq
      clear hc1 hc2 heq
      go_wp2
      go_ret
      refine ⟨?_, Kept.drewN _ w m⟩
      have := HE.out
      rw [List.take_of_length_le (by omega), List.take_of_length_le (by omega)] at this
      rw [decide_eq_true this]; rfl

set_option maxHeartbeats 400000 in
theorem eqL_none (a1 a2 : Option Addr) (c1 c2 : Nat) (w : World) :
    Calls Tryd.prog 22 #[.slice a1 0 c1, .slice a2 0 c2] w fun e w' => e = .returned (.bool true) ∧ Kept (fun _ => False) w w' := by
  go_enter Tryd.func22, Tryd.ntmps22
  go_wp2
  refine wp_loop_rounds 1 ?_
  rw [rounds_succ]
  go_wp2
  go_ret
  exact ⟨rfl, Kept.refl _ _⟩

set_option maxHeartbeats 400000 in
theorem eqL_len (a1 a2 : Option Addr) (n1 n2 c1 c2 : Nat) (w : World) (h : n1 ≠ n2) (h1 : n1 ≤ 140737488355328) (h2 : n2 ≤ 140737488355328) :
    Calls Tryd.prog 22 #[.slice a1 n1 c1, .slice a2 n2 c2] w fun e w' => e = .returned (.bool false) ∧ Kept (fun _ => False) w w' := by
  have hb : ((n1 : Int) != n2) = true := by simp; omega
  have hb' : ((n1 : Int) == n2) = false := by simp; omega
  go_enter Tryd.func22, Tryd.ntmps22
  go_wp2
  go_ret
  exact ⟨rfl, Kept.refl _ _⟩

/-- EqInts, of lists of any length. -/
theorem eqL (a1 a2 : Option Addr) (n1 n2 c1 c2 : Nat) (xs ys : List Int) (w : World) (h1 : SegL w a1 n1 c1 xs) (h2 : SegL w a2 n2 c2 ys) :
    Calls Tryd.prog 22 #[.slice a1 n1 c1, .slice a2 n2 c2] w fun e w' => e = .returned (.bool (decide (xs = ys))) ∧ Kept (fun _ => False) w w' := by
  obtain ⟨hz1, _, hn1, g1⟩ := h1
  obtain ⟨hz2, _, hn2, g2⟩ := h2
  by_cases hne : n1 = n2
  · subst hne
    by_cases h0 : n1 = 0
    · subst h0
      refine (eqL_none a1 a2 c1 c2 w).mono fun e w' ⟨he, hw⟩ => ⟨?_, hw⟩
      rw [List.eq_nil_of_length_eq_zero hz1, List.eq_nil_of_length_eq_zero hz2, decide_eq_true rfl]; exact he
    rcases g1 with g1 | ⟨b1, o1, rfl, g1⟩
    · exact absurd g1 h0
    rcases g2 with g2 | ⟨b2, o2, rfl, g2⟩
    · exact absurd g2 h0
    exact eqL_in b1 o1 b2 o2 n1 c1 c2 xs ys w hz1 hz2 hn1 g1 g2
  · refine (eqL_len a1 a2 n1 n2 c1 c2 w hne hn1 hn2).mono fun e w' ⟨he, hw⟩ => ⟨?_, hw⟩
    rw [decide_eq_false (fun e => hne (by rw [← hz1, ← hz2, e]))]; exact he
set_option maxHeartbeats 1000000 in
theorem eqT_in (b1 o1 b2 o2 n c1 c2 : Nat) (xs ys : List ByteArray) (w : World) (hz : xs.length = n) (hy : ys.length = n) (hn : n ≤ 140737488355328)
    (hc1 : ∀ j, j < n → w.cell? ⟨b1, o1 + j, none⟩ = some (.string (xs.getD j ⟨#[]⟩)))
    (hc2 : ∀ j, j < n → w.cell? ⟨b2, o2 + j, none⟩ = some (.string (ys.getD j ⟨#[]⟩))) :
    Calls Tryd.prog 54 #[.slice (some ⟨b1, o1, none⟩) n c1, .slice (some ⟨b2, o2, none⟩) n c2] w fun e w' => e = .returned (.bool (decide (xs = ys))) ∧ Kept (fun _ => False) w w' := by
  have hne : ((n : Int) != n) = false := by simp
  go_enter Tryd.func54, Tryd.ntmps54
  go_wp2
  go_loopw [5] (fun i wr => ∃ k m : Nat, k ≤ n ∧ i = .int .i64 k ∧ wr = w.drewN m ∧ xs.take k = ys.take k) (fun i _ => n - (intOf i).toNat)
  case atStart => exact ⟨0, 0, by omega, rfl, rfl, by simp⟩
  case round =>
    obtain ⟨k, m, hk, rfl, rfl, heq⟩ := hrel
    by_cases hlt : k < n
    · have g1 : w.cell? ⟨b1, o1 + k, none⟩ = some (.string (xs.getD k ⟨#[]⟩)) := hc1 k hlt
      have g2 : w.cell? ⟨b2, o2 + k, none⟩ = some (.string (ys.getD k ⟨#[]⟩)) := hc2 k hlt
      have hstep : xs.getD k ⟨#[]⟩ = ys.getD k ⟨#[]⟩ → xs.take (k + 1) = ys.take (k + 1) := fun e => by
        rw [List.getD_eq_getElem?_getD, List.getD_eq_getElem?_getD, List.getElem?_eq_getElem (show k < xs.length by omega), List.getElem?_eq_getElem (show k < ys.length by omega)] at e
        simp only [Option.getD_some] at e
        rw [List.take_succ_eq_append_getElem (show k < xs.length by omega), List.take_succ_eq_append_getElem (show k < ys.length by omega), heq, e]
      have hdiff : xs.getD k ⟨#[]⟩ ≠ ys.getD k ⟨#[]⟩ → xs ≠ ys := fun h e => h (by rw [e])
      have HST := hid hstep
      have HDI := hid hdiff
      clear hc1 hc2 heq hstep hdiff
      have hlt' : (k : Int) < (n : Int) := by omega
      generalize xs.getD k ⟨#[]⟩ = u at *
      generalize ys.getD k ⟨#[]⟩ = v at *
      by_cases huv : u = v
      · have HS2 := hid (HST.out huv)
        clear HST HDI
        subst huv
        have hb : (u.toList != u.toList) = false := by simp
        have hb' : (u.toList == u.toList) = true := by simp
        go_wp2
        go_quiet (fail)
        go_wp2
        exact ⟨⟨k + 1, m + nq, by omega, by go_num, rfl, HS2.out⟩, by simp [intOf]; omega⟩
      · have hbl : ¬ u.toList = v.toList := fun e => huv (ba_ext e)
        have hb : (u.toList != v.toList) = true := by simpa using hbl
        have hb' : (u.toList == v.toList) = false := by simpa using hbl
        have HUV := hid huv
        clear huv
        go_wp2
        go_quiet (fail)
        go_wp2
        go_ret
        exact ⟨by rw [decide_eq_false (HDI.out HUV.out)]; rfl, (Kept.drewN _ w m).trans (Kept.drewN _ _ nq)⟩
    · have hkn : k = n := by omega
      have HE := hid heq
      clear hc1 hc2 heq
      go_wp2
      go_ret
      refine ⟨?_, Kept.drewN _ w m⟩
      have := HE.out
      rw [List.take_of_length_le (by omega), List.take_of_length_le (by omega)] at this
      rw [decide_eq_true this]; rfl

set_option maxHeartbeats 400000 in
theorem eqT_none (a1 a2 : Option Addr) (c1 c2 : Nat) (w : World) :
    Calls Tryd.prog 54 #[.slice a1 0 c1, .slice a2 0 c2] w fun e w' => e = .returned (.bool true) ∧ Kept (fun _ => False) w w' := by
  go_enter Tryd.func54, Tryd.ntmps54
  go_wp2
  refine wp_loop_rounds 1 ?_
  rw [rounds_succ]
  go_wp2
  go_ret
  exact ⟨rfl, Kept.refl _ _⟩

set_option maxHeartbeats 400000 in
theorem eqT_len (a1 a2 : Option Addr) (n1 n2 c1 c2 : Nat) (w : World) (h : n1 ≠ n2) (h1 : n1 ≤ 140737488355328) (h2 : n2 ≤ 140737488355328) :
    Calls Tryd.prog 54 #[.slice a1 n1 c1, .slice a2 n2 c2] w fun e w' => e = .returned (.bool false) ∧ Kept (fun _ => False) w w' := by
  have hb : ((n1 : Int) != n2) = true := by simp; omega
  have hb' : ((n1 : Int) == n2) = false := by simp; omega
  go_enter Tryd.func54, Tryd.ntmps54
  go_wp2
  go_ret
  exact ⟨rfl, Kept.refl _ _⟩


/-- EqTexts. -/
theorem eqT (a1 a2 : Option Addr) (n1 n2 c1 c2 : Nat) (xs ys : List ByteArray) (w : World) (h1 : SegT w a1 n1 c1 xs) (h2 : SegT w a2 n2 c2 ys) :
    Calls Tryd.prog 54 #[.slice a1 n1 c1, .slice a2 n2 c2] w fun e w' => e = .returned (.bool (decide (xs = ys))) ∧ Kept (fun _ => False) w w' := by
  obtain ⟨hz1, _, hn1, g1⟩ := h1
  obtain ⟨hz2, _, hn2, g2⟩ := h2
  by_cases hne : n1 = n2
  · subst hne
    by_cases h0 : n1 = 0
    · subst h0
      refine (eqT_none a1 a2 c1 c2 w).mono fun e w' ⟨he, hw⟩ => ⟨?_, hw⟩
      rw [List.eq_nil_of_length_eq_zero hz1, List.eq_nil_of_length_eq_zero hz2, decide_eq_true rfl]; exact he
    rcases g1 with g1 | ⟨b1, o1, rfl, g1⟩
    · exact absurd g1 h0
    rcases g2 with g2 | ⟨b2, o2, rfl, g2⟩
    · exact absurd g2 h0
    exact eqT_in b1 o1 b2 o2 n1 c1 c2 xs ys w hz1 hz2 (by omega) g1 g2
  · refine (eqT_len a1 a2 n1 n2 c1 c2 w hne (by omega) (by omega)).mono fun e w' ⟨he, hw⟩ => ⟨?_, hw⟩
    rw [decide_eq_false (fun e => hne (by rw [← hz1, ← hz2, e]))]; exact he

/-- EqBlocks of lists that are alike. -/
theorem eqBlk (a1 : Option Addr) (n1 c1 : Nat) (a2 : Option Addr) (n2 c2 : Nat) (b1 : Option Addr) (m1 d1 : Nat) (b2 : Option Addr) (m2 d2 : Nat) (s l : List Int) (w : World) (h1 : SegL w a1 n1 c1 s) (h2 : SegL w a2 n2 c2 l) (h3 : SegL w b1 m1 d1 s) (h4 : SegL w b2 m2 d2 l) :
    Calls Tryd.prog 13 #[.agg #[.slice a1 n1 c1, .slice a2 n2 c2], .agg #[.slice b1 m1 d1, .slice b2 m2 d2]] w fun e w' => e = .returned (.bool true) ∧ Below w.heap.size w w' := by
  obtain ⟨o1, ho1⟩ : ∃ o, o = Obj.cells #[Value.slice a1 n1 c1, .slice a2 n2 c2] 33 := ⟨_, rfl⟩
  obtain ⟨o2, ho2⟩ : ∃ o, o = Obj.cells #[Value.slice b1 m1 d1, .slice b2 m2 d2] 33 := ⟨_, rfl⟩
  have hb : Below w.heap.size w ((w.alloc o1).alloc o2) := ((Below.refl _ w).alloc (Nat.le_refl _) o1).alloc (by simp) o2
  have x0 : ((w.alloc o1).alloc o2).cell? ⟨w.heap.size, 0, none⟩ = some (.slice a1 n1 c1) := by rw [ho1, ho2]; simp [go_sem]
  have x1 : ((w.alloc o1).alloc o2).cell? ⟨w.heap.size, 1, none⟩ = some (.slice a2 n2 c2) := by rw [ho1, ho2]; simp [go_sem]
  have y0 : ((w.alloc o1).alloc o2).cell? ⟨w.heap.size + 1, 0, none⟩ = some (.slice b1 m1 d1) := by rw [ho1, ho2]; simp [go_sem]
  have y1 : ((w.alloc o1).alloc o2).cell? ⟨w.heap.size + 1, 1, none⟩ = some (.slice b2 m2 d2) := by rw [ho1, ho2]; simp [go_sem]
  have H1 := hid (eqL a1 b1 n1 m1 c1 d1 s s _ (h1.later hb (Nat.le_refl _)) (h3.later hb (Nat.le_refl _)))
  have G2 := hid (h2.later hb (Nat.le_refl _))
  have G4 := hid (h4.later hb (Nat.le_refl _))
  have HB := hid hb
  have zs : ((w.alloc o1).alloc o2).heap.size = w.heap.size + 2 := by simp
  clear h1 h2 h3 h4 hb
  go_enter Tryd.func13, Tryd.ntmps13
  go_wp2_with fail
  rw [← ho1, ← ho2]
  clear ho1 ho2
  generalize (w.alloc o1).alloc o2 = W0 at *
  refine H1.out.mono ?_
  rintro e w1 ⟨rfl, hk⟩
  (try simp only [decide_true])
  have x1' := hk.cell x1 (fun x => x)
  have y1' := hk.cell y1 (fun x => x)
  have H2 := hid (eqL a2 b2 n2 m2 c2 d2 l l w1 (G2.out.keep hk (fun _ _ _ _ x => x)) (G4.out.keep hk (fun _ _ _ _ x => x)))
  have HB1 := hid (below_kept HB.out hk HB.out.size (fun _ x => x.elim))
  clear hk
  go_wp2_with fail
  refine H2.out.mono ?_
  rintro e w2 ⟨rfl, hk⟩
  (try simp only [decide_true])
  have HB2 := hid (below_kept HB1.out hk HB1.out.size (fun _ x => x.elim))
  clear hk
  go_wp2_with fail
  go_ret
  exact ⟨rfl, HB2.out⟩

/-- A table's lists lie there. -/
structure TbS (w : World) (sa : Option Addr) (sn sc : Nat) (ea : Option Addr) (en ec : Nat) (la : Option Addr) (ln lc : Nat) (fa : Option Addr) (fn fc : Nat) (S : List ByteArray) (E1 E2 E3 : List Int) : Prop where
  s : SegT w sa sn sc S
  e : SegL w ea en ec E1
  l : SegL w la ln lc E2
  f : SegL w fa fn fc E3
theorem TbS.later {w w' : World} {sa : Option Addr} {sn sc : Nat} {ea : Option Addr} {en ec : Nat} {la : Option Addr} {ln lc : Nat} {fa : Option Addr} {fn fc : Nat} {S : List ByteArray} {E1 E2 E3 : List Int} {B : Nat} (h : TbS w sa sn sc ea en ec la ln lc fa fn fc S E1 E2 E3) (hb : Below B w w') (hB : w.heap.size ≤ B) : TbS w' sa sn sc ea en ec la ln lc fa fn fc S E1 E2 E3 :=
  ⟨h.s.later hb hB, h.e.later hb hB, h.l.later hb hB, h.f.later hb hB⟩

set_option maxRecDepth 100000 in
set_option maxHeartbeats 4000000 in
/-- EqTable of tables that are alike. -/
theorem eqTab (sa : Option Addr) (sn sc : Nat) (ea : Option Addr) (en ec : Nat) (la : Option Addr) (ln lc : Nat) (fa : Option Addr) (fn fc : Nat) (sa' : Option Addr) (sn' sc' : Nat) (ea' : Option Addr) (en' ec' : Nat) (la' : Option Addr) (ln' lc' : Nat) (fa' : Option Addr) (fn' fc' : Nat)
    (hi : Int) (S : List ByteArray) (E1 E2 E3 : List Int) (w : World) (h1 : TbS w sa sn sc ea en ec la ln lc fa fn fc S E1 E2 E3) (h2 : TbS w sa' sn' sc' ea' en' ec' la' ln' lc' fa' fn' fc' S E1 E2 E3) :
    Calls Tryd.prog 20 #[tabV sa sn sc ea en ec la ln lc fa fn fc hi, tabV sa' sn' sc' ea' en' ec' la' ln' lc' fa' fn' fc' hi] w fun e w' => e = .returned (.bool true) ∧ Below w.heap.size w w' := by
  obtain ⟨o1, ho1⟩ : ∃ o, o = Obj.cells #[Value.slice sa sn sc, .slice ea en ec, .slice la ln lc, .slice fa fn fc, .int .i64 hi] 26 := ⟨_, rfl⟩
  obtain ⟨o2, ho2⟩ : ∃ o, o = Obj.cells #[Value.slice sa' sn' sc', .slice ea' en' ec', .slice la' ln' lc', .slice fa' fn' fc', .int .i64 hi] 26 := ⟨_, rfl⟩
  have hb : Below w.heap.size w ((w.alloc o1).alloc o2) := ((Below.refl _ w).alloc (Nat.le_refl _) o1).alloc (by simp) o2
  have x0 : ((w.alloc o1).alloc o2).cell? ⟨w.heap.size, 0, none⟩ = some (.slice sa sn sc) := by rw [ho1, ho2]; simp [go_sem]
  have x1 : ((w.alloc o1).alloc o2).cell? ⟨w.heap.size, 1, none⟩ = some (.slice ea en ec) := by rw [ho1, ho2]; simp [go_sem]
  have x2 : ((w.alloc o1).alloc o2).cell? ⟨w.heap.size, 2, none⟩ = some (.slice la ln lc) := by rw [ho1, ho2]; simp [go_sem]
  have x3 : ((w.alloc o1).alloc o2).cell? ⟨w.heap.size, 3, none⟩ = some (.slice fa fn fc) := by rw [ho1, ho2]; simp [go_sem]
  have x4 : ((w.alloc o1).alloc o2).cell? ⟨w.heap.size, 4, none⟩ = some (.int .i64 hi) := by rw [ho1, ho2]; simp [go_sem]
  have y0 : ((w.alloc o1).alloc o2).cell? ⟨w.heap.size + 1, 0, none⟩ = some (.slice sa' sn' sc') := by rw [ho1, ho2]; simp [go_sem]
  have y1 : ((w.alloc o1).alloc o2).cell? ⟨w.heap.size + 1, 1, none⟩ = some (.slice ea' en' ec') := by rw [ho1, ho2]; simp [go_sem]
  have y2 : ((w.alloc o1).alloc o2).cell? ⟨w.heap.size + 1, 2, none⟩ = some (.slice la' ln' lc') := by rw [ho1, ho2]; simp [go_sem]
  have y3 : ((w.alloc o1).alloc o2).cell? ⟨w.heap.size + 1, 3, none⟩ = some (.slice fa' fn' fc') := by rw [ho1, ho2]; simp [go_sem]
  have y4 : ((w.alloc o1).alloc o2).cell? ⟨w.heap.size + 1, 4, none⟩ = some (.int .i64 hi) := by rw [ho1, ho2]; simp [go_sem]
  have hii : (hi == hi) = true := by simp
  have h1' := h1.later hb (Nat.le_refl _)
  have h2' := h2.later hb (Nat.le_refl _)
  have H0 := hid (eqT sa sa' sn sn' sc sc' S S _ h1'.s h2'.s)
  have G1 := hid h1'
  have G2 := hid h2'
  have HB := hid hb
  clear h1 h2 hb h1' h2'
  go_enter Tryd.func20, Tryd.ntmps20
  go_wp2_with fail
  rw [← ho1, ← ho2]
  clear ho1 ho2
  generalize (w.alloc o1).alloc o2 = W0 at *
  refine H0.out.mono ?_
  rintro e w1 ⟨rfl, hk⟩
  (try simp only [decide_true])
  have HK1 := hid hk
  have p1 := hk.cell x1 (fun x => x)
  have q1 := hk.cell y1 (fun x => x)
  have H1 := hid (eqL ea ea' en en' ec ec' E1 E1 w1 (G1.out.e.keep hk (fun _ _ _ _ x => x)) (G2.out.e.keep hk (fun _ _ _ _ x => x)))
  clear hk x0 y0 x1 y1
  go_wp2_with fail
  refine H1.out.mono ?_
  rintro e w2 ⟨rfl, hk⟩
  (try simp only [decide_true])
  have hk2 := HK1.out.trans hk
  have HK2 := hid hk2
  have p2 := hk2.cell x2 (fun x => x)
  have q2 := hk2.cell y2 (fun x => x)
  have H2 := hid (eqL la la' ln ln' lc lc' E2 E2 w2 (G1.out.l.keep hk2 (fun _ _ _ _ x => x)) (G2.out.l.keep hk2 (fun _ _ _ _ x => x)))
  clear hk hk2 p1 q1 x2 y2
  go_wp2_with fail
  refine H2.out.mono ?_
  rintro e w3 ⟨rfl, hk⟩
  (try simp only [decide_true])
  have hk2 := HK2.out.trans hk
  have HK3 := hid hk2
  have p3 := hk2.cell x3 (fun x => x)
  have q3 := hk2.cell y3 (fun x => x)
  have H3 := hid (eqL fa fa' fn fn' fc fc' E3 E3 w3 (G1.out.f.keep hk2 (fun _ _ _ _ x => x)) (G2.out.f.keep hk2 (fun _ _ _ _ x => x)))
  clear hk hk2 p2 q2 x3 y3
  go_wp2_with fail
  refine H3.out.mono ?_
  rintro e w4 ⟨rfl, hk⟩
  (try simp only [decide_true])
  have HB4 := hid (below_kept HB.out (HK3.out.trans hk) HB.out.size (fun _ x => x.elim))
  clear hk
  go_wp2_with fail
  go_ret
  exact ⟨rfl, HB4.out⟩

/-- The lists of a wide table. -/
structure WdT (w : World) (B0 B1 B2 B3 sn en ln fn : Nat) (S : List ByteArray) (E1 E2 E3 : List Int) : Prop where
  s : ∀ j, j < sn + 64 → w.cell? ⟨B0, j, none⟩ = some (.string (wlT S j))
  e : ∀ j, j < en + 64 → w.cell? ⟨B1, j, none⟩ = some (.int .i64 (wlI E1 j))
  l : ∀ j, j < ln + 64 → w.cell? ⟨B2, j, none⟩ = some (.int .i64 (wlI E2 j))
  f : ∀ j, j < fn + 64 → w.cell? ⟨B3, j, none⟩ = some (.int .i64 (wlI E3 j))
theorem WdT.later {w w' : World} {B0 B1 B2 B3 sn en ln fn : Nat} {S : List ByteArray} {E1 E2 E3 : List Int} {B : Nat} (h : WdT w B0 B1 B2 B3 sn en ln fn S E1 E2 E3) (hb : Below B w w') (hB : w.heap.size ≤ B) : WdT w' B0 B1 B2 B3 sn en ln fn S E1 E2 E3 := by
  have lt : ∀ {b j : Nat} {v : Value}, w.cell? ⟨b, j, none⟩ = some v → b < B := fun h => Nat.lt_of_lt_of_le (block_lt_of_cell h) hB
  exact ⟨fun j hj => (hb.cell (by exact lt (h.s j hj))).trans (h.s j hj), fun j hj => (hb.cell (by exact lt (h.e j hj))).trans (h.e j hj), fun j hj => (hb.cell (by exact lt (h.l j hj))).trans (h.l j hj), fun j hj => (hb.cell (by exact lt (h.f j hj))).trans (h.f j hj)⟩
theorem segL_wide {w : World} {B n : Nat} {zs : List Int} (hz : zs.length = n) (hn : n ≤ 17592186044416) (hc : ∀ j, j < n + 64 → w.cell? ⟨B, j, none⟩ = some (.int .i64 (wlI zs j))) : SegL w (some ⟨B, 0, none⟩) n (n + 64) zs := by
  refine ⟨hz, by omega, by omega, .inr ⟨B, 0, rfl, fun j hj => ?_⟩⟩
  rw [Nat.zero_add, hc j (by omega)]
  have : j < zs.length := by omega
  simp only [wlI, this, if_true]
theorem segT_wide {w : World} {B n : Nat} {zs : List ByteArray} (hz : zs.length = n) (hn : n ≤ 8796093022208) (hc : ∀ j, j < n + 64 → w.cell? ⟨B, j, none⟩ = some (.string (wlT zs j))) : SegT w (some ⟨B, 0, none⟩) n (n + 64) zs := by
  refine ⟨hz, by omega, hn, .inr ⟨B, 0, rfl, fun j hj => ?_⟩⟩
  rw [Nat.zero_add, hc j (by omega)]
  have : j < zs.length := by omega
  simp only [wlT, this, if_true]
/-- No list is longer than this. -/
structure TbN (sn en ln fn : Nat) : Prop where
  s : sn ≤ 8796093022208
  e : en ≤ 17592186044416
  l : ln ≤ 17592186044416
  f : fn ≤ 17592186044416
theorem WdT.tbs {w : World} {B0 B1 B2 B3 sn en ln fn : Nat} {S : List ByteArray} {E1 E2 E3 : List Int} (h : WdT w B0 B1 B2 B3 sn en ln fn S E1 E2 E3) (hs : S.length = sn) (he : E1.length = en) (hl : E2.length = ln) (hf : E3.length = fn) (hn : TbN sn en ln fn) :
    TbS w (some ⟨B0, 0, none⟩) sn (sn + 64) (some ⟨B1, 0, none⟩) en (en + 64) (some ⟨B2, 0, none⟩) ln (ln + 64) (some ⟨B3, 0, none⟩) fn (fn + 64) S E1 E2 E3 :=
  ⟨segT_wide hs hn.s h.s, segL_wide he hn.e h.e, segL_wide hl hn.l h.l, segL_wide hf hn.f h.f⟩

set_option maxRecDepth 100000 in
set_option maxHeartbeats 4000000 in
/-- SpareTable: the marks stand. -/
theorem spareTab (TB B0 B1 B2 B3 sn en ln fn : Nat) (hi : Int) (S : List ByteArray) (E1 E2 E3 : List Int) (w : World) (h : WdT w B0 B1 B2 B3 sn en ln fn S E1 E2 E3) (hs : S.length = sn) (he : E1.length = en) (hl : E2.length = ln) (hf : E3.length = fn) (hn : TbN sn en ln fn) (ht : Tens TB w) (hTB : TB ≤ w.heap.size) :
    Calls Tryd.prog 21 #[tabV (some ⟨B0, 0, none⟩) sn (sn + 64) (some ⟨B1, 0, none⟩) en (en + 64) (some ⟨B2, 0, none⟩) ln (ln + 64) (some ⟨B3, 0, none⟩) fn (fn + 64) hi] w fun e w' => e = .returned (.bool true) ∧ Below w.heap.size w w' := by
  obtain ⟨o1, ho1⟩ : ∃ o, o = Obj.cells #[Value.slice (some ⟨B0, 0, none⟩) sn (sn + 64), .slice (some ⟨B1, 0, none⟩) en (en + 64), .slice (some ⟨B2, 0, none⟩) ln (ln + 64), .slice (some ⟨B3, 0, none⟩) fn (fn + 64), .int .i64 hi] 26 := ⟨_, rfl⟩
  have hb : Below w.heap.size w (w.alloc o1) := (Below.refl _ w).alloc (Nat.le_refl _) o1
  have x : ∀ i, (w.alloc o1).cell? ⟨w.heap.size, i, none⟩ = (#[Value.slice (some ⟨B0, 0, none⟩) sn (sn + 64), .slice (some ⟨B1, 0, none⟩) en (en + 64), .slice (some ⟨B2, 0, none⟩) ln (ln + 64), .slice (some ⟨B3, 0, none⟩) fn (fn + 64), .int .i64 hi] : Array Value)[i]? := fun i => by rw [ho1, World.cell?_alloc_new]
  have x0 := x 0
  have x1 := x 1
  have x2 := x 2
  have x3 := x 3
  simp only [List.getElem?_toArray, List.getElem?_cons_zero, List.getElem?_cons_succ] at x0 x1 x2 x3
  have h' := h.later hb (Nat.le_refl _)
  have z0 : (w.alloc o1).heap.size = w.heap.size + 1 := by simp
  have H0 := hid (spareT TB B0 sn S (w.alloc o1) hs hn.s (ht.later (hb.mono hTB)) (by omega) h'.s)
  have G := hid h'
  have HB := hid hb
  have ne := hn.e
  have nl := hn.l
  have nf := hn.f
  clear h h' hb ht hn x
  go_enter Tryd.func21, Tryd.ntmps21
  go_wp2_with fail
  rw [← ho1]
  clear ho1
  generalize w.alloc o1 = W0 at *
  refine H0.out.mono ?_
  rintro e w1 ⟨rfl, hb1⟩
  have hs1 := hb1.size
  have g1 := G.out.later hb1 (Nat.le_refl _)
  have p1 := (hb1.cell (p := ⟨w.heap.size, 1, none⟩) (by show w.heap.size < _; omega)).trans x1
  have p2 := (hb1.cell (p := ⟨w.heap.size, 2, none⟩) (by show w.heap.size < _; omega)).trans x2
  have p3 := (hb1.cell (p := ⟨w.heap.size, 3, none⟩) (by show w.heap.size < _; omega)).trans x3
  have H1 := hid (spareI53 B1 en E1 w1 he ne g1.e)
  have H2 := hid (spareI53 B2 ln E2 w1 hl nl g1.l)
  have H3 := hid (spareI53 B3 fn E3 w1 hf nf g1.f)
  have HB1 := hid (HB.out.trans (hb1.mono (by omega)))
  clear hb1 g1 x0 x1 x2 x3
  go_wp2_with fail
  refine H1.out.mono ?_
  rintro e w2 ⟨rfl, hw⟩
  have hw2 := hw.symm
  subst hw2
  go_wp2_with fail
  refine H2.out.mono ?_
  rintro e w2 ⟨rfl, hw⟩
  have hw2 := hw.symm
  subst hw2
  go_wp2_with fail
  refine H3.out.mono ?_
  rintro e w2 ⟨rfl, hw⟩
  have hw2 := hw.symm
  subst hw2
  go_wp2_with fail
  go_ret
  exact ⟨rfl, HB1.out⟩
end Go.Proofs.YtfcklkmfdjjfoaaDoor
