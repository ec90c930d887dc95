/-
  The walk over ControlWrap: true, whatever the code.
-/
import Derived.Test.YtkcidabokgadcaaMoved
import Derived.Test.YtkcidabokgadcaaSize
import Derived.Test.YtkcidabokgadcaaCross
namespace Go.Proofs.Ytkcidabokgadcaa
open Go.RowKit
set_option linter.unusedVariables false

theorem RI.later' {w w' : World} {B n : Nat} {f : Nat → Int} {base : Nat} (h : RI w B n f) (hb : Below base w w') (hB : w.heap.size ≤ base) : RI w' B n f :=
  Row.keep h (hb.block B (by have := RI.lt h; omega))

/-- The two that are put around. -/
def x2 : Inx := ⟨2, 0, none, 0, 0, []⟩
def x6 : Inx := ⟨6, 0, none, 0, 0, []⟩

/-- The code with a block around it. -/
theorem wide_op {xs ys : List Inx} {n : Nat} (hl : ys.length = n) (hs : ∀ j, j < n → (ys.getD j dx).c = (xs.getD j dx).c) : Wd (opF xs) (opF ([x2] ++ ys ++ [x6])) n := by
  refine ⟨rfl, fun j hj => ?_, ?_⟩
  · unfold opF
    rw [← hs j hj, List.getD_eq_getElem?_getD, List.getElem?_append_left (by simp; omega), List.getD_eq_getElem?_getD]
    simp
  · unfold opF
    rw [List.getD_eq_getElem?_getD, List.getElem?_append_right (by simp; omega)]
    simp [hl, x6]
theorem wide_get {ys : List Inx} {n j : Nat} (hl : ys.length = n) (hj : j < n) : ([x2] ++ ys ++ [x6]).getD (j + 1) dx = ys.getD j dx := by
  rw [List.getD_eq_getElem?_getD, List.getElem?_append_left (by simp; omega), List.getD_eq_getElem?_getD]
  simp

theorem LC.form {w : World} {base n c : Nat} {a : Option Addr} {ys : List Inx} (h : LC w base (.slice a n c) ys) (hn : 0 < n) : ∃ g, a = some ⟨g, 0, none⟩ ∧ n = ys.length ∧ n ≤ c ∧ base ≤ g := by
  rcases h.2 with ⟨h0, _⟩ | ⟨g, cp, cur, h1, h2, h3, h4, _⟩
  · injection h0 with e1 e2 e3; omega
  · injection h1 with e1 e2 e3
    subst e3
    exact ⟨g, e1, e2, by omega, h2⟩
theorem LC.src {w : World} {base g n c : Nat} {ys : List Inx} (h : LC w base (.slice (some ⟨g, 0, none⟩) n c) ys) (hn : n = ys.length) : ∀ (j : Nat) (y : Value), (flat ys)[j]? = some y → w.cell? ((⟨g, 0, none⟩ : Addr).add j) = some y := by
  intro j y hj
  have hplain : (⟨g, 0, none⟩ : Addr).add j = ⟨g, j, none⟩ := by unfold Addr.add; split <;> simp_all
  subst hn
  have hlt : j < ys.length * 3 := by
    rw [← flat_len]
    rcases Nat.lt_or_ge j (flat ys).length with h | h
    · exact h
    · rw [List.getElem?_eq_none h] at hj; cases hj
  rw [hplain, World.ownsRow.cellAt h j hlt]
  exact hj

theorem prep6 {w6 : World} {base : Nat} {v : Value} {zs : List Inx} (hL : LC w6 base v zs) (hb : base ≤ w6.heap.size) :
    base ≤ (w6.alloc (.cells #[.int .u8 6, .int .i64 0, .slice none 0 0] 31)).heap.size ∧ LC (w6.alloc (.cells #[.int .u8 6, .int .i64 0, .slice none 0 0] 31)) base v zs ∧ Below w6.heap.size w6 (w6.alloc (.cells #[.int .u8 6, .int .i64 0, .slice none 0 0] 31)) ∧
      ∀ (j : Nat) (y : Value), (flat [x6])[j]? = some y → (w6.alloc (.cells #[.int .u8 6, .int .i64 0, .slice none 0 0] 31)).cell? ((⟨w6.heap.size, 0, none⟩ : Addr).add j) = some y := by
  have hb7 := (Below.refl w6.heap.size w6).alloc (Nat.le_refl _) (.cells #[.int .u8 6, .int .i64 0, .slice none 0 0] 31)
  refine ⟨Nat.le_trans hb hb7.size, hL.later hb7 (Nat.le_refl _), hb7, ?_⟩
  intro j y hj
  rw [flat_one] at hj
  have hplain : (⟨w6.heap.size, 0, none⟩ : Addr).add j = ⟨w6.heap.size, j, none⟩ := by unfold Addr.add; split <;> simp_all
  rw [hplain, World.cell?_alloc_new]
  rcases j with _ | _ | _ | j
  · simpa [cel, x6] using hj
  · simpa [cel, x6] using hj
  · simpa [cel, x6] using hj
  · simp [cel] at hj

/-- One number moved. -/
theorem moved_one (A k n : Nat) (f : Nat → Int) (c : Nat) (W : World) (hA : RI W A n f) (hk : k < n) (hf : -1 ≤ f k ∧ f k ≤ 1000000) (hc : 1 ≤ c) :
    Calls Try.prog 13 #[.slice (some ⟨A, k, none⟩) 1 c, .int .i64 (-2), .bool false] W fun e w' => ∃ g c', e = .returned (.slice (some ⟨g, 0, none⟩) 1 c') ∧ w'.cell? ⟨g, 0, none⟩ = some (.int .i64 (sh (f k))) ∧ Below W.heap.size W w' := by
  have hseg : SegI W (some ⟨A, k, none⟩) 1 c [f k] := ⟨rfl, hc, by omega, fun z hz => by simp only [List.mem_singleton] at hz; omega, .inr ⟨A, k, rfl, fun j hj => by
    obtain rfl : j = 0 := by omega
    exact hA.cell k hk⟩⟩
  refine (moved (some ⟨A, k, none⟩) 1 c [f k] (-2) false W hseg (by omega) (by omega) (fun z hz => by simp only [List.mem_singleton] at hz; omega)).mono ?_
  rintro e w' ⟨v, rfl, hL, hb⟩
  rw [mz_sh] at hL
  obtain ⟨a, c', rfl⟩ := hL.slice
  obtain ⟨g, rfl, hcell⟩ := hL.cell.2.resolve_left (by simp)
  exact ⟨g, c', rfl, hcell 0 (by simp), hb⟩

/-- Labels and Next, with their answers written out. -/
theorem labs_in (a : Option Addr) (n cap : Nat) (xs : List Inx) (pc : Int) (l : List Int) (w : World) (hn : n ≤ 1048576) (hcap : n ≤ cap) (hc : CodS w a n xs) (hl : labV (opF xs) n pc = l) :
    Calls Try.prog 12 #[.slice a n cap, .int .i64 pc] w fun e w' => ∃ a' c', e = .returned (.slice a' l.length c') ∧ Below w.heap.size w w' := by
  refine (labelsC a n cap xs pc w hn hcap hc).mono ?_
  rintro e w' ⟨v, rfl, hL, hb⟩
  rw [hl] at hL
  obtain ⟨a', c', rfl⟩ := hL.slice
  exact ⟨a', c', rfl, hb⟩
theorem next_in (a : Option Addr) (n cap : Nat) (xs : List Inx) (pc : Int) (l : List Int) (w : World) (hn : n ≤ 1048576) (hcap : n ≤ cap) (hc : CodS w a n xs) (hln : ∀ j, j < n → (xs.getD j dx).ln ≤ 100000) (hl : nxtV (opF xs) n pc (xs.getD pc.toNat dx) = l) :
    Calls Try.prog 16 #[.slice a n cap, .int .i64 pc] w fun e w' => ∃ a' c', e = .returned (.slice a' l.length c') ∧ LI w' w.heap.size (.slice a' l.length c') l ∧ Below w.heap.size w w' := by
  refine (nextC a n cap xs pc w hn hcap hc hln).mono ?_
  rintro e w' ⟨v, rfl, hL, hb⟩
  rw [hl] at hL
  obtain ⟨a', c', rfl⟩ := hL.slice
  exact ⟨a', c', rfl, hL, hb⟩

/-- How deep it goes ahead of k. -/
def dpF (O : Nat → Int) : Nat → Nat
  | 0 => 0
  | k + 1 => max (dpF O k) ((stk O k).length + 1)
theorem dpF_ge {O : Nat → Int} : ∀ {k i : Nat}, i < k → (stk O i).length + 1 ≤ dpF O k
  | k + 1, i, h => by
    unfold dpF
    by_cases e : i = k
    · subst e; exact Nat.le_max_right _ _
    · exact Nat.le_trans (dpF_ge (show i < k by omega)) (Nat.le_max_left _ _)
theorem dpF_le {O : Nat → Int} {m : Nat} : ∀ {k : Nat}, (∀ i, i < k → (stk O i).length ≤ m) → dpF O k ≤ m + 1
  | 0, _ => by simp [dpF]
  | k + 1, h => by
    unfold dpF
    have := dpF_le (k := k) (fun i hi => h i (by omega))
    have := h k (by omega)
    omega

theorem pls_len {O : Nat → Int} {n i : Nat} {c a : Int} {l : List Int} : (pls O n i c a l).length ≤ l.length + 2 := by
  have h1 := brn_len O n i a
  have h2 := brn_all_len O n i l
  unfold pls
  repeat' split
  all_goals (try simp only [List.length_cons, List.length_nil])
  all_goals omega

set_option maxRecDepth 100000 in
set_option maxHeartbeats 8000000 in
theorem wrap (a : Option Addr) (n cap : Nat) (xs : List Inx) (w : World) (hn : n ≤ 140737488355328) (hcap : n ≤ cap) (hc : CodS w a n xs) :
    Calls Try.prog 4 #[.slice a n cap] w fun e w' => e = .returned (.bool true) ∧ Below w.heap.size w w' := by
  have H1 := hid (works w)
  have HC := hid hc
  clear hc
  go_enter Try.func4, Try.ntmps4
  go_wp2_with fail
  refine H1.out.mono ?_
  rintro e w1 ⟨rfl, hb1⟩
  have H2 := hid (sizeC a n cap xs w1 hn hcap (HC.out.later hb1 (Nat.le_refl _)))
  have hs1 := hb1.size
  have HB1 := hid hb1
  clear hb1
  go_wp2_with fail
  refine H2.out.mono ?_
  rintro e w2 ⟨s, rfl, hsz, hk2⟩
  have hb2 := below_kept HB1.out hk2 hs1 (fun _ x => x.elim)
  have hs2 := hb2.size
  have HB2 := hid hb2
  by_cases hbig : 600 < s
  · have hbig' : (600 : Int) < (s : Int) := by omega
    clear hb2 hsz hk2
    go_wp2_with fail
    go_ret
    exact ⟨rfl, HB2.out⟩
  have hbig' : ¬ (600 : Int) < (s : Int) := by omega
  have hsz := hsz (by omega)
  have hlen := HC.out.1
  have hn3 : n ≤ 600 := by have := szF_len xs n; omega
  have hln : ∀ j, j < n → (xs.getD j dx).ln ≤ 600 := fun j hj => by have := szF_ln xs hj; omega
  have H3 := hid (map_in a n cap xs w2 (by omega) hcap (HC.out.later hb2 (Nat.le_refl _)))
  have HLN := hid hln
  clear hb2 hsz hk2 hln
  go_wp2_with fail
  refine H3.out.mono ?_
  rintro e w3 ⟨a1, a2, a3, m, rfl, hM, hb3⟩
  have hb3' := HB2.out.trans (hb3.mono hs2)
  have HB3 := hid hb3'
  have hs3 := hb3'.size
  rcases hM with ⟨h0, rfl, rfl, rfl, rfl⟩ | ⟨hr, hg, hm, A, B, C, q1, q2, q3, q4, q5, q6, rfl, rfl, rfl, y1, y2, y3⟩
  · generalize (res (opF xs) n 0).1 = er0 at *
    generalize (res (opF xs) n 0).2 = er1 at *
    have hne : (er0 != 0) = true := by simpa using h0
    clear hb3 hb3'
    go_wp2_with fail
    go_ret
    exact ⟨rfl, HB3.out⟩
  have hm' := hm.symm
  subst hm'
  have hn0 := hg.1
  obtain ⟨b, off, rfl, hcd⟩ := HC.out.2.resolve_left (by omega)
  have hr0 : (res (opF xs) n 0).1 = 0 := by rw [hr]
  rw [hr]
  have HCD := hid hcd
  have HG := hid hg
  have HR0 := hid hr0
  have HY1 := hid y1
  have HY2 := hid y2
  have HY3 := hid y3
  have hlA := y1.lt
  have hlB := y2.lt
  have hlC := y3.lt
  -- the block that is put around
  have hb4 := (Below.refl w3.heap.size w3).alloc (Nat.le_refl _) (.cells #[.int .u8 2, .int .i64 0, .slice none 0 0] 31)
  have hrow4 : LC (w3.alloc (.cells #[.int .u8 2, .int .i64 0, .slice none 0 0] 31)) w3.heap.size (.slice (some ⟨w3.heap.size, 0, none⟩) 1 1) [x2] :=
    World.ownsRow_lit w3 #[.int .u8 2, .int .i64 0, .slice none 0 0] 1 (Nat.le_refl _) (by decide) rfl
  have hcd4 := (HCD.out.later HB3.out (Nat.le_refl _)).later hb4 (Nat.le_refl _)
  have H4 := hid (copyCode_in b off n cap xs _ (by omega) hcap hcd4 (fun j hj => by have := HLN.out j hj; omega))
  have HROW4 := hid hrow4
  have HB4 := hid hb4
  have hn1 : (n : Int) + 1 ≤ 1000 := by omega
  clear hb3 hb3' hg hr0 y1 y2 y3 hcd hr hb4 hrow4 hcd4
  go_wp2_with fail
  generalize hw4 : w3.alloc (.cells #[.int .u8 2, .int .i64 0, .slice none 0 0] 31) = w4 at *
  have hs4 : w4.heap.size = w3.heap.size + 1 := by rw [← hw4]; simp
  refine H4.out.mono ?_
  rintro e w5 ⟨v5, ys, rfl, cp⟩
  have hyl := cp.len
  obtain ⟨va, vc, rfl⟩ := cp.row.slice
  obtain ⟨g5, rfl, -, -, -⟩ := cp.row.form (by omega)
  have hs5 := cp.bel.size
  have hrow5 := HROW4.out.later cp.bel (Nat.le_refl _)
  have HROW5 := hid hrow5
  have HSRC := hid (cp.row.src rfl)
  have HCP := hid cp
  have hsz5 : w3.heap.size ≤ w5.heap.size := by omega
  have hle5 : [x2].length + ys.length ≤ 1073741824 := by simp; omega
  have HB5 := hid (HB4.out.trans (cp.bel.mono (by omega)))
  have HYL := hid hyl
  clear hrow5 cp hw4 hyl
  have hle7 : ([x2] ++ ys).length + [x6].length ≤ 1073741824 := by have := HYL.out; simp; omega
  go_wp2_with (first
    | (at_builtin; refine app_ins _ rfl (.tmp 40) (.tmp 42) rfl w3.heap.size _ [x2] rfl HROW5.out hsz5 ⟨g5, 0, none⟩ ys ys.length vc rfl rfl HSRC.out hle5 ?_; intro a6 k6 c6 w6 hk6 hL6 hb6 hkeep6; have HP6 := hid (prep6 hL6 (Nat.le_trans hsz5 hb6.size)); have HB6 := hid hb6; have HKP6 := hid hkeep6; clear hL6 hb6 hkeep6 hk6)
    | (at_builtin; refine app_ins _ rfl (.tmp 44) (.tmp 46) rfl w3.heap.size _ ([x2] ++ ys) rfl HP6.out.2.1 HP6.out.1 ⟨w6.heap.size, 0, none⟩ [x6] 1 1 rfl rfl HP6.out.2.2.2 hle7 ?_; intro a8 k8 c8 w8 hk8 hL8 hb8 hkeep8; have HL8 := hid hL8; have HB8 := hid hb8; have HKP8 := hid hkeep8; have HK8 := hid hk8; clear hL8 hb8 hkeep8 hk8))
  have hs6 := HB6.out.size
  have HB7 := hid HP6.out.2.2.1
  have hyl := HYL.out
  have hk8 : k8 = n + 2 := by have := HK8.out; simp at this; omega
  subst hk8
  obtain ⟨g8, rfl, -, hc8, hg8⟩ := HL8.out.form (by omega)
  have hbB : Below w3.heap.size w3 w8 := (((HB5.out.trans HB6.out).trans (HB7.out.mono (by omega))).trans HB8.out)
  have hs8 := hbB.size
  have hlab : LL w8 w3.heap.size ([x2] ++ ys ++ [x6]) := by
    intro y hy
    simp only [List.mem_append, List.mem_singleton] at hy
    rcases hy with (rfl | hy) | rfl
    · exact LI.nil _ _
    · exact HKP8.out _ _ _ ((HKP6.out _ _ _ ((HCP.out.lab y hy).mono (by omega))).later HB7.out (Nat.le_refl _))
    · exact LI.nil _ _
  have hrange : ∀ y ∈ [x2] ++ ys ++ [x6], 0 ≤ y.c ∧ y.c ≤ 255 ∧ -9223372036854775808 ≤ y.a ∧ y.a ≤ 9223372036854775807 ∧ y.ln ≤ 100000 ∧ ∀ z ∈ y.l, -9223372036854775808 ≤ z ∧ z ≤ 9223372036854775807 := by
    intro y hy
    simp only [List.mem_append, List.mem_singleton] at hy
    rcases hy with (rfl | hy) | rfl
    · simp [x2]
    · obtain ⟨j, hj, rfl⟩ := List.getElem_of_mem hy
      have hj' : j < n := by omega
      obtain ⟨e1, e2, e3, e4⟩ := HCP.out.same j hj'
      rw [List.getD_eq_getElem?_getD, List.getElem?_eq_getElem hj] at e1 e2 e3 e4
      simp only [Option.getD_some] at e1 e2 e3 e4
      obtain ⟨_, _, _, r1, r2, r3, r4, r5, r6⟩ := HCD.out.2 j hj'
      have hl6 := HLN.out j hj'
      rw [e1, e2, e3, e4]
      exact ⟨r1, r2, r3, r4, by omega, (r6 (by omega)).2.2.2.1⟩
    · simp [x6]
  have hcd8 := HL8.out.cod (by simp; omega) hlab hrange
  have hwd : Wd (opF xs) (opF ([x2] ++ ys ++ [x6])) n := wide_op hyl (fun j hj => (HCP.out.same j hj).1)
  have H9 := hid (map_in (some ⟨g8, 0, none⟩) (n + 2) c8 ([x2] ++ ys ++ [x6]) w8 (by omega) hc8 ⟨by simp; omega, .inr ⟨g8, 0, rfl, hcd8⟩⟩)
  have hget : ∀ j, j < n → ([x2] ++ ys ++ [x6]).getD (j + 1) dx = ys.getD j dx := fun j hj => wide_get hyl hj
  have HGET := hid hget
  have hlnz : ∀ j, j < n + 2 → (([x2] ++ ys ++ [x6]).getD j dx).ln ≤ 100000 := fun j hj => (hrange _ (by
    rw [List.getD_eq_getElem?_getD, List.getElem?_eq_getElem (show j < ([x2] ++ ys ++ [x6]).length by simp; omega)]; exact List.getElem_mem _)).2.2.2.2.1
  have HLNZ := hid hlnz
  have HCD8 := hid hcd8
  have HWD := hid hwd
  have HBB := hid hbB
  generalize hzs : [x2] ++ ys ++ [x6] = zs at *
  generalize ys.length = yl at *
  clear hlab hrange hcd8 hwd hbB hget hlnz hzs hyl
  go_wp2_with fail
  refine H9.out.mono ?_
  rintro e w9 ⟨b1, b2, b3, m9, rfl, hM9, hb9⟩
  have hbw9 : Below w.heap.size w w9 := (HB3.out.trans (HBB.out.mono hs3)).trans (hb9.mono (by omega))
  have HBW := hid hbw9
  have hs9 := hb9.size
  have hA9 := (HY1.out.later' HBB.out (Nat.le_refl _)).later' hb9 (Nat.le_refl _)
  have hB9 := (HY2.out.later' HBB.out (Nat.le_refl _)).later' hb9 (Nat.le_refl _)
  have hC9 := (HY3.out.later' HBB.out (Nat.le_refl _)).later' hb9 (Nat.le_refl _)
  have HA9 := hid hA9
  have HB9 := hid hB9
  have HC9 := hid hC9
  have HCD9 := hid (HCD8.out.later hb9 (Nat.le_refl _))
  have hsw9 := hbw9.size
  by_cases hd : Deep (opF xs) n
  · have h35 := wd_deep HWD.out HG.out hd
    rcases hM9 with ⟨h0, rfl, rfl, rfl, rfl⟩ | ⟨hr9, _⟩
    case inr => rw [hr9] at h35; cases h35
    rw [h35]
    generalize (res (opF zs) (n + 2) 0).2 = er1 at *
    have hdp : dpF (opF xs) n = 33 := by
      obtain ⟨i, hi, hil⟩ := deep_most HG.out hd
      have h1 := dpF_ge (O := opF xs) hi
      have h2 := dpF_le (O := opF xs) (m := 32) (k := n) (fun i hi => good_stk_len HG.out hi)
      omega
    have HDP := hid hdp
    clear hA9 hB9 hC9 hb9 hbw9 hd h35 hdp h0
    go_wp2_with fail
    go_loopw [16, 17] (fun p q wr => ∃ k : Nat, k ≤ n ∧ q = .int .i64 k ∧ p = .int .i64 (dpF (opF xs) k : Nat) ∧ Below w.heap.size w wr) (fun _ q _ => n - (intOf q).toNat)
    case atStart => exact ⟨0, by omega, rfl, rfl, HBW.out⟩
    case round =>
      obtain ⟨k, hk, rfl, rfl, hbr⟩ := hrel
      have hsr := hbr.size
      by_cases hkn : k < n
      · have hkn' : (k : Int) < (n : Int) := by omega
        have hcr := HCD.out.later hbr (Nat.le_refl _)
        have HX := hid (labelsC (some ⟨b, off, none⟩) n cap xs k wr (by omega) hcap ⟨hcr.1, .inr ⟨b, off, rfl, hcr⟩⟩)
        have hv : labV (opF xs) n k = labs (opF xs) k := by unfold labV; rw [if_pos ⟨HR0.out, by omega, by omega⟩]; simp
        have HV := hid hv
        have HBR := hid hbr
        have hl := labs_length (opF xs) k
        have hst := good_stk_len HG.out hkn
        have hdk : dpF (opF xs) k ≤ 33 := dpF_le (fun i hi => good_stk_len HG.out (by omega))
        have hds : dpF (opF xs) (k + 1) = max (dpF (opF xs) k) ((stk (opF xs) k).length + 1) := rfl
        have HDS := hid hds
        generalize dpF (opF xs) k = D at *
        clear hbr hcr hv hds
        go_wp2_with fail
        refine HX.out.mono ?_
        rintro e w10 ⟨v, rfl, hL, hb10⟩
        rw [HV.out] at hL
        obtain ⟨la, lc, rfl⟩ := hL.slice
        have HB10 := hid (HBR.out.trans (hb10.mono hsr))
        have HHL := hid hl
        generalize (labs (opF xs) k).length = L at *
        clear hL hb10 hl
        go_wp2_with fail
        refine ⟨⟨k + 1, by omega, by go_num, ?_, HB10.out⟩, by simp [intOf]; omega⟩
        rw [HDS.out]
        have h1 := HHL.out
        congr 1
        omega
      · obtain rfl : k = n := by omega
        have HBR := hid hbr
        rw [HDP.out]
        clear hbr
        go_wp2_with fail
        go_ret
        exact ⟨rfl, HBR.out⟩
  · have hg9 := wd_good HWD.out HG.out hd
    have hwf := wf_of HWD.out HG.out
    rcases hM9 with ⟨h0, _⟩ | ⟨hr9, _, hm9, A', B', C', x1, x2', x3, x4, x5, x6', rfl, rfl, rfl, y1, y2, y3⟩
    · rw [res_good_back hg9] at h0; exact absurd rfl h0
    have hm9' := hm9.symm
    subst hm9'
    rw [hr9]
    have ea0 := y1.cell 0 (by omega)
    have eb0 := y2.cell 0 (by omega)
    have ec0 := y3.cell 0 (by omega)
    have ecn := y3.cell (n + 1) (by omega)
    have ean := y1.cell (n + 1) (by omega)
    rw [hwf.ens0] at ea0
    rw [hwf.els0] at eb0
    rw [hwf.own0] at ec0
    rw [hwf.ownn] at ecn
    rw [(good_oth hg9 (i := n + 1) (by rw [HWD.out.last]; rfl) (by rw [HWD.out.last]; decide)).1] at ean
    have hnn : ((n : Int) != (n : Int)) = false := by simp
    have hnn2 : (((n + 2 : Nat) : Int) != (n : Int) + 2) = false := by simp
    have HY1' := hid y1
    have HY2' := hid y2
    have HY3' := hid y3
    have HWF := hid hwf
    have HG9 := hid hg9
    have HR9 := hid hr9
    have hlA' := y1.lt
    have hlB' := y2.lt
    have hlC' := y3.lt
    clear hA9 hB9 hC9 hb9 hbw9 hd y1 y2 y3 hwf hg9 hr9
    go_wp2_with fail
    go_loopw [18] (fun q wr => ∃ k : Nat, k ≤ n ∧ q = .int .i64 k ∧ Below w9.heap.size w9 wr) (fun q _ => n - (intOf q).toNat)
    case atStart => exact ⟨0, by omega, rfl, Below.refl _ _⟩
    case round =>
      obtain ⟨k, hk, rfl, hby⟩ := hrel
      have hsy := hby.size
      by_cases hkn : k < n
      · have hkn' : (k : Int) < (n : Int) := by omega
        have hCk := (HC9.out.later' hby (Nat.le_refl _)).cell k hkn
        have a1 := (HY1'.out.later' hby (Nat.le_refl _)).cell (k + 1) (by omega)
        have a2 := (HY2'.out.later' hby (Nat.le_refl _)).cell (k + 1) (by omega)
        have a3 := (HY3'.out.later' hby (Nat.le_refl _)).cell (k + 1) (by omega)
        rw [HWF.out.ens] at a1
        rw [HWF.out.els] at a2
        rw [HWF.out.own k hkn] at a3
        have hor : -1 ≤ owF (opF xs) n k ∧ owF (opF xs) n k < n := by
          unfold owF; rw [if_pos hkn]; have := top_lt (opF xs) k; omega
        generalize owF (opF xs) n k = ow at *
        have HBY := hid hby
        clear hby ea0 eb0 ec0 ecn ean
        have hdr : Below wr.heap.size wr wr.drew := below_drewN (Below.refl _ _) 1
        obtain ⟨se, hse⟩ : ∃ se, se = sh (enF (opF xs) n k) := ⟨_, rfl⟩
        obtain ⟨sl, hsl⟩ : ∃ sl, sl = sh (elF (opF xs) n k) := ⟨_, rfl⟩
        rw [← hse] at a1
        rw [← hsl] at a2
        have HSE := hid hse
        have HSL := hid hsl
        have hwrap : IntKind.i64.wrap ((k : Int) + 1) = (k : Int) + 1 := wrap_succ hkn (by omega)
        have HM1 : Hid (∀ W, Below wr.heap.size wr W → ∀ c, 1 ≤ c → _) := hid (fun W hW c hc => moved_one A k n (enF (opF xs) n) c W (((HA9.out.later' HBY.out (Nat.le_refl _)).later' hW (Nat.le_refl _))) hkn (by have := enF_range (O := opF xs) n k; omega) hc)
        have HM2 : Hid (∀ W, Below wr.heap.size wr W → ∀ c, 1 ≤ c → _) := hid (fun W hW c hc => moved_one B k n (elF (opF xs) n) c W (((HB9.out.later' HBY.out (Nat.le_refl _)).later' hW (Nat.le_refl _))) hkn (by have := elF_range (O := opF xs) n k; omega) hc)
        rw [← hse] at HM1
        rw [← hsl] at HM2
        clear hse hsl
        go_wp2_with fail
        refine wp_region_held_drew (S := fun W => W.cell? ⟨A', k + 1, none⟩ = some (.int .i64 se) ∧ W.cell? ⟨B', k + 1, none⟩ = some (.int .i64 sl) ∧ W.cell? ⟨C', k + 1, none⟩ = some (.int .i64 (ow + 1)) ∧ Below wr.heap.size wr W) (by kernel_rfl) ?_ (fun hHeld => ?_)
        · ((try dsimp only); go_keep)
        refine take_at (i := 0) (d := some 128) (v := ?_) rfl (by kernel_rfl) (by kernel_rfl) (by kernel_rfl) (by kernel_rfl) (fun _ _ _ h => h) (Or.inl ⟨by kernel_rfl, ?_⟩) hHeld ?_
        rotate_left 1
        · (intro w hSw; (try dsimp only at hSw); go_simp; try with_reducible rfl)
        try simp only [Act.put, List.setIfInBounds_toArray, List.set_cons_zero, List.set_cons_succ]
        refine take_at (i := 1) (d := some 129) (v := ?_) rfl (by kernel_rfl) (by kernel_rfl) (by kernel_rfl) (by kernel_rfl) (fun _ _ _ h => h) (Or.inl ⟨by kernel_rfl, ?_⟩) hHeld ?_
        rotate_left 1
        · (intro w hSw; (try dsimp only at hSw); go_simp; try with_reducible rfl)
        try simp only [Act.put, List.setIfInBounds_toArray, List.set_cons_zero, List.set_cons_succ]
        refine take_at (i := 2) (d := some 130) (v := .int .i64 ((k : Int) + 1)) rfl (by kernel_rfl) (by kernel_rfl) (by kernel_rfl) (by kernel_rfl) (fun _ _ _ h => h) (Or.inl ⟨by kernel_rfl, ?_⟩) hHeld ?_
        · (intro w hSw; (try dsimp only at hSw); go_simp)
        try simp only [Act.put, List.setIfInBounds_toArray, List.set_cons_zero, List.set_cons_succ]
        refine take_at (i := 3) (d := some 131) (v := .pointer (some ⟨A', k + 1, none⟩)) rfl (by kernel_rfl) (by kernel_rfl) (by kernel_rfl) (by kernel_rfl) (fun _ _ _ h => h) (Or.inl ⟨by kernel_rfl, ?_⟩) hHeld ?_
        · (intro w hSw; (try dsimp only at hSw); go_simp; intro hx; exact absurd (hx (by omega)) (by omega))
        try simp only [Act.put, List.setIfInBounds_toArray, List.set_cons_zero, List.set_cons_succ]
        refine take_at (i := 4) (d := some 132) (v := ?_) rfl (by kernel_rfl) (by kernel_rfl) (by kernel_rfl) (by kernel_rfl) (fun _ _ _ h => h) (Or.inl ⟨by kernel_rfl, ?_⟩) hHeld ?_
        rotate_left 1
        · (intro w hSw; (try dsimp only at hSw); go_simp; try with_reducible rfl)
        try simp only [Act.put, List.setIfInBounds_toArray, List.set_cons_zero, List.set_cons_succ]
        refine take_at (i := 5) (d := some 133) (v := ?_) rfl (by kernel_rfl) (by kernel_rfl) (by kernel_rfl) (by kernel_rfl) (fun _ _ _ h => h) (Or.inl ⟨by kernel_rfl, ?_⟩) hHeld ?_
        rotate_left 1
        · (intro w hSw; (try dsimp only at hSw); go_simp; try with_reducible rfl)
        try simp only [Act.put, List.setIfInBounds_toArray, List.set_cons_zero, List.set_cons_succ]
        refine take_at (i := 6) (d := some 134) (v := ?_) rfl (by kernel_rfl) (by kernel_rfl) (by kernel_rfl) (by kernel_rfl) (fun _ _ _ h => h) (Or.inl ⟨by kernel_rfl, ?_⟩) hHeld ?_
        rotate_left 1
        · (intro w hSw; (try dsimp only at hSw); go_simp; try with_reducible rfl)
        try simp only [Act.put, List.setIfInBounds_toArray, List.set_cons_zero, List.set_cons_succ]
        refine take_at (i := 7) (d := some 135) (v := ?_) rfl (by kernel_rfl) (by kernel_rfl) (by kernel_rfl) (by kernel_rfl) (fun _ _ _ h => h) (Or.inl ⟨by kernel_rfl, ?_⟩) hHeld ?_
        rotate_left 1
        · (intro w hSw; (try dsimp only at hSw); go_simp; try with_reducible rfl)
        try simp only [Act.put, List.setIfInBounds_toArray, List.set_cons_zero, List.set_cons_succ]
        refine take_at (i := 8) (d := some 136) (v := .int .i64 ((k : Int) + 1)) rfl (by kernel_rfl) (by kernel_rfl) (by kernel_rfl) (by kernel_rfl) (fun _ _ _ h => h) (Or.inl ⟨by kernel_rfl, ?_⟩) hHeld ?_
        · (intro w hSw; (try dsimp only at hSw); go_simp)
        try simp only [Act.put, List.setIfInBounds_toArray, List.set_cons_zero, List.set_cons_succ]
        refine take_at (i := 9) (d := some 137) (v := .slice (some ⟨A, k, none⟩) 1 (n - k)) rfl (by kernel_rfl) (by kernel_rfl) (by kernel_rfl) (by kernel_rfl) (fun _ _ _ h => h) (Or.inl ⟨by kernel_rfl, ?_⟩) hHeld ?_
        · (intro w hSw; (try dsimp only at hSw); go_simp; rw [if_pos ⟨by omega, by omega⟩, if_neg (by omega)])
        try simp only [Act.put, List.setIfInBounds_toArray, List.set_cons_zero, List.set_cons_succ]
        refine wpAnyH_ready (rs := [10]) (by kernel_rfl) (by simp) ?_
        refine AllReadyH.cons rfl (fun K hK => ?_) AllReadyH.nil
        go_simp
        refine (HM1.out _ hHeld.2.2.2 (n - k) (by omega)).mono ?_
        rintro e wp ⟨g1, cg1, rfl, hg1, hbg1⟩
        have hBg1 : Below wr.heap.size wr wp := hHeld.2.2.2.trans (hbg1.mono hHeld.2.2.2.size)
        have t1g1 := (hBg1.cell (p := ⟨A', k + 1, none⟩) (by simp only; omega)).trans a1
        have t2g1 := (hBg1.cell (p := ⟨B', k + 1, none⟩) (by simp only; omega)).trans a2
        have t3g1 := (hBg1.cell (p := ⟨C', k + 1, none⟩) (by simp only; omega)).trans a3
        clear hHeld hbg1
        go_wp2_with fail
        refine hK.out _ _ ?_ (fun hHeld => ?_)
        · ((try dsimp only); go_keep)
        clear hK K
        try simp only [Act.put, List.setIfInBounds_toArray, List.set_cons_zero, List.set_cons_succ]
        refine take_at (i := 11) (d := some 139) (v := ?_) rfl (by kernel_rfl) (by kernel_rfl) (by kernel_rfl) (by kernel_rfl) (fun _ _ _ h => h) (Or.inl ⟨by kernel_rfl, ?_⟩) hHeld ?_
        rotate_left 1
        · (intro w hSw; (try dsimp only at hSw); go_simp; try with_reducible rfl)
        try simp only [Act.put, List.setIfInBounds_toArray, List.set_cons_zero, List.set_cons_succ]
        refine wpAnyH_ready (rs := [12]) (by kernel_rfl) (by simp) ?_
        refine AllReadyH.cons rfl (fun K hK => ?_) AllReadyH.nil
        go_simp
        try go_wp2_with fail
        refine hK.out _ _ ?_ (fun hHeld => ?_)
        · ((try dsimp only); go_keep)
        clear hK K
        try simp only [Act.put, List.setIfInBounds_toArray, List.set_cons_zero, List.set_cons_succ]
        refine take_at (i := 13) (d := some 141) (v := ?_) rfl (by kernel_rfl) (by kernel_rfl) (by kernel_rfl) (by kernel_rfl) (fun _ _ _ h => h) (Or.inl ⟨by kernel_rfl, ?_⟩) hHeld ?_
        rotate_left 1
        · (intro w hSw; (try dsimp only at hSw); go_simp; try with_reducible rfl)
        try simp only [Act.put, List.setIfInBounds_toArray, List.set_cons_zero, List.set_cons_succ]
        refine take_at (i := 14) (d := some 142) (v := ?_) rfl (by kernel_rfl) (by kernel_rfl) (by kernel_rfl) (by kernel_rfl) (fun _ _ _ h => h) (Or.inl ⟨by kernel_rfl, ?_⟩) hHeld ?_
        rotate_left 1
        · (intro w hSw; (try dsimp only at hSw); go_simp; try with_reducible rfl)
        try simp only [Act.put, List.setIfInBounds_toArray, List.set_cons_zero, List.set_cons_succ]
        refine take_at (i := 15) (d := some 143) (v := ?_) rfl (by kernel_rfl) (by kernel_rfl) (by kernel_rfl) (by kernel_rfl) (fun _ _ _ h => h) (Or.inl ⟨by kernel_rfl, ?_⟩) hHeld ?_
        rotate_left 1
        · (intro w hSw; (try dsimp only at hSw); go_simp; try with_reducible rfl)
        try simp only [Act.put, List.setIfInBounds_toArray, List.set_cons_zero, List.set_cons_succ]
        refine take_at (i := 16) (d := some 144) (v := ?_) rfl (by kernel_rfl) (by kernel_rfl) (by kernel_rfl) (by kernel_rfl) (fun _ _ _ h => h) (Or.inl ⟨by kernel_rfl, ?_⟩) hHeld ?_
        rotate_left 1
        · (intro w hSw; (try dsimp only at hSw); go_simp; try with_reducible rfl)
        try simp only [Act.put, List.setIfInBounds_toArray, List.set_cons_zero, List.set_cons_succ]
        refine take_at (i := 17) (d := some 145) (v := .int .i64 ((k : Int) + 1)) rfl (by kernel_rfl) (by kernel_rfl) (by kernel_rfl) (by kernel_rfl) (fun _ _ _ h => h) (Or.inl ⟨by kernel_rfl, ?_⟩) hHeld ?_
        · (intro w hSw; (try dsimp only at hSw); go_simp)
        try simp only [Act.put, List.setIfInBounds_toArray, List.set_cons_zero, List.set_cons_succ]
        refine take_at (i := 18) (d := some 146) (v := .pointer (some ⟨B', k + 1, none⟩)) rfl (by kernel_rfl) (by kernel_rfl) (by kernel_rfl) (by kernel_rfl) (fun _ _ _ h => h) (Or.inl ⟨by kernel_rfl, ?_⟩) hHeld ?_
        · (intro w hSw; (try dsimp only at hSw); go_simp; intro hx; exact absurd (hx (by omega)) (by omega))
        try simp only [Act.put, List.setIfInBounds_toArray, List.set_cons_zero, List.set_cons_succ]
        refine take_at (i := 19) (d := some 147) (v := ?_) rfl (by kernel_rfl) (by kernel_rfl) (by kernel_rfl) (by kernel_rfl) (fun _ _ _ h => h) (Or.inl ⟨by kernel_rfl, ?_⟩) hHeld ?_
        rotate_left 1
        · (intro w hSw; (try dsimp only at hSw); go_simp; try with_reducible rfl)
        try simp only [Act.put, List.setIfInBounds_toArray, List.set_cons_zero, List.set_cons_succ]
        refine take_at (i := 20) (d := some 148) (v := ?_) rfl (by kernel_rfl) (by kernel_rfl) (by kernel_rfl) (by kernel_rfl) (fun _ _ _ h => h) (Or.inl ⟨by kernel_rfl, ?_⟩) hHeld ?_
        rotate_left 1
        · (intro w hSw; (try dsimp only at hSw); go_simp; try with_reducible rfl)
        try simp only [Act.put, List.setIfInBounds_toArray, List.set_cons_zero, List.set_cons_succ]
        refine take_at (i := 21) (d := some 149) (v := ?_) rfl (by kernel_rfl) (by kernel_rfl) (by kernel_rfl) (by kernel_rfl) (fun _ _ _ h => h) (Or.inl ⟨by kernel_rfl, ?_⟩) hHeld ?_
        rotate_left 1
        · (intro w hSw; (try dsimp only at hSw); go_simp; try with_reducible rfl)
        try simp only [Act.put, List.setIfInBounds_toArray, List.set_cons_zero, List.set_cons_succ]
        refine take_at (i := 22) (d := some 150) (v := ?_) rfl (by kernel_rfl) (by kernel_rfl) (by kernel_rfl) (by kernel_rfl) (fun _ _ _ h => h) (Or.inl ⟨by kernel_rfl, ?_⟩) hHeld ?_
        rotate_left 1
        · (intro w hSw; (try dsimp only at hSw); go_simp; try with_reducible rfl)
        try simp only [Act.put, List.setIfInBounds_toArray, List.set_cons_zero, List.set_cons_succ]
        refine take_at (i := 23) (d := some 151) (v := .int .i64 ((k : Int) + 1)) rfl (by kernel_rfl) (by kernel_rfl) (by kernel_rfl) (by kernel_rfl) (fun _ _ _ h => h) (Or.inl ⟨by kernel_rfl, ?_⟩) hHeld ?_
        · (intro w hSw; (try dsimp only at hSw); go_simp)
        try simp only [Act.put, List.setIfInBounds_toArray, List.set_cons_zero, List.set_cons_succ]
        refine take_at (i := 24) (d := some 152) (v := .slice (some ⟨B, k, none⟩) 1 (n - k)) rfl (by kernel_rfl) (by kernel_rfl) (by kernel_rfl) (by kernel_rfl) (fun _ _ _ h => h) (Or.inl ⟨by kernel_rfl, ?_⟩) hHeld ?_
        · (intro w hSw; (try dsimp only at hSw); go_simp; rw [if_pos ⟨by omega, by omega⟩, if_neg (by omega)])
        try simp only [Act.put, List.setIfInBounds_toArray, List.set_cons_zero, List.set_cons_succ]
        refine wpAnyH_ready (rs := [25]) (by kernel_rfl) (by simp) ?_
        refine AllReadyH.cons rfl (fun K hK => ?_) AllReadyH.nil
        go_simp
        refine (HM2.out _ hHeld.2.2.2 (n - k) (by omega)).mono ?_
        rintro e wq ⟨g2, cg2, rfl, hg2, hbg2⟩
        have hBg2 : Below wr.heap.size wr wq := hHeld.2.2.2.trans (hbg2.mono hHeld.2.2.2.size)
        have t1g2 := (hBg2.cell (p := ⟨A', k + 1, none⟩) (by simp only; omega)).trans a1
        have t2g2 := (hBg2.cell (p := ⟨B', k + 1, none⟩) (by simp only; omega)).trans a2
        have t3g2 := (hBg2.cell (p := ⟨C', k + 1, none⟩) (by simp only; omega)).trans a3
        clear hHeld hbg2
        go_wp2_with fail
        refine hK.out _ _ ?_ (fun hHeld => ?_)
        · ((try dsimp only); go_keep)
        clear hK K
        try simp only [Act.put, List.setIfInBounds_toArray, List.set_cons_zero, List.set_cons_succ]
        refine take_at (i := 26) (d := some 154) (v := ?_) rfl (by kernel_rfl) (by kernel_rfl) (by kernel_rfl) (by kernel_rfl) (fun _ _ _ h => h) (Or.inl ⟨by kernel_rfl, ?_⟩) hHeld ?_
        rotate_left 1
        · (intro w hSw; (try dsimp only at hSw); go_simp; try with_reducible rfl)
        try simp only [Act.put, List.setIfInBounds_toArray, List.set_cons_zero, List.set_cons_succ]
        refine wpAnyH_ready (rs := [27]) (by kernel_rfl) (by simp) ?_
        refine AllReadyH.cons rfl (fun K hK => ?_) AllReadyH.nil
        go_simp
        try go_wp2_with fail
        refine hK.out _ _ ?_ (fun hHeld => ?_)
        · ((try dsimp only); go_keep)
        clear hK K
        try simp only [Act.put, List.setIfInBounds_toArray, List.set_cons_zero, List.set_cons_succ]
        refine take_at (i := 28) (d := some 156) (v := ?_) rfl (by kernel_rfl) (by kernel_rfl) (by kernel_rfl) (by kernel_rfl) (fun _ _ _ h => h) (Or.inl ⟨by kernel_rfl, ?_⟩) hHeld ?_
        rotate_left 1
        · (intro w hSw; (try dsimp only at hSw); go_simp; try with_reducible rfl)
        try simp only [Act.put, List.setIfInBounds_toArray, List.set_cons_zero, List.set_cons_succ]
        refine take_at (i := 29) (d := some 157) (v := ?_) rfl (by kernel_rfl) (by kernel_rfl) (by kernel_rfl) (by kernel_rfl) (fun _ _ _ h => h) (Or.inl ⟨by kernel_rfl, ?_⟩) hHeld ?_
        rotate_left 1
        · (intro w hSw; (try dsimp only at hSw); go_simp; try with_reducible rfl)
        try simp only [Act.put, List.setIfInBounds_toArray, List.set_cons_zero, List.set_cons_succ]
        refine take_at (i := 30) (d := some 158) (v := ?_) rfl (by kernel_rfl) (by kernel_rfl) (by kernel_rfl) (by kernel_rfl) (fun _ _ _ h => h) (Or.inl ⟨by kernel_rfl, ?_⟩) hHeld ?_
        rotate_left 1
        · (intro w hSw; (try dsimp only at hSw); go_simp; try with_reducible rfl)
        try simp only [Act.put, List.setIfInBounds_toArray, List.set_cons_zero, List.set_cons_succ]
        refine take_at (i := 31) (d := some 159) (v := ?_) rfl (by kernel_rfl) (by kernel_rfl) (by kernel_rfl) (by kernel_rfl) (fun _ _ _ h => h) (Or.inl ⟨by kernel_rfl, ?_⟩) hHeld ?_
        rotate_left 1
        · (intro w hSw; (try dsimp only at hSw); go_simp; try with_reducible rfl)
        try simp only [Act.put, List.setIfInBounds_toArray, List.set_cons_zero, List.set_cons_succ]
        refine take_at (i := 32) (d := some 160) (v := ?_) rfl (by kernel_rfl) (by kernel_rfl) (by kernel_rfl) (by kernel_rfl) (fun _ _ _ h => h) (Or.inl ⟨by kernel_rfl, ?_⟩) hHeld ?_
        rotate_left 1
        · (intro w hSw; (try dsimp only at hSw); go_simp; try with_reducible rfl)
        try simp only [Act.put, List.setIfInBounds_toArray, List.set_cons_zero, List.set_cons_succ]
        refine take_at (i := 33) (d := some 161) (v := .int .i64 ((k : Int) + 1)) rfl (by kernel_rfl) (by kernel_rfl) (by kernel_rfl) (by kernel_rfl) (fun _ _ _ h => h) (Or.inl ⟨by kernel_rfl, ?_⟩) hHeld ?_
        · (intro w hSw; (try dsimp only at hSw); go_simp)
        try simp only [Act.put, List.setIfInBounds_toArray, List.set_cons_zero, List.set_cons_succ]
        refine take_at (i := 34) (d := some 162) (v := .pointer (some ⟨C', k + 1, none⟩)) rfl (by kernel_rfl) (by kernel_rfl) (by kernel_rfl) (by kernel_rfl) (fun _ _ _ h => h) (Or.inl ⟨by kernel_rfl, ?_⟩) hHeld ?_
        · (intro w hSw; (try dsimp only at hSw); go_simp; intro hx; exact absurd (hx (by omega)) (by omega))
        try simp only [Act.put, List.setIfInBounds_toArray, List.set_cons_zero, List.set_cons_succ]
        refine take_at (i := 35) (d := some 163) (v := ?_) rfl (by kernel_rfl) (by kernel_rfl) (by kernel_rfl) (by kernel_rfl) (fun _ _ _ h => h) (Or.inl ⟨by kernel_rfl, ?_⟩) hHeld ?_
        rotate_left 1
        · (intro w hSw; (try dsimp only at hSw); go_simp; try with_reducible rfl)
        try simp only [Act.put, List.setIfInBounds_toArray, List.set_cons_zero, List.set_cons_succ]
        refine take_at (i := 36) (d := some 164) (v := ?_) rfl (by kernel_rfl) (by kernel_rfl) (by kernel_rfl) (by kernel_rfl) (fun _ _ _ h => h) (Or.inl ⟨by kernel_rfl, ?_⟩) hHeld ?_
        rotate_left 1
        · (intro w hSw; (try dsimp only at hSw); go_simp; try with_reducible rfl)
        try simp only [Act.put, List.setIfInBounds_toArray, List.set_cons_zero, List.set_cons_succ]
        refine take_at (i := 37) (d := some 165) (v := ?_) rfl (by kernel_rfl) (by kernel_rfl) (by kernel_rfl) (by kernel_rfl) (fun _ _ _ h => h) (Or.inl ⟨by kernel_rfl, ?_⟩) hHeld ?_
        rotate_left 1
        · (intro w hSw; (try dsimp only at hSw); go_simp; try with_reducible rfl)
        try simp only [Act.put, List.setIfInBounds_toArray, List.set_cons_zero, List.set_cons_succ]
        refine take_at (i := 38) (d := some 166) (v := ?_) rfl (by kernel_rfl) (by kernel_rfl) (by kernel_rfl) (by kernel_rfl) (fun _ _ _ h => h) (Or.inl ⟨by kernel_rfl, ?_⟩) hHeld ?_
        rotate_left 1
        · (intro w hSw; (try dsimp only at hSw); go_simp; try with_reducible rfl)
        try simp only [Act.put, List.setIfInBounds_toArray, List.set_cons_zero, List.set_cons_succ]
        refine wpAnyH_done (by kernel_rfl) ?_ _
        have hBq : Below w9.heap.size w9 wq := HBY.out.trans (hBg2.mono hsy)
        have hbq : Below w.heap.size w wq := HBW.out.trans (hBq.mono hsw9)
        have hsq := hbq.size
        have hcq := HCD.out.later hbq (Nat.le_refl _)
        have hzq := HCD9.out.later hBq (Nat.le_refl _)
        obtain ⟨d0, d1, d2, r1, r2, r3, r4, r5, r6⟩ := hcq.2 k hkn
        have hlnk := HLN.out k hkn
        have r6 := r6 (by omega)
        have hblk : b < wq.heap.size := block_lt_of_cell d0
        have hdq : Below wq.heap.size wq wq.drew := below_drewN (Below.refl _ _) 1
        obtain ⟨es1, es2, es3, es4⟩ := HCP.out.same k hkn
        have hgz := HGET.out k hkn
        have hlab : labV (opF xs) n k = labs (opF xs) k := by unfold labV; rw [if_pos ⟨HR0.out, by omega, by omega⟩]; simp
        have hll33 : (labs (opF xs) k).length ≤ 33 := by have := labs_length (opF xs) k; have := good_stk_len HG.out hkn; omega
        have hopk : opF xs k = (xs.getD k dx).c := rfl
        have hnx0 : nxtV (opF xs) n k (xs.getD ((k : Int)).toNat dx) = nub (pls (opF xs) n k (opF xs k) (xs.getD k dx).a (xs.getD k dx).l) := by
          unfold nxtV; rw [if_pos ⟨HR0.out, by omega, by omega⟩]; simp [opF]
        have hnx1 : nxtV (opF zs) ((n + 2 : Nat)) ((k : Int) + 1) (zs.getD (((k : Int) + 1)).toNat dx) = nub (pls (opF zs) (n + 2) (k + 1) (opF xs k) (xs.getD k dx).a (xs.getD k dx).l) := by
          unfold nxtV
          have e : ((k : Int) + 1).toNat = k + 1 := by omega
          rw [if_pos ⟨by rw [HR9.out], by omega, by omega⟩, e, hgz, es1, es2, es3]; rfl
        have hrng0 : ∀ z ∈ nub (pls (opF xs) n k (opF xs k) (xs.getD k dx).a (xs.getD k dx).l), 0 ≤ z ∧ z ≤ n := fun z hz => pls_range HG.out hkn z (((nub_facts _).2 z).1 hz)
        have hlen0 : (nub (pls (opF xs) n k (opF xs k) (xs.getD k dx).a (xs.getD k dx).l)).length ≤ 1000000 := by
          have h1 := nub_len (pls (opF xs) n k (opF xs k) (xs.getD k dx).a (xs.getD k dx).l)
          have h2 := pls_len (O := opF xs) (n := n) (i := k) (c := opF xs k) (a := (xs.getD k dx).a) (l := (xs.getD k dx).l)
          have h3 := r6.1
          omega
        have hwrapN : nam (xs.getD k dx).c (xs.getD k dx).a (xs.getD k dx).l (labs (opF xs) k).length = true → nub (pls (opF zs) (n + 2) (k + 1) (opF xs k) (xs.getD k dx).a (xs.getD k dx).l) = (nub (pls (opF xs) n k (opF xs k) (xs.getD k dx).a (xs.getD k dx).l)).map (mz n (decide (opF xs k = 10))) := fun hnam => nxt_wrap HWD.out HG.out hkn hnam
        rw [hopk] at hnx0 hnx1 hrng0 hlen0 hwrapN
        obtain ⟨L, hL⟩ : ∃ L, L = (labs (opF xs) k).length := ⟨_, rfl⟩
        rw [← hL] at hwrapN hll33
        obtain ⟨N0, hN0⟩ : ∃ N0, N0 = nub (pls (opF xs) n k (xs.getD k dx).c (xs.getD k dx).a (xs.getD k dx).l) := ⟨_, rfl⟩
        rw [← hN0] at hnx0 hrng0 hlen0 hwrapN
        obtain ⟨N1, hN1⟩ : ∃ N1, N1 = nub (pls (opF zs) (n + 2) (k + 1) (xs.getD k dx).c (xs.getD k dx).a (xs.getD k dx).l) := ⟨_, rfl⟩
        rw [← hN1] at hnx1 hwrapN
        obtain ⟨r, hrr⟩ : ∃ r, r = decide ((xs.getD k dx).c = 10) := ⟨_, rfl⟩
        rw [← hrr] at hwrapN
        have q10 : ((xs.getD k dx).c == 10) = r := by rw [hrr]; rfl
        have HLAB := hid (fun (W : World) (hW : Below wq.heap.size wq W) => labs_in (some ⟨b, off, none⟩) n cap xs k (labs (opF xs) k) W (by omega) hcap ⟨hcq.1, .inr ⟨b, off, rfl, hcq.later hW (Nat.le_refl _)⟩⟩ hlab)
        rw [← hL] at HLAB
        have HNAM := hid (fun (W : World) (hW : Below wq.heap.size wq W) => named (xs.getD k dx).c (xs.getD k dx).a _ _ _ _ L W (r6.later hW (Nat.le_refl _)) ⟨r1, r2⟩ (by omega) (by omega))
        unfold insV at HNAM
        have HNX1 := hid (fun (W : World) (hW : Below wq.heap.size wq W) => next_in (some ⟨g8, 0, none⟩) (n + 2) c8 zs ((k : Int) + 1) N1 W (by omega) hc8 ⟨hzq.1, .inr ⟨g8, 0, rfl, hzq.later hW (Nat.le_refl _)⟩⟩ HLNZ.out hnx1)
        have HNX0 := hid (fun (W : World) (hW : Below wq.heap.size wq W) => next_in (some ⟨b, off, none⟩) n cap xs k N0 W (by omega) hcap ⟨hcq.1, .inr ⟨b, off, rfl, hcq.later hW (Nat.le_refl _)⟩⟩ (fun j hj => by have := HLN.out j hj; omega) hnx0)
        have HMOV := hid (fun (W : World) (a : Option Addr) (c base : Nat) (hl : LI W base (.slice a N0.length c) N0) => moved a N0.length c N0 n r W (hl.seg (fun z hz => by have := hrng0 z hz; omega) (by omega)) hlen0 (by omega) (fun z hz => by have := hrng0 z hz; omega))
        obtain ⟨R, hR⟩ : ∃ R, R = nam (xs.getD k dx).c (xs.getD k dx).a (xs.getD k dx).l L := ⟨_, rfl⟩
        rw [← hR] at HNAM hwrapN
        have hr1 : ∀ z ∈ N0.map (mz n r), -9223372036854775808 ≤ z ∧ z ≤ 9223372036854775807 := fun z hz => by
          obtain ⟨y, hy, rfl⟩ := List.mem_map.1 hz
          have := hrng0 y hy
          unfold mz
          split
          · omega
          · split <;> omega
        have hlen2 : (N0.map (mz n r)).length ≤ 1000000 := by rw [List.length_map]; exact hlen0
        obtain ⟨N2, hN2⟩ : ∃ N2, N2 = N0.map (mz n r) := ⟨_, rfl⟩
        rw [← hN2] at HMOV hwrapN hr1 hlen2
        have HR1 := hid hr1
        have HLEN2 := hid hlen2
        have HWN := hid hwrapN
        generalize xs.getD k dx = x at *
        have HHQ := hid hbq
        have hsqq : w9.heap.size ≤ wq.heap.size := hBq.size
        have HBQ := hid hBq
        clear hcq hzq hgz hlab hnx0 hnx1 hrng0 hwrapN hr1 es1 es2 es3 es4 r5 r6 hL hN0 hN1 hN2 hrr hR hopk hbq hBq hlen0 hlen2 t1g2 t2g2 t3g2 t1g1 t2g1 t3g1 hBg1 hg1 hg2 hHeld hBg2
        go_wp2_with fail
        refine wp_region_held_drew (S := fun W => W.cell? ⟨b, off + k * 3, none⟩ = some (.int .u8 x.c) ∧ W.cell? ⟨b, off + k * 3 + 1, none⟩ = some (.int .i64 x.a) ∧ W.cell? ⟨b, off + k * 3 + 2, none⟩ = some (.slice x.la x.ln x.lc) ∧ Below wq.heap.size wq W) (by kernel_rfl) ?_ (fun hHeld => ?_)
        · ((try dsimp only); go_keep)
        refine take_at (i := 0) (d := some 167) (v := ?_) rfl (by kernel_rfl) (by kernel_rfl) (by kernel_rfl) (by kernel_rfl) (fun _ _ _ h => h) (Or.inl ⟨by kernel_rfl, ?_⟩) hHeld ?_
        rotate_left 1
        · (intro w hSw; (try dsimp only at hSw); go_simp; try with_reducible rfl)
        try simp only [Act.put, List.setIfInBounds_toArray, List.set_cons_zero, List.set_cons_succ]
        refine take_at (i := 1) (d := some 168) (v := ?_) rfl (by kernel_rfl) (by kernel_rfl) (by kernel_rfl) (by kernel_rfl) (fun _ _ _ h => h) (Or.inl ⟨by kernel_rfl, ?_⟩) hHeld ?_
        rotate_left 1
        · (intro w hSw; (try dsimp only at hSw); go_simp; try with_reducible rfl)
        try simp only [Act.put, List.setIfInBounds_toArray, List.set_cons_zero, List.set_cons_succ]
        refine take_at (i := 2) (d := some 169) (v := ?_) rfl (by kernel_rfl) (by kernel_rfl) (by kernel_rfl) (by kernel_rfl) (fun _ _ _ h => h) (Or.inl ⟨by kernel_rfl, ?_⟩) hHeld ?_
        rotate_left 1
        · (intro w hSw; (try dsimp only at hSw); go_simp; try with_reducible rfl)
        try simp only [Act.put, List.setIfInBounds_toArray, List.set_cons_zero, List.set_cons_succ]
        refine take_at (i := 3) (d := some 170) (v := ?_) rfl (by kernel_rfl) (by kernel_rfl) (by kernel_rfl) (by kernel_rfl) (fun _ _ _ h => h) (Or.inl ⟨by kernel_rfl, ?_⟩) hHeld ?_
        rotate_left 1
        · (intro w hSw; (try dsimp only at hSw); go_simp; try with_reducible rfl)
        try simp only [Act.put, List.setIfInBounds_toArray, List.set_cons_zero, List.set_cons_succ]
        refine take_at (i := 4) (d := some 171) (v := ?_) rfl (by kernel_rfl) (by kernel_rfl) (by kernel_rfl) (by kernel_rfl) (fun _ _ _ h => h) (Or.inl ⟨by kernel_rfl, ?_⟩) hHeld ?_
        rotate_left 1
        · (intro w hSw; (try dsimp only at hSw); go_simp; try with_reducible rfl)
        try simp only [Act.put, List.setIfInBounds_toArray, List.set_cons_zero, List.set_cons_succ]
        refine take_at (i := 5) (d := some 172) (v := ?_) rfl (by kernel_rfl) (by kernel_rfl) (by kernel_rfl) (by kernel_rfl) (fun _ _ _ h => h) (Or.inl ⟨by kernel_rfl, ?_⟩) hHeld ?_
        rotate_left 1
        · (intro w hSw; (try dsimp only at hSw); go_simp; try with_reducible rfl)
        try simp only [Act.put, List.setIfInBounds_toArray, List.set_cons_zero, List.set_cons_succ]
        refine wpAnyH_ready (rs := [6]) (by kernel_rfl) (by simp) ?_
        refine AllReadyH.cons rfl (fun K hK => ?_) AllReadyH.nil
        go_simp
        refine (HLAB.out _ hHeld.2.2.2).mono ?_
        rintro e v6 ⟨la6, lc6, rfl, hb6⟩
        have hBv6 : Below wq.heap.size wq v6 := hHeld.2.2.2.trans (hb6.mono hHeld.2.2.2.size)
        have s1v6 := (hBv6.cell (p := ⟨b, off + k * 3, none⟩) hblk).trans d0
        have s2v6 := (hBv6.cell (p := ⟨b, off + k * 3 + 1, none⟩) hblk).trans d1
        have s3v6 := (hBv6.cell (p := ⟨b, off + k * 3 + 2, none⟩) hblk).trans d2
        clear hHeld hb6
        go_wp2_with fail
        refine hK.out _ _ ?_ (fun hHeld => ?_)
        · ((try dsimp only); go_keep)
        clear hK K
        try simp only [Act.put, List.setIfInBounds_toArray, List.set_cons_zero, List.set_cons_succ]
        refine take_at (i := 7) (d := some 174) (v := ?_) rfl (by kernel_rfl) (by kernel_rfl) (by kernel_rfl) (by kernel_rfl) (fun _ _ _ h => h) (Or.inl ⟨by kernel_rfl, ?_⟩) hHeld ?_
        rotate_left 1
        · (intro w hSw; (try dsimp only at hSw); go_simp; try with_reducible rfl)
        try simp only [Act.put, List.setIfInBounds_toArray, List.set_cons_zero, List.set_cons_succ]
        refine wpAnyH_ready (rs := [8]) (by kernel_rfl) (by simp) ?_
        refine AllReadyH.cons rfl (fun K hK => ?_) AllReadyH.nil
        go_simp
        refine (HNAM.out _ hHeld.2.2.2).mono ?_
        rintro e v8 ⟨rfl, hb8⟩
        have hBv8 : Below wq.heap.size wq v8 := hHeld.2.2.2.trans (hb8.mono hHeld.2.2.2.size)
        have s1v8 := (hBv8.cell (p := ⟨b, off + k * 3, none⟩) hblk).trans d0
        have s2v8 := (hBv8.cell (p := ⟨b, off + k * 3 + 1, none⟩) hblk).trans d1
        have s3v8 := (hBv8.cell (p := ⟨b, off + k * 3 + 2, none⟩) hblk).trans d2
        clear hHeld hb8 s1v6 s2v6 s3v6
        go_wp2_with fail
        refine hK.out _ _ ?_ (fun hHeld => ?_)
        · ((try dsimp only); go_keep)
        clear hK K
        try simp only [Act.put, List.setIfInBounds_toArray, List.set_cons_zero, List.set_cons_succ]
        cases R
        · refine take_at (i := 9) (d := some 176) (v := ?_) rfl (by kernel_rfl) (by kernel_rfl) (by kernel_rfl) (by kernel_rfl) (fun _ _ _ h => h) (Or.inl ⟨by kernel_rfl, ?_⟩) hHeld ?_
          rotate_left 1
          · (intro w hSw; (try dsimp only at hSw); go_simp; try with_reducible rfl)
          try simp only [Act.put, List.setIfInBounds_toArray, List.set_cons_zero, List.set_cons_succ]
          refine take_at (i := 10) (d := some 177) (v := undef) rfl (by kernel_rfl) (by kernel_rfl) (by kernel_rfl) (by kernel_rfl) (fun _ _ _ h => h) (Or.inr ⟨by kernel_rfl, rfl⟩) hHeld ?_
          try simp only [Act.put, List.setIfInBounds_toArray, List.set_cons_zero, List.set_cons_succ]
          refine take_at (i := 11) (d := some 178) (v := undef) rfl (by kernel_rfl) (by kernel_rfl) (by kernel_rfl) (by kernel_rfl) (fun _ _ _ h => h) (Or.inr ⟨by kernel_rfl, rfl⟩) hHeld ?_
          try simp only [Act.put, List.setIfInBounds_toArray, List.set_cons_zero, List.set_cons_succ]
          refine take_at (i := 12) (d := some 179) (v := undef) rfl (by kernel_rfl) (by kernel_rfl) (by kernel_rfl) (by kernel_rfl) (fun _ _ _ h => h) (Or.inr ⟨by kernel_rfl, rfl⟩) hHeld ?_
          try simp only [Act.put, List.setIfInBounds_toArray, List.set_cons_zero, List.set_cons_succ]
          refine take_at (i := 13) (d := some 180) (v := undef) rfl (by kernel_rfl) (by kernel_rfl) (by kernel_rfl) (by kernel_rfl) (fun _ _ _ h => h) (Or.inr ⟨by kernel_rfl, rfl⟩) hHeld ?_
          try simp only [Act.put, List.setIfInBounds_toArray, List.set_cons_zero, List.set_cons_succ]
          refine take_at (i := 14) (d := some 181) (v := undef) rfl (by kernel_rfl) (by kernel_rfl) (by kernel_rfl) (by kernel_rfl) (fun _ _ _ h => h) (Or.inr ⟨by kernel_rfl, rfl⟩) hHeld ?_
          try simp only [Act.put, List.setIfInBounds_toArray, List.set_cons_zero, List.set_cons_succ]
          refine take_at (i := 15) (d := some 182) (v := undef) rfl (by kernel_rfl) (by kernel_rfl) (by kernel_rfl) (by kernel_rfl) (fun _ _ _ h => h) (Or.inr ⟨by kernel_rfl, rfl⟩) hHeld ?_
          try simp only [Act.put, List.setIfInBounds_toArray, List.set_cons_zero, List.set_cons_succ]
          refine take_at (i := 16) (d := some 183) (v := undef) rfl (by kernel_rfl) (by kernel_rfl) (by kernel_rfl) (by kernel_rfl) (fun _ _ _ h => h) (Or.inr ⟨by kernel_rfl, rfl⟩) hHeld ?_
          try simp only [Act.put, List.setIfInBounds_toArray, List.set_cons_zero, List.set_cons_succ]
          refine take_at (i := 17) (d := some 184) (v := undef) rfl (by kernel_rfl) (by kernel_rfl) (by kernel_rfl) (by kernel_rfl) (fun _ _ _ h => h) (Or.inr ⟨by kernel_rfl, rfl⟩) hHeld ?_
          try simp only [Act.put, List.setIfInBounds_toArray, List.set_cons_zero, List.set_cons_succ]
          refine take_at (i := 18) (d := some 185) (v := undef) rfl (by kernel_rfl) (by kernel_rfl) (by kernel_rfl) (by kernel_rfl) (fun _ _ _ h => h) (Or.inr ⟨by kernel_rfl, rfl⟩) hHeld ?_
          try simp only [Act.put, List.setIfInBounds_toArray, List.set_cons_zero, List.set_cons_succ]
          refine take_at (i := 19) (d := some 186) (v := undef) rfl (by kernel_rfl) (by kernel_rfl) (by kernel_rfl) (by kernel_rfl) (fun _ _ _ h => h) (Or.inr ⟨by kernel_rfl, rfl⟩) hHeld ?_
          try simp only [Act.put, List.setIfInBounds_toArray, List.set_cons_zero, List.set_cons_succ]
          refine take_at (i := 20) (d := some 187) (v := undef) rfl (by kernel_rfl) (by kernel_rfl) (by kernel_rfl) (by kernel_rfl) (fun _ _ _ h => h) (Or.inr ⟨by kernel_rfl, rfl⟩) hHeld ?_
          try simp only [Act.put, List.setIfInBounds_toArray, List.set_cons_zero, List.set_cons_succ]
          refine take_at (i := 21) (d := some 188) (v := undef) rfl (by kernel_rfl) (by kernel_rfl) (by kernel_rfl) (by kernel_rfl) (fun _ _ _ h => h) (Or.inr ⟨by kernel_rfl, rfl⟩) hHeld ?_
          try simp only [Act.put, List.setIfInBounds_toArray, List.set_cons_zero, List.set_cons_succ]
          refine take_at (i := 22) (d := some 189) (v := undef) rfl (by kernel_rfl) (by kernel_rfl) (by kernel_rfl) (by kernel_rfl) (fun _ _ _ h => h) (Or.inr ⟨by kernel_rfl, rfl⟩) hHeld ?_
          try simp only [Act.put, List.setIfInBounds_toArray, List.set_cons_zero, List.set_cons_succ]
          refine take_at (i := 23) (d := some 190) (v := undef) rfl (by kernel_rfl) (by kernel_rfl) (by kernel_rfl) (by kernel_rfl) (fun _ _ _ h => h) (Or.inr ⟨by kernel_rfl, rfl⟩) hHeld ?_
          try simp only [Act.put, List.setIfInBounds_toArray, List.set_cons_zero, List.set_cons_succ]
          refine take_at (i := 24) (d := some 191) (v := undef) rfl (by kernel_rfl) (by kernel_rfl) (by kernel_rfl) (by kernel_rfl) (fun _ _ _ h => h) (Or.inr ⟨by kernel_rfl, rfl⟩) hHeld ?_
          try simp only [Act.put, List.setIfInBounds_toArray, List.set_cons_zero, List.set_cons_succ]
          refine take_at (i := 25) (d := some 192) (v := undef) rfl (by kernel_rfl) (by kernel_rfl) (by kernel_rfl) (by kernel_rfl) (fun _ _ _ h => h) (Or.inr ⟨by kernel_rfl, rfl⟩) hHeld ?_
          try simp only [Act.put, List.setIfInBounds_toArray, List.set_cons_zero, List.set_cons_succ]
          refine take_at (i := 26) (d := some 193) (v := undef) rfl (by kernel_rfl) (by kernel_rfl) (by kernel_rfl) (by kernel_rfl) (fun _ _ _ h => h) (Or.inr ⟨by kernel_rfl, rfl⟩) hHeld ?_
          try simp only [Act.put, List.setIfInBounds_toArray, List.set_cons_zero, List.set_cons_succ]
          refine take_at (i := 27) (d := some 194) (v := ?_) rfl (by kernel_rfl) (by kernel_rfl) (by kernel_rfl) (by kernel_rfl) (fun _ _ _ h => h) (Or.inl ⟨by kernel_rfl, ?_⟩) hHeld ?_
          rotate_left 1
          · (intro w hSw; (try dsimp only at hSw); go_simp; try with_reducible rfl)
          try simp only [Act.put, List.setIfInBounds_toArray, List.set_cons_zero, List.set_cons_succ]
          refine wpAnyH_done (by kernel_rfl) ?_ _
          go_wp2_with fail
          exact ⟨⟨k + 1, by omega, by go_num, HBQ.out.trans (hBv8.mono hsqq)⟩, by simp [intOf]; omega⟩
        · refine take_at (i := 9) (d := some 176) (v := ?_) rfl (by kernel_rfl) (by kernel_rfl) (by kernel_rfl) (by kernel_rfl) (fun _ _ _ h => h) (Or.inl ⟨by kernel_rfl, ?_⟩) hHeld ?_
          rotate_left 1
          · (intro w hSw; (try dsimp only at hSw); go_simp; try with_reducible rfl)
          try simp only [Act.put, List.setIfInBounds_toArray, List.set_cons_zero, List.set_cons_succ]
          refine take_at (i := 10) (d := some 177) (v := ?_) rfl (by kernel_rfl) (by kernel_rfl) (by kernel_rfl) (by kernel_rfl) (fun _ _ _ h => h) (Or.inl ⟨by kernel_rfl, ?_⟩) hHeld ?_
          rotate_left 1
          · (intro w hSw; (try dsimp only at hSw); go_simp; try with_reducible rfl)
          try simp only [Act.put, List.setIfInBounds_toArray, List.set_cons_zero, List.set_cons_succ]
          refine take_at (i := 11) (d := some 178) (v := ?_) rfl (by kernel_rfl) (by kernel_rfl) (by kernel_rfl) (by kernel_rfl) (fun _ _ _ h => h) (Or.inl ⟨by kernel_rfl, ?_⟩) hHeld ?_
          rotate_left 1
          · (intro w hSw; (try dsimp only at hSw); go_simp; try with_reducible rfl)
          try simp only [Act.put, List.setIfInBounds_toArray, List.set_cons_zero, List.set_cons_succ]
          refine take_at (i := 12) (d := some 179) (v := .int .i64 ((k : Int) + 1)) rfl (by kernel_rfl) (by kernel_rfl) (by kernel_rfl) (by kernel_rfl) (fun _ _ _ h => h) (Or.inl ⟨by kernel_rfl, ?_⟩) hHeld ?_
          · (intro w hSw; (try dsimp only at hSw); go_simp)
          try simp only [Act.put, List.setIfInBounds_toArray, List.set_cons_zero, List.set_cons_succ]
          refine take_at (i := 14) (d := some 181) (v := ?_) rfl (by kernel_rfl) (by kernel_rfl) (by kernel_rfl) (by kernel_rfl) (fun _ _ _ h => h) (Or.inl ⟨by kernel_rfl, ?_⟩) hHeld ?_
          rotate_left 1
          · (intro w hSw; (try dsimp only at hSw); go_simp; try with_reducible rfl)
          try simp only [Act.put, List.setIfInBounds_toArray, List.set_cons_zero, List.set_cons_succ]
          refine take_at (i := 15) (d := some 182) (v := ?_) rfl (by kernel_rfl) (by kernel_rfl) (by kernel_rfl) (by kernel_rfl) (fun _ _ _ h => h) (Or.inl ⟨by kernel_rfl, ?_⟩) hHeld ?_
          rotate_left 1
          · (intro w hSw; (try dsimp only at hSw); go_simp; try with_reducible rfl)
          try simp only [Act.put, List.setIfInBounds_toArray, List.set_cons_zero, List.set_cons_succ]
          refine take_at (i := 17) (d := some 184) (v := ?_) rfl (by kernel_rfl) (by kernel_rfl) (by kernel_rfl) (by kernel_rfl) (fun _ _ _ h => h) (Or.inl ⟨by kernel_rfl, ?_⟩) hHeld ?_
          rotate_left 1
          · (intro w hSw; (try dsimp only at hSw); go_simp; try with_reducible rfl)
          try simp only [Act.put, List.setIfInBounds_toArray, List.set_cons_zero, List.set_cons_succ]
          refine take_at (i := 18) (d := some 185) (v := ?_) rfl (by kernel_rfl) (by kernel_rfl) (by kernel_rfl) (by kernel_rfl) (fun _ _ _ h => h) (Or.inl ⟨by kernel_rfl, ?_⟩) hHeld ?_
          rotate_left 1
          · (intro w hSw; (try dsimp only at hSw); go_simp; try with_reducible rfl)
          try simp only [Act.put, List.setIfInBounds_toArray, List.set_cons_zero, List.set_cons_succ]
          refine take_at (i := 19) (d := some 186) (v := ?_) rfl (by kernel_rfl) (by kernel_rfl) (by kernel_rfl) (by kernel_rfl) (fun _ _ _ h => h) (Or.inl ⟨by kernel_rfl, ?_⟩) hHeld ?_
          rotate_left 1
          · (intro w hSw; (try dsimp only at hSw); go_simp; try with_reducible rfl)
          try simp only [Act.put, List.setIfInBounds_toArray, List.set_cons_zero, List.set_cons_succ]
          refine take_at (i := 20) (d := some 187) (v := ?_) rfl (by kernel_rfl) (by kernel_rfl) (by kernel_rfl) (by kernel_rfl) (fun _ _ _ h => h) (Or.inl ⟨by kernel_rfl, ?_⟩) hHeld ?_
          rotate_left 1
          · (intro w hSw; (try dsimp only at hSw); go_simp; try with_reducible rfl)
          try simp only [Act.put, List.setIfInBounds_toArray, List.set_cons_zero, List.set_cons_succ]
          refine take_at (i := 21) (d := some 188) (v := ?_) rfl (by kernel_rfl) (by kernel_rfl) (by kernel_rfl) (by kernel_rfl) (fun _ _ _ h => h) (Or.inl ⟨by kernel_rfl, ?_⟩) hHeld ?_
          rotate_left 1
          · (intro w hSw; (try dsimp only at hSw); go_simp; try with_reducible rfl)
          try simp only [Act.put, List.setIfInBounds_toArray, List.set_cons_zero, List.set_cons_succ]
          refine take_at (i := 22) (d := some 189) (v := ?_) rfl (by kernel_rfl) (by kernel_rfl) (by kernel_rfl) (by kernel_rfl) (fun _ _ _ h => h) (Or.inl ⟨by kernel_rfl, ?_⟩) hHeld ?_
          rotate_left 1
          · (intro w hSw; (try dsimp only at hSw); go_simp; try with_reducible rfl)
          try simp only [Act.put, List.setIfInBounds_toArray, List.set_cons_zero, List.set_cons_succ]
          refine take_at (i := 23) (d := some 190) (v := ?_) rfl (by kernel_rfl) (by kernel_rfl) (by kernel_rfl) (by kernel_rfl) (fun _ _ _ h => h) (Or.inl ⟨by kernel_rfl, ?_⟩) hHeld ?_
          rotate_left 1
          · (intro w hSw; (try dsimp only at hSw); go_simp; try with_reducible rfl)
          try simp only [Act.put, List.setIfInBounds_toArray, List.set_cons_zero, List.set_cons_succ]
          refine wpAnyH_ready (rs := [13]) (by kernel_rfl) (by simp) ?_
          refine AllReadyH.cons rfl (fun K hK => ?_) AllReadyH.nil
          go_simp
          refine (HNX1.out _ hHeld.2.2.2).mono ?_
          rintro e v13 ⟨a13, c13, rfl, hL13, hb13⟩
          have hBv13 : Below wq.heap.size wq v13 := hHeld.2.2.2.trans (hb13.mono hHeld.2.2.2.size)
          have s1v13 := (hBv13.cell (p := ⟨b, off + k * 3, none⟩) hblk).trans d0
          have s2v13 := (hBv13.cell (p := ⟨b, off + k * 3 + 1, none⟩) hblk).trans d1
          have s3v13 := (hBv13.cell (p := ⟨b, off + k * 3 + 2, none⟩) hblk).trans d2
          have HL13 := hid hL13
          clear hHeld hb13 hL13 s1v8 s2v8 s3v8
          go_wp2_with fail
          refine hK.out _ _ ?_ (fun hHeld => ?_)
          · ((try dsimp only); go_keep)
          clear hK K
          try simp only [Act.put, List.setIfInBounds_toArray, List.set_cons_zero, List.set_cons_succ]
          refine wpAnyH_ready (rs := [16]) (by kernel_rfl) (by simp) ?_
          refine AllReadyH.cons rfl (fun K hK => ?_) AllReadyH.nil
          go_simp
          refine (HNX0.out _ hHeld.2.2.2).mono ?_
          rintro e v16 ⟨a16, c16, rfl, hL16, hb16⟩
          have hBv16 : Below wq.heap.size wq v16 := hHeld.2.2.2.trans (hb16.mono hHeld.2.2.2.size)
          have s1v16 := (hBv16.cell (p := ⟨b, off + k * 3, none⟩) hblk).trans d0
          have s2v16 := (hBv16.cell (p := ⟨b, off + k * 3 + 1, none⟩) hblk).trans d1
          have s3v16 := (hBv16.cell (p := ⟨b, off + k * 3 + 2, none⟩) hblk).trans d2
          have HL13' := hid (HL13.out.later hb16 (Nat.le_refl _))
          have HL16 := hid hL16
          clear hHeld hb16 hL16 s1v13 s2v13 s3v13
          go_wp2_with fail
          refine hK.out _ _ ?_ (fun hHeld => ?_)
          · ((try dsimp only); go_keep)
          clear hK K
          try simp only [Act.put, List.setIfInBounds_toArray, List.set_cons_zero, List.set_cons_succ]
          refine wpAnyH_ready (rs := [24]) (by kernel_rfl) (by simp) ?_
          refine AllReadyH.cons rfl (fun K hK => ?_) AllReadyH.nil
          go_simp
          refine (HMOV.out _ _ _ _ HL16.out).mono ?_
          rintro e v24 ⟨u24, rfl, hL24, hb24⟩
          have hBv24 : Below wq.heap.size wq v24 := hHeld.2.2.2.trans (hb24.mono hHeld.2.2.2.size)
          have s1v24 := (hBv24.cell (p := ⟨b, off + k * 3, none⟩) hblk).trans d0
          have s2v24 := (hBv24.cell (p := ⟨b, off + k * 3 + 1, none⟩) hblk).trans d1
          have s3v24 := (hBv24.cell (p := ⟨b, off + k * 3 + 2, none⟩) hblk).trans d2
          have HL13x := hid (HL13'.out.later hb24 (Nat.le_refl _))
          obtain ⟨a24, c24, rfl⟩ := hL24.slice
          have HEQ := hid (eqi a13 a24 _ _ c13 c24 N1 N2 v24 (HL13x.out.seg (by rw [HWN.out (by trivial)]; exact HR1.out) (by rw [HWN.out (by trivial)]; have := HLEN2.out; omega)) (hL24.seg HR1.out (by have := HLEN2.out; omega)))
          rw [decide_eq_true (HWN.out (by trivial))] at HEQ
          clear hHeld hb24 hL24 s1v16 s2v16 s3v16
          go_wp2_with fail
          refine hK.out _ _ ?_ (fun hHeld => ?_)
          · ((try dsimp only); go_keep)
          clear hK K
          try simp only [Act.put, List.setIfInBounds_toArray, List.set_cons_zero, List.set_cons_succ]
          refine wpAnyH_ready (rs := [25]) (by kernel_rfl) (by simp) ?_
          refine AllReadyH.cons rfl (fun K hK => ?_) AllReadyH.nil
          go_simp
          refine HEQ.out.mono ?_
          rintro e v25 ⟨rfl, hk25⟩
          have hb25 : Below v24.heap.size v24 v25 := hk25.to_below (Nat.le_refl _) (fun _ _ x => x)
          have hBv25 : Below wq.heap.size wq v25 := hHeld.2.2.2.trans (hb25.mono hHeld.2.2.2.size)
          have s1v25 := (hBv25.cell (p := ⟨b, off + k * 3, none⟩) hblk).trans d0
          have s2v25 := (hBv25.cell (p := ⟨b, off + k * 3 + 1, none⟩) hblk).trans d1
          have s3v25 := (hBv25.cell (p := ⟨b, off + k * 3 + 2, none⟩) hblk).trans d2
          clear hHeld hb25 hk25 s1v24 s2v24 s3v24
          go_wp2_with fail
          refine hK.out _ _ ?_ (fun hHeld => ?_)
          · ((try dsimp only); go_keep)
          clear hK K
          try simp only [Act.put, List.setIfInBounds_toArray, List.set_cons_zero, List.set_cons_succ]
          refine take_at (i := 26) (d := some 193) (v := ?_) rfl (by kernel_rfl) (by kernel_rfl) (by kernel_rfl) (by kernel_rfl) (fun _ _ _ h => h) (Or.inl ⟨by kernel_rfl, ?_⟩) hHeld ?_
          rotate_left 1
          · (intro w hSw; (try dsimp only at hSw); go_simp; try with_reducible rfl)
          try simp only [Act.put, List.setIfInBounds_toArray, List.set_cons_zero, List.set_cons_succ]
          refine take_at (i := 27) (d := some 194) (v := ?_) rfl (by kernel_rfl) (by kernel_rfl) (by kernel_rfl) (by kernel_rfl) (fun _ _ _ h => h) (Or.inl ⟨by kernel_rfl, ?_⟩) hHeld ?_
          rotate_left 1
          · (intro w hSw; (try dsimp only at hSw); go_simp; try with_reducible rfl)
          try simp only [Act.put, List.setIfInBounds_toArray, List.set_cons_zero, List.set_cons_succ]
          refine wpAnyH_done (by kernel_rfl) ?_ _
          go_wp2_with fail
          exact ⟨⟨k + 1, by omega, by go_num, HBQ.out.trans (hBv25.mono hsqq)⟩, by simp [intOf]; omega⟩
      · have hkn' : ¬ (k : Int) < (n : Int) := by omega
        have hbf : Below w.heap.size w wr := HBW.out.trans (hby.mono hsw9)
        have HBF := hid hbf
        clear hby hbf ea0 eb0 ec0 ecn ean
        go_wp2_with fail
        go_ret
        exact ⟨rfl, HBF.out⟩
end Go.Proofs.Ytkcidabokgadcaa
