/-
  The walk over ControlMaps: true, whatever the code.
-/
import Derived.Test.YtkcidabokgadcaaDoorRefF
import Derived.Test.YtkcidabokgadcaaDoorWideC
import Derived.Test.YtkcidabokgadcaaDoorBags
namespace Go.Proofs.YtkcidabokgadcaaDoor
open Go.RowKit
set_option linter.unusedVariables false

/-- The lists that are answered. -/
def eL (O : Nat → Int) (n : Nat) (f : Nat → Nat → Int) : List Int := if (res O n 0).1 = 0 then (List.range n).map (f n) else []

theorem eL_len (O : Nat → Int) (n : Nat) (f : Nat → Nat → Int) : (eL O n f).length ≤ n := by unfold eL; split <;> simp
theorem MapO.li {O : Nat → Int} {n base m : Nat} {w : World} {a1 a2 a3 : Option Addr} (h : MapO O n base w a1 a2 a3 m) : LI w base (.slice a1 m m) (eL O n (enF O)) ∧ LI w base (.slice a2 m m) (eL O n (elF O)) ∧ LI w base (.slice a3 m m) (eL O n (owF O)) ∧
    Ap (.slice a1 m m) (.slice a2 m m) ∧ Ap (.slice a1 m m) (.slice a3 m m) ∧ Ap (.slice a2 m m) (.slice a3 m m) := by
  unfold eL
  rcases h with ⟨h0, rfl, rfl, rfl, rfl⟩ | ⟨hr, hg, rfl, A, B, C, x1, x2, x3, x4, x5, x6, rfl, rfl, rfl, y1, y2, y3⟩
  · rw [if_neg h0, if_neg h0, if_neg h0]
    exact ⟨LI.nil _ _, LI.nil _ _, LI.nil _ _, Ap.nil _, Ap.nil _, Ap.nil _⟩
  · have h0 : (res O m 0).1 = 0 := by rw [hr]
    rw [if_pos h0, if_pos h0, if_pos h0]
    have ap : ∀ {X Y : Nat}, X ≠ Y → Ap (.slice (some ⟨X, 0, none⟩) m m) (.slice (some ⟨Y, 0, none⟩) m m) := fun h b h1 h2 => by
      have e1 := Option.some.inj h1
      have e2 := Option.some.inj h2
      exact h (e1.trans e2.symm)
    exact ⟨LI.of_ri y1 x1, LI.of_ri y2 x2, LI.of_ri y3 x3, ap x4, ap x5, ap x6⟩
theorem MapL.li {O : Nat → Int} {n base : Nat} {w : World} {v1 v2 v3 : Value} (h : MapL O n base w v1 v2 v3) : LI w base v1 (eL O n (enF O)) ∧ LI w base v2 (eL O n (elF O)) ∧ LI w base v3 (eL O n (owF O)) := by
  unfold eL
  rcases h with ⟨h0, rfl, rfl, rfl⟩ | ⟨hr, y1, y2, y3⟩
  · rw [if_neg h0, if_neg h0, if_neg h0]
    exact ⟨LI.nil _ _, LI.nil _ _, LI.nil _ _⟩
  · have h0 : (res O n 0).1 = 0 := by rw [hr]
    rw [if_pos h0, if_pos h0, if_pos h0]
    exact ⟨y1, y2, y3⟩
theorem eL_range {O : Nat → Int} {n : Nat} {f : Nat → Nat → Int} (hn : n ≤ 100000) (hf : ∀ i, -1 ≤ f n i ∧ f n i < n) : ∀ z ∈ eL O n f, -9223372036854775808 ≤ z ∧ z ≤ 9223372036854775807 := by
  intro z hz
  unfold eL at hz
  split at hz
  · obtain ⟨i, _, rfl⟩ := List.mem_map.1 hz
    have := hf i; omega
  · cases hz
theorem owF_range (O : Nat → Int) (n i : Nat) (h : i < n) : -1 ≤ owF O n i ∧ owF O n i < n := by
  unfold owF
  rw [if_pos h]
  have := top_lt O i
  omega
theorem owF_range' (O : Nat → Int) (n : Nat) (hn : 0 < n) (i : Nat) : -1 ≤ owF O n i ∧ owF O n i < n := by
  by_cases h : i < n
  · exact owF_range O n i h
  · unfold owF; rw [if_neg h]; omega
theorem eL_rangeO {O : Nat → Int} {n : Nat} (hn : n ≤ 100000) : ∀ z ∈ eL O n (owF O), -9223372036854775808 ≤ z ∧ z ≤ 9223372036854775807 := by
  by_cases h0 : n = 0
  · subst h0
    intro z hz
    have h1 := eL_len O 0 (owF O)
    have h2 : eL O 0 (owF O) = [] := List.eq_nil_of_length_eq_zero (by omega)
    rw [h2] at hz
    cases hz
  · exact eL_range hn (owF_range' O n (by omega))

/-- EqInts of two lists of the call's own that are alike. -/
theorem eq_own (a1 a2 : Option Addr) (n1 n2 c1 c2 base1 base2 : Nat) (l : List Int) (w : World) (h1 : LI w base1 (.slice a1 n1 c1) l) (h2 : LI w base2 (.slice a2 n2 c2) l) (hl : l.length ≤ 100000) (hr : ∀ z ∈ l, -9223372036854775808 ≤ z ∧ z ≤ 9223372036854775807) :
    Calls Tryd.prog 11 #[.slice a1 n1 c1, .slice a2 n2 c2] w fun e w' => e = .returned (.bool true) ∧ Below w.heap.size w w' :=
  (eqi a1 a2 n1 n2 c1 c2 l l w (h1.seg hr (by omega)) (h2.seg hr (by omega))).mono fun e w' ⟨he, hk⟩ => ⟨by rw [he, decide_eq_true rfl], hk.to_below (Nat.le_refl _) (fun _ _ x => x)⟩

theorem lt_sl {w : World} {base : Nat} {v : Value} {l : List Int} (h : LI w base v l) : ∃ p : Lt, v = p.sl ∧ p.xs.length = l.length ∧ (∀ B, p.b = some B → Row w 3 B p.xs.length p.cap p.xs ∧ base ≤ B ∧ v.ownBlock = some B) := by
  obtain ⟨p, h1, h2, h3⟩ := lt_of_own h
  exact ⟨p, h1, by rw [h2]; simp, fun B hB => ⟨(h3 B hB).1, (h3 B hB).2, by rw [h1, sl_own]; exact hB⟩⟩

theorem four_rs {w : World} {base b4 : Nat} {v1 v2 v3 v4 : Value} {l1 l2 l3 l4 : List Int} (h1 : LI w base v1 l1) (h2 : LI w base v2 l2) (h3 : LI w base v3 l3) (h4 : LI w b4 v4 l4) (a12 : Ap v1 v2) (a13 : Ap v1 v3) (a23 : Ap v2 v3) (hb : base ≤ b4)
    (u1 : ∀ b, v1.ownBlock = some b → b < b4) (u2 : ∀ b, v2.ownBlock = some b → b < b4) (u3 : ∀ b, v3.ownBlock = some b → b < b4) :
    ∃ p1 p2 p3 p4 : Lt, v1 = p1.sl ∧ v2 = p2.sl ∧ v3 = p3.sl ∧ v4 = p4.sl ∧ (∀ p ∈ [p1, p2, p3, p4], ∀ B, p.b = some B → Row w 3 B p.xs.length p.cap p.xs ∧ base ≤ B) ∧
      (∀ i j (hi : i < [p1, p2, p3, p4].length) (hj : j < [p1, p2, p3, p4].length) B, ([p1, p2, p3, p4][i]).b = some B → ([p1, p2, p3, p4][j]).b = some B → i = j) ∧
      (∀ p ∈ [p1, p2, p3, p4], p.xs.length ≤ max (max l1.length l2.length) (max l3.length l4.length)) := by
  obtain ⟨p1, e1, n1, f1⟩ := lt_sl h1
  obtain ⟨p2, e2, n2, f2⟩ := lt_sl h2
  obtain ⟨p3, e3, n3, f3⟩ := lt_sl h3
  obtain ⟨p4, e4, n4, f4⟩ := lt_sl h4
  refine ⟨p1, p2, p3, p4, e1, e2, e3, e4, ?_, ?_, ?_⟩
  · intro p hp B hB
    simp only [List.mem_cons, List.not_mem_nil, or_false] at hp
    rcases hp with rfl | rfl | rfl | rfl
    · exact ⟨(f1 B hB).1, (f1 B hB).2.1⟩
    · exact ⟨(f2 B hB).1, (f2 B hB).2.1⟩
    · exact ⟨(f3 B hB).1, (f3 B hB).2.1⟩
    · exact ⟨(f4 B hB).1, Nat.le_trans hb (f4 B hB).2.1⟩
  · have k12 : ∀ B, p1.b = some B → p2.b = some B → False := fun B x y => a12 B (f1 B x).2.2 (f2 B y).2.2
    have k13 : ∀ B, p1.b = some B → p3.b = some B → False := fun B x y => a13 B (f1 B x).2.2 (f3 B y).2.2
    have k23 : ∀ B, p2.b = some B → p3.b = some B → False := fun B x y => a23 B (f2 B x).2.2 (f3 B y).2.2
    have k14 : ∀ B, p1.b = some B → p4.b = some B → False := fun B x y => by have := u1 B (f1 B x).2.2; have := (f4 B y).2.1; omega
    have k24 : ∀ B, p2.b = some B → p4.b = some B → False := fun B x y => by have := u2 B (f2 B x).2.2; have := (f4 B y).2.1; omega
    have k34 : ∀ B, p3.b = some B → p4.b = some B → False := fun B x y => by have := u3 B (f3 B x).2.2; have := (f4 B y).2.1; omega
    intro i j hi hj B x y
    rcases i with _ | _ | _ | _ | i <;> rcases j with _ | _ | _ | _ | j
    all_goals first
      | rfl
      | (simp only [List.length_cons, List.length_nil] at hi hj; omega)
      | exact (k12 B x y).elim | exact (k12 B y x).elim | exact (k13 B x y).elim | exact (k13 B y x).elim | exact (k14 B x y).elim | exact (k14 B y x).elim
      | exact (k23 B x y).elim | exact (k23 B y x).elim | exact (k24 B x y).elim | exact (k24 B y x).elim | exact (k34 B x y).elim | exact (k34 B y x).elim
  · intro p hp
    simp only [List.mem_cons, List.not_mem_nil, or_false] at hp
    rcases hp with rfl | rfl | rfl | rfl <;> omega

set_option maxRecDepth 100000 in
set_option maxHeartbeats 4000000 in
theorem maps_big (a : Option Addr) (n cap : Nat) (xs : List Inx) (w : World) (hn : n ≤ 140737488355328) (hcap : n ≤ cap) (hc : CodS w a n xs) :
    Calls Tryd.prog 3 #[.slice a n cap] w fun e w' => e = .returned (.bool true) ∧ Below w.heap.size w w' := by
  have H1 := hid (works w)
  have HC := hid hc
  clear hc
  go_enter Tryd.func3, Tryd.ntmps3
  go_wp2_with fail
  refine H1.out.mono ?_
  rintro e w1 ⟨rfl, hb1⟩
  have H2 := hid (sizeC a n cap xs w1 hn hcap (HC.out.later hb1 (Nat.le_refl _)))
  have hs1 := hb1.size
  have HB1 := hid hb1
  clear hb1
  go_wp2_with fail
  refine H2.out.mono ?_
  rintro e w2 ⟨s, rfl, hsz, hk2⟩
  have hb2 := below_kept HB1.out hk2 hs1 (fun _ x => x.elim)
  have hs2 := hb2.size
  have HB2 := hid hb2
  by_cases hbig : 3000 < s
  · have hbig' : (3000 : Int) < (s : Int) := by omega
    clear hb2 hsz hk2
    go_wp2_with fail
    go_ret
    exact ⟨rfl, HB2.out⟩
  have hbig' : ¬ (3000 : Int) < (s : Int) := by omega
  have hsz := hsz (by omega)
  have hlen := HC.out.1
  have hn3 : n ≤ 3000 := by have := szF_len xs n; omega
  have hln : ∀ j, j < n → (xs.getD j dx).ln ≤ 3000 := fun j hj => by have := szF_ln xs hj; omega
  have hln2 : ∀ j, j < n → (xs.getD j dx).ln ≤ 100000 := fun j hj => by have := hln j hj; omega
  have hcs2 := HC.out.later hb2 (Nat.le_refl _)
  have hll : ∀ j, j < n → (xs.getD j dx).l.length = (xs.getD j dx).ln := fun j hj => by
    rcases hcs2.2 with h | ⟨b, off, _, hcd⟩
    · omega
    · exact ((hcd.2 j hj).2.2.2.2.2.2.2.2 (hln2 j hj)).1
  have H3 := hid (wideCode a n cap xs w2 (by omega) hcs2 hln2)
  have HLN := hid hln2
  have HLL := hid hll
  have HCS := hid hcs2
  clear hb2 hsz hk2 hln hln2 hll hcs2
  go_wp2_with fail
  refine H3.out.mono ?_
  rintro e w3 ⟨rfl, Bs, hws⟩
  have hrow : ∀ j, j < n → WRow w3 w2.heap.size j (xs.getD j dx) (Bs j) := fun j hj => hws.row j (by omega) hj
  have hmk : ∀ j, n ≤ j → j < n + 64 → WMk w3 w2.heap.size j := fun j h1 h2 => hws.mks j h2 h1
  have hb3 := hws.bel
  have hs3 := hb3.size
  have hkc : CodS w3 (some ⟨w2.heap.size, 0, none⟩) n (kx n xs Bs) := ⟨by simp [kx], by
    by_cases h0 : n = 0
    · exact .inl h0
    · exact .inr ⟨_, _, rfl, WSc.cod (w := w3) hrow HCS.out HLN.out⟩⟩
  have H4 := hid (map_in (some ⟨w2.heap.size, 0, none⟩) n (n + 64) (kx n xs Bs) w3 (by omega) (by omega) hkc)
  rw [kx_op hlen] at H4
  have HROW := hid hrow
  have HMK := hid hmk
  have HKC := hid hkc
  have HB3 := hid (HB2.out.trans (hb3.mono hs2))
  have hs30 : w.heap.size ≤ w3.heap.size := by omega
  have HCS3 := hid (HCS.out.later hb3 (Nat.le_refl _))
  clear hrow hmk hb3 hws hkc
  go_wp2_with fail
  refine H4.out.mono ?_
  rintro e w4 ⟨a1, a2, a3, m, rfl, hM4, hb4⟩
  have hs4 := hb4.size
  have H5 := hid (map_in (some ⟨w2.heap.size, 0, none⟩) n (n + 64) (kx n xs Bs) w4 (by omega) (by omega) (HKC.out.later hb4 (Nat.le_refl _)))
  rw [kx_op hlen] at H5
  have HM4 := hid hM4
  have HB4 := hid hb4
  clear hM4 hb4
  go_wp2_with fail
  refine H5.out.mono ?_
  rintro e w5 ⟨b1, b2, b3, m2, rfl, hM5, hb5⟩
  have hs5 := hb5.size
  have h35 := HB4.out.trans (hb5.mono hs4)
  have H6 := hid (refMap a n cap xs w5 (by omega) hcap (HCS3.out.later h35 (Nat.le_refl _)))
  have HM5 := hid hM5
  have HB5 := hid hb5
  have H35 := hid h35
  clear hM5 hb5 h35
  go_wp2_with fail
  refine H6.out.mono ?_
  rintro e w6 ⟨x1, x2, x3, n1, n2, n3, c1, c2, c3, rfl, hM6, hb6⟩
  have hs6 := hb6.size
  have h36 := H35.out.trans (hb6.mono (by omega))
  obtain ⟨l1, l2, l3, q12, q13, q23⟩ := HM4.out.li
  obtain ⟨l4, _⟩ := HM5.out.li
  obtain ⟨r1, r2, r3⟩ := hM6.li
  have h46 := HB5.out.trans (hb6.mono hs5)
  have k1 := l1.later h46 (Nat.le_refl _)
  have k2 := l2.later h46 (Nat.le_refl _)
  have k3 := l3.later h46 (Nat.le_refl _)
  have k4 := l4.later hb6 (Nat.le_refl _)
  obtain ⟨p1, p2, p3, p4, f1, f2, f3, f4, frow, finj, flen⟩ := four_rs k1 k2 k3 k4 q12 q13 q23 hs4 (fun b hb => (LI.block l1 hb).2) (fun b hb => (LI.block l2 hb).2) (fun b hb => (LI.block l3 hb).2)
  have hbg := newBg (e := 3) (es := 26) (c := 1) (w0 := w3) (w := w6) (rs := [p1, p2, p3, p4]) h36 (by decide) frow finj w6.heap.size rfl 49
  rw [e17] at hbg
  have hbal := (Below.refl w6.heap.size w6).alloc (Nat.le_refl _) (.cells #[.slice none 0 0, .slice none 0 0, .slice none 0 0, .slice none 0 0, .slice none 0 0, .slice none 0 0, .slice none 0 0, .slice none 0 0, .slice none 0 0, .slice none 0 0, .slice none 0 0, .slice none 0 0, .slice none 0 0, .slice none 0 0, .slice none 0 0, .slice none 0 0, .slice none 0 0] 49)
  have F1 := hid f1
  have F2 := hid f2
  have F3 := hid f3
  have F4 := hid f4
  clear f1 f2 f3 f4
  have HB6 := hid hb6
  have H36 := hid h36
  have RR1 := hid r1
  have RR2 := hid r2
  have RR3 := hid r3
  have KK1 := hid k1
  have KK2 := hid k2
  have KK3 := hid k3
  have KK4 := hid k4
  have HBG := hid hbg
  have HFL := hid flen
  have hee : ((res (opF xs) n 0).1 == (res (opF xs) n 0).1) = true := by simp
  have hpp : ((res (opF xs) n 0).2 == (res (opF xs) n 0).2) = true := by simp
  have hsb : (w6.alloc (.cells #[.slice none 0 0, .slice none 0 0, .slice none 0 0, .slice none 0 0, .slice none 0 0, .slice none 0 0, .slice none 0 0, .slice none 0 0, .slice none 0 0, .slice none 0 0, .slice none 0 0, .slice none 0 0, .slice none 0 0, .slice none 0 0, .slice none 0 0, .slice none 0 0, .slice none 0 0] 49)).heap.size = w6.heap.size + 1 := by simp
  clear hM6 hb6 h36 l1 l2 l3 l4 r1 r2 r3 h46 k1 k2 k3 k4 frow finj flen hbg hbal q12 q13 q23 HM4 HM5
  generalize (res (opF xs) n 0).1 = ev at *
  generalize (res (opF xs) n 0).2 = pv at *
  obtain ⟨GB, hGB⟩ : ∃ GB, w6.heap.size = GB := ⟨_, rfl⟩
  rw [hGB] at HBG
  go_wp2_with fail
  generalize hwb : w6.alloc (.cells #[.slice none 0 0, .slice none 0 0, .slice none 0 0, .slice none 0 0, .slice none 0 0, .slice none 0 0, .slice none 0 0, .slice none 0 0, .slice none 0 0, .slice none 0 0, .slice none 0 0, .slice none 0 0, .slice none 0 0, .slice none 0 0, .slice none 0 0, .slice none 0 0, .slice none 0 0] 49) = wb at *
  have hb0 : Below w6.heap.size w6 wb := by rw [← hwb]; exact (Below.refl _ _).alloc (Nat.le_refl _) _
  have HA0 := hid (show Bg 3 26 1 w3 wb GB (.slice none 0 0) [p1, p2, p3, p4] 0 ∧ Below w6.heap.size w6 wb ∧ w6.heap.size ≤ wb.heap.size ∧ ∀ B, (Value.slice none 0 0).ownBlock = some B → w6.heap.size ≤ B from ⟨HBG.out, hb0, by omega, fun B hB => by simp [Value.ownBlock] at hB⟩)
  have HWB := hid hwb
  clear hb0 hwb HBG
  have G0 := hid (addBgK (base := w6.heap.size) (wb := w6) HA0.out.1 (by simp) (by omega) (.slice a1 m m) F1.out HA0.out.2.1 HA0.out.2.2.1 (by omega) HA0.out.2.2.2)
  skip
  refine G0.out.mono ?_
  rintro e v0 ⟨rfl, vv0, y0⟩
  have HA1 := hid y0
  clear y0
  have G1 := hid (addBgK (base := w6.heap.size) (wb := w6) HA1.out.1 (by simp) (by omega) (.slice a2 m m) F2.out HA1.out.2.1 HA1.out.2.2.1 (by omega) HA1.out.2.2.2)
  go_wp2_with fail
  refine G1.out.mono ?_
  rintro e v1 ⟨rfl, vv1, y1⟩
  have HA2 := hid y1
  clear y1
  have G2 := hid (addBgK (base := w6.heap.size) (wb := w6) HA2.out.1 (by simp) (by omega) (.slice a3 m m) F3.out HA2.out.2.1 HA2.out.2.2.1 (by omega) HA2.out.2.2.2)
  go_wp2_with fail
  refine G2.out.mono ?_
  rintro e v2 ⟨rfl, vv2, y2⟩
  have HA3 := hid y2
  clear y2
  have G3 := hid (addBgK (base := w6.heap.size) (wb := w6) HA3.out.1 (by simp) (by omega) (.slice b1 m2 m2) F4.out HA3.out.2.1 HA3.out.2.2.1 (by omega) HA3.out.2.2.2)
  go_wp2_with fail
  refine G3.out.mono ?_
  rintro e v3 ⟨rfl, vv3, y3⟩
  have HA4 := hid y3
  clear y3
  have hwb2 : Below w6.heap.size w6 v3 := HA4.out.2.1
  have E0 := hid (eq_own a1 x1 m n1 m c1 _ _ (eL (opF xs) n (enF (opF xs))) v3 ((KK1.out).later hwb2 (Nat.le_refl _)) ((RR1.out).later hwb2 (Nat.le_refl _)) (by have := eL_len (opF xs) n (enF (opF xs)); omega) (eL_range (by omega) (enF_range (O := opF xs) n)))
  go_wp2_with fail
  refine E0.out.mono ?_
  rintro e u0 ⟨rfl, z0⟩
  have hz0 : Below w6.heap.size w6 u0 := hwb2.trans (z0.mono hwb2.size)
  have hy0 : Below v3.heap.size v3 u0 := z0
  have E1 := hid (eq_own a2 x2 m n2 m c2 _ _ (eL (opF xs) n (elF (opF xs))) u0 ((KK2.out).later hz0 (Nat.le_refl _)) ((RR2.out).later hz0 (Nat.le_refl _)) (by have := eL_len (opF xs) n (elF (opF xs)); omega) (eL_range (by omega) (elF_range (O := opF xs) n)))
  go_wp2_with fail
  refine E1.out.mono ?_
  rintro e u1 ⟨rfl, z1⟩
  have hz1 : Below w6.heap.size w6 u1 := hz0.trans (z1.mono hz0.size)
  have hy1 : Below v3.heap.size v3 u1 := hy0.trans (z1.mono hy0.size)
  have E2 := hid (eq_own a3 x3 m n3 m c3 _ _ (eL (opF xs) n (owF (opF xs))) u1 ((KK3.out).later hz1 (Nat.le_refl _)) ((RR3.out).later hz1 (Nat.le_refl _)) (by have := eL_len (opF xs) n (owF (opF xs)); omega) (eL_rangeO (by omega)))
  go_wp2_with fail
  refine E2.out.mono ?_
  rintro e u2 ⟨rfl, z2⟩
  have hz2 : Below w6.heap.size w6 u2 := hz1.trans (z2.mono hz1.size)
  have hy2 : Below v3.heap.size v3 u2 := hy1.trans (z2.mono hy1.size)
  have E3 := hid (eq_own b1 x1 m2 n1 m2 c1 _ _ (eL (opF xs) n (enF (opF xs))) u2 ((KK4.out).later hz2 (Nat.le_refl _)) ((RR1.out).later hz2 (Nat.le_refl _)) (by have := eL_len (opF xs) n (enF (opF xs)); omega) (eL_range (by omega) (enF_range (O := opF xs) n)))
  go_wp2_with fail
  refine E3.out.mono ?_
  rintro e u3 ⟨rfl, z3⟩
  have hz3 : Below w6.heap.size w6 u3 := hz2.trans (z3.mono hz2.size)
  have hy3 : Below v3.heap.size v3 u3 := hy2.trans (z3.mono hy2.size)
  have AP := hid (apartBg (HA4.out.1.later hy3) (by simp) (by simp) (fun p hp => by
    have h1 := HFL.out p hp
    have h2 := eL_len (opF xs) n (enF (opF xs))
    have h3 := eL_len (opF xs) n (elF (opF xs))
    have h4 := eL_len (opF xs) n (owF (opF xs))
    omega))
  clear hz0 hz1 hz2 hz3 hy0 hy1 hy2 hy3 z0 z1 z2 z3
  go_wp2_with fail
  refine AP.out.mono ?_
  rintro e s1 ⟨rfl, hq1⟩
  have ss1 := hq1.size
  have EC := hid (eqCode w2.heap.size a n cap xs Bs s1 (by omega) hcap (fun j hj => (HROW.out j hj).later hq1 (Nat.le_refl _)) (HCS3.out.later hq1 (Nat.le_refl _)) HLN.out)
  have HQ1 := hid hq1
  clear hq1
  go_wp2_with fail
  refine EC.out.mono ?_
  rintro e s2 ⟨rfl, hq2⟩
  have hq3 := HQ1.out.trans (hq2.mono ss1)
  have SC := hid (spareCode w2.heap.size n xs Bs s2 (by omega) HLL.out HLN.out (fun j hj => (HROW.out j hj).later hq3 (Nat.le_refl _)) (fun j h1 h2 => (HMK.out j h1 h2).later hq3 (Nat.le_refl _)))
  have HQ3 := hid hq3
  clear hq2 hq3
  go_wp2_with fail
  refine SC.out.mono ?_
  rintro e s3 ⟨rfl, hq4⟩
  have HQ4 := hid (HQ3.out.trans (hq4.mono HQ3.out.size))
  clear hq4
  go_wp2_with fail
  go_ret
  exact ⟨rfl, HB3.out.trans (HQ4.out.mono hs30)⟩
end Go.Proofs.YtkcidabokgadcaaDoor
