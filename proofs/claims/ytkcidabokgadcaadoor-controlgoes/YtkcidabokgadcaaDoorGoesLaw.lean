/-
  The walk over ControlGoes: true, whatever the code and the pc.
-/
import Derived.Test.YtkcidabokgadcaaDoorRefN
import Derived.Test.YtkcidabokgadcaaDoorMapsLaw
namespace Go.Proofs.YtkcidabokgadcaaDoor
open Go.RowKit
set_option linter.unusedVariables false

/-- Two lists more, in new memory, for a bag that holds all of its own. -/
theorem Bg.more2 {e es : TypeId} {c : Nat} {w0 wr w' : World} {GB : Nat} {v : Value} {rs : List Lt} {p q : Lt} (h : Bg e es c w0 wr GB v rs rs.length) (hb : Below wr.heap.size wr w') (hp : ∀ B, p.b = some B → Row w' e B p.xs.length p.cap p.xs ∧ wr.heap.size ≤ B) (hq : ∀ B, q.b = some B → Row w' e B q.xs.length q.cap q.xs ∧ wr.heap.size ≤ B) (hpq : ∀ B, p.b = some B → q.b = some B → False) :
    Bg e es c w0 w' GB v (rs ++ [p, q]) rs.length := by
  have h' := h.later hb
  have hlt : ∀ r ∈ rs, ∀ B, r.b = some B → B < wr.heap.size := fun r hr B hB => (h.rows r hr B hB).1.lt
  have hgb : GB < wr.heap.size := block_lt_of_cell h.cell
  have key : ∀ k (hk : k < (rs ++ [p, q]).length) B, ((rs ++ [p, q])[k]).b = some B → (k < rs.length ∧ B < wr.heap.size) ∨ (k = rs.length ∧ p.b = some B ∧ wr.heap.size ≤ B) ∨ (k = rs.length + 1 ∧ q.b = some B ∧ wr.heap.size ≤ B) := by
    intro k hk B hB
    by_cases h1 : k < rs.length
    · rw [List.getElem_append_left h1] at hB
      exact .inl ⟨h1, hlt _ (List.getElem_mem h1) B hB⟩
    · simp at hk
      by_cases h2 : k = rs.length
      · subst h2
        simp at hB
        exact .inr (.inl ⟨rfl, hB, (hp B hB).2⟩)
      · have h3 : k = rs.length + 1 := by omega
        subst h3
        simp at hB
        exact .inr (.inr ⟨rfl, hB, (hq B hB).2⟩)
  refine ⟨h'.below, h'.gb, h'.cell, h'.free, h'.flds, ?_, h'.other, h'.new, fun r hr B hB => ?_, fun i j hi hj B e1 e2 => ?_⟩
  · have ho := h'.own
    rw [List.take_append_of_le_length (Nat.le_refl _)]
    exact ho
  · rcases List.mem_append.1 hr with hr | hr
    · exact h'.rows r hr B hB
    · simp at hr
      have hs := h.below.size
      rcases hr with rfl | rfl
      · have := hp B hB
        exact ⟨this.1, by omega, by omega⟩
      · have := hq B hB
        exact ⟨this.1, by omega, by omega⟩
  · rcases key i hi B e1 with ⟨a1, a2⟩ | ⟨a1, a2, a3⟩ | ⟨a1, a2, a3⟩ <;> rcases key j hj B e2 with ⟨b1, b2⟩ | ⟨b1, b2, b3⟩ | ⟨b1, b2, b3⟩
    · rw [List.getElem_append_left a1] at e1
      rw [List.getElem_append_left b1] at e2
      exact h'.inj i j a1 b1 B e1 e2
    all_goals first
      | omega
      | exact (hpq B a2 b2).elim
      | exact (hpq B b2 a2).elim

set_option maxRecDepth 100000 in
set_option maxHeartbeats 1000000 in
/-- A bag that is full takes no more. -/
theorem add_full (GB : Nat) (a : Option Addr) (c : Nat) (x : Value) (w : World) (hc : w.cell? ⟨GB, 1, none⟩ = some (.slice a 300 c)) :
    Calls Tryd.prog 10 #[.pointer (some ⟨GB, 0, none⟩), x] w fun e w' => e = .returned (.tuple #[]) ∧ w' = w := by
  go_enter Tryd.func10, Tryd.ntmps10
  go_wp2_with fail
  go_end0
  exact ⟨rfl, rfl⟩

theorem bg_slice {e es : TypeId} {c : Nat} {w0 wr : World} {GB : Nat} {v : Value} {rs : List Lt} (h : Bg e es c w0 wr GB v rs rs.length) : ∃ a k, v = .slice a rs.length k := by
  obtain ⟨a, k, hv, _⟩ := own_sliceM h.own
  exact ⟨a, k, hv⟩

/-- The state of the loop. -/
def GSt (w3 : World) (GB k : Nat) (wr : World) : Prop := ∃ (v : Value) (rs : List Lt), Bg 3 26 1 w3 wr GB v rs rs.length ∧ rs.length = min (2 * k) 300 ∧ (∀ p ∈ rs, p.xs.length ≤ 4194304)

/-- Both lists into the bag. -/
theorem gst_add {w3 wr u6 : World} {GB k : Nat} {va vb : Value} {la lb : List Int} {u1 : Nat} (h : GSt w3 GB k wr) (hb : Below wr.heap.size wr u6) (ha : LI u6 wr.heap.size va la) (hbb : LI u6 u1 vb lb) (hu : wr.heap.size ≤ u1) (hva : ∀ B, va.ownBlock = some B → B < u1) (h1 : la.length ≤ 4194304) (h2 : lb.length ≤ 4194304) :
    Calls Tryd.prog 10 #[.pointer (some ⟨GB, 0, none⟩), va] u6 fun e w' => e = .returned (.tuple #[]) ∧ Calls Tryd.prog 10 #[.pointer (some ⟨GB, 0, none⟩), vb] w' fun e w'' => e = .returned (.tuple #[]) ∧ GSt w3 GB (k + 1) w'' := by
  obtain ⟨v, rs, hbg, hlen, hxs⟩ := h
  by_cases hf : rs.length = 300
  · obtain ⟨a, c, rfl⟩ := bg_slice hbg
    have h6 := hbg.later hb
    have hc := h6.cell
    rw [hf] at hc
    refine (add_full GB a c va u6 hc).mono fun e w' ⟨he, hw⟩ => ⟨he, ?_⟩
    subst hw
    refine (add_full GB a c vb _ hc).mono fun e w'' ⟨he, hw⟩ => ⟨he, ?_⟩
    subst hw
    exact ⟨_, rs, h6, by omega, hxs⟩
  · obtain ⟨p, e1, n1, f1⟩ := lt_sl ha
    obtain ⟨q, e2, n2, f2⟩ := lt_sl hbb
    have hm := hbg.more2 (p := p) (q := q) hb (fun B hB => ⟨(f1 B hB).1, (f1 B hB).2.1⟩) (fun B hB => ⟨(f2 B hB).1, Nat.le_trans hu (f2 B hB).2.1⟩) (fun B x y => by
      have := hva B (f1 B x).2.2
      have := (f2 B y).2.1
      omega)
    have hl2 : (rs ++ [p, q]).length = rs.length + 2 := by simp
    refine (addBg hm (by omega) (by omega) va (by rw [e1]; simp)).mono fun e w' ⟨he, v', hb'⟩ => ⟨he, ?_⟩
    refine (addBg hb' (by omega) (by omega) vb (by rw [e2]; simp)).mono fun e w'' ⟨he, v'', hb''⟩ => ⟨he, v'', rs ++ [p, q], by rw [hl2]; exact hb'', by omega, fun r hr => ?_⟩
    rcases List.mem_append.1 hr with hr | hr
    · exact hxs r hr
    · simp at hr
      rcases hr with rfl | rfl <;> omega

theorem kx_nxt {n : Nat} {xs : List Inx} {Bs : Nat → Nat} (hl : xs.length = n) (z : Int) : nxtV (opF (kx n xs Bs)) n z ((kx n xs Bs).getD z.toNat dx) = nxtV (opF xs) n z (xs.getD z.toNat dx) := by
  rw [kx_op hl]
  unfold nxtV
  by_cases h : (res (opF xs) n 0).1 = 0 ∧ 0 ≤ z ∧ z < n
  · rw [if_pos h, if_pos h, kx_get (show z.toNat < n by omega)]
  · rw [if_neg h, if_neg h]
theorem nxtV_facts {n : Nat} {xs : List Inx} (z : Int) : (nxtV (opF xs) n z (xs.getD z.toNat dx)).length ≤ n + 1 ∧ ∀ y ∈ nxtV (opF xs) n z (xs.getD z.toNat dx), 0 ≤ y ∧ y ≤ n := by
  unfold nxtV
  by_cases h : (res (opF xs) n 0).1 = 0 ∧ 0 ≤ z ∧ z < n
  · rw [if_pos h]
    have hg := res_good h.1
    have hz : z.toNat < n := by omega
    have e : (xs.getD z.toNat dx).c = opF xs z.toNat := rfl
    rw [e]
    constructor
    · rw [← pick_nub hg hz]; exact pick_len _ _
    · intro y hy
      exact pls_range hg hz y (((nub_facts _).2 y).1 hy)
  · rw [if_neg h]
    exact ⟨by simp, fun y hy => by cases hy⟩
theorem labV_facts {n : Nat} {xs : List Inx} (z : Int) : (labV (opF xs) n z).length ≤ 33 ∧ ∀ y ∈ labV (opF xs) n z, -1 ≤ y ∧ y ≤ n := by
  unfold labV
  by_cases h : (res (opF xs) n 0).1 = 0 ∧ 0 ≤ z ∧ z < n
  · rw [if_pos h]
    have hz : z.toNat < n := by omega
    refine ⟨labs_len (good_okp (res_good h.1) hz), fun y hy => ?_⟩
    have := labs_mem y hy
    omega
  · rw [if_neg h]
    exact ⟨by simp, fun y hy => by cases hy⟩

set_option maxRecDepth 100000 in
set_option maxHeartbeats 4000000 in
theorem goes_big (a : Option Addr) (n cap : Nat) (xs : List Inx) (pc : Int) (w : World) (hn : n ≤ 140737488355328) (hcap : n ≤ cap) (hc : CodS w a n xs) :
    Calls Tryd.prog 4 #[.slice a n cap, .int .i64 pc] w fun e w' => e = .returned (.bool true) ∧ Below w.heap.size w w' := by
  have H1 := hid (works w)
  have HC := hid hc
  clear hc
  go_enter Tryd.func4, Tryd.ntmps4
  go_wp2_with fail
  refine H1.out.mono ?_
  rintro e w1 ⟨rfl, hb1⟩
  have H2 := hid (sizeC a n cap xs w1 hn hcap (HC.out.later hb1 (Nat.le_refl _)))
  have hs1 := hb1.size
  have HB1 := hid hb1
  clear hb1
  go_wp2_with fail
  refine H2.out.mono ?_
  rintro e w2 ⟨s, rfl, hsz, hk2⟩
  have hb2 := below_kept HB1.out hk2 hs1 (fun _ x => x.elim)
  have hs2 := hb2.size
  have HB2 := hid hb2
  by_cases hbig : 600 < s
  · have hbig' : (600 : Int) < (s : Int) := by omega
    clear hb2 hsz hk2
    go_wp2_with fail
    go_ret
    exact ⟨rfl, HB2.out⟩
  have hbig' : ¬ (600 : Int) < (s : Int) := by omega
  have hsz := hsz (by omega)
  have hlen := HC.out.1
  have hn3 : n ≤ 600 := by have := szF_len xs n; omega
  have hln : ∀ j, j < n → (xs.getD j dx).ln ≤ 600 := fun j hj => by have := szF_ln xs hj; omega
  have hln2 : ∀ j, j < n → (xs.getD j dx).ln ≤ 100000 := fun j hj => by have := hln j hj; omega
  have hcs2 := HC.out.later hb2 (Nat.le_refl _)
  have hll : ∀ j, j < n → (xs.getD j dx).l.length = (xs.getD j dx).ln := fun j hj => by
    rcases hcs2.2 with h | ⟨b, off, _, hcd⟩
    · omega
    · exact ((hcd.2 j hj).2.2.2.2.2.2.2.2 (hln2 j hj)).1
  have H3 := hid (wideCode a n cap xs w2 (by omega) hcs2 hln2)
  have HLN := hid hln2
  have HLL := hid hll
  have HCS := hid hcs2
  clear hb2 hsz hk2 hln hln2 hll hcs2
  go_wp2_with fail
  refine H3.out.mono ?_
  rintro e w3 ⟨rfl, Bs, hws⟩
  have hrow : ∀ j, j < n → WRow w3 w2.heap.size j (xs.getD j dx) (Bs j) := fun j hj => hws.row j (by omega) hj
  have hmk : ∀ j, n ≤ j → j < n + 64 → WMk w3 w2.heap.size j := fun j h1 h2 => hws.mks j h2 h1
  have hb3 := hws.bel
  have hs3 := hb3.size
  have hkc : CodS w3 (some ⟨w2.heap.size, 0, none⟩) n (kx n xs Bs) := ⟨by simp [kx], by
    by_cases h0 : n = 0
    · exact .inl h0
    · exact .inr ⟨_, _, rfl, WSc.cod (w := w3) hrow HCS.out HLN.out⟩⟩
  have HROW := hid hrow
  have HMK := hid hmk
  have HKC := hid hkc
  have HB3 := hid (HB2.out.trans (hb3.mono hs2))
  have hs30 : w.heap.size ≤ w3.heap.size := by omega
  have HCS3 := hid (HCS.out.later hb3 (Nat.le_refl _))
  have hkln : ∀ q, q < n → ((kx n xs Bs).getD q dx).ln ≤ 100000 := fun q hq => by rw [kx_get hq]; exact HLN.out q hq
  have HKLN := hid hkln
  have hbg := newBg (e := 3) (es := 26) (c := 1) (w0 := w3) (w := w3) (rs := []) (Below.refl _ _) (by decide) (fun q hq => by simp at hq) (fun i j hi => by simp at hi) w3.heap.size rfl 49
  rw [e17] at hbg
  have HBG := hid hbg
  clear hrow hmk hb3 hws hkc hkln hbg
  obtain ⟨GB, hGB⟩ : ∃ GB, w3.heap.size = GB := ⟨_, rfl⟩
  rw [hGB] at HBG
  go_wp2_with fail
  generalize hwb : w3.alloc (.cells #[.slice none 0 0, .slice none 0 0, .slice none 0 0, .slice none 0 0, .slice none 0 0, .slice none 0 0, .slice none 0 0, .slice none 0 0, .slice none 0 0, .slice none 0 0, .slice none 0 0, .slice none 0 0, .slice none 0 0, .slice none 0 0, .slice none 0 0, .slice none 0 0, .slice none 0 0] 49) = wb at *
  have HG0 := hid (show GSt w3 GB 0 wb from ⟨_, [], HBG.out, by simp, fun p hp => by cases hp⟩)
  clear hwb HBG
  go_loopw [8] (fun p wr => ∃ k : Nat, k ≤ n + 2 ∧ p = .int .i64 ((k : Int) - 1) ∧ GSt w3 GB k wr) (fun p _ => n + 2 - (intOf p + 1).toNat)
  case atStart => exact ⟨0, by omega, rfl, HG0.out⟩
  case round =>
    obtain ⟨k, hk, rfl, hgs⟩ := hrel
    clear HG0
    have hbw : Below w3.heap.size w3 wr := by obtain ⟨v, rs, h1, _⟩ := hgs; exact h1.below
    have HGS := hid hgs
    have HW := hid hbw
    clear hgs hbw
    by_cases hlt : k < n + 2
    · obtain ⟨z, hz⟩ : ∃ z, (k : Int) - 1 = z := ⟨_, rfl⟩
      have hzn : z ≤ (n : Int) := by omega
      have hz0 : -1 ≤ z := by omega
      rw [hz]
      have L1 := hid (labelsC (some ⟨w2.heap.size, 0, none⟩) n (n + 64) (kx n xs Bs) z wr (by omega) (by omega) (HKC.out.later HW.out (Nat.le_refl _)))
      rw [kx_op hlen] at L1
      have HZ := hid hz
      clear hz
      have hs0 := Nat.le_refl wr.heap.size
      have HY0 := hid (Below.refl wr.heap.size wr)
      go_wp2_with fail
      refine L1.out.mono ?_
      rintro e u1 ⟨va, rfl, la1, hb1⟩
      obtain ⟨aa, ac, rfl⟩ := la1.slice
      have hla := labV_facts (xs := xs) (n := n) z
      have wL := hid hb1
      have hs1 : wr.heap.size ≤ u1.heap.size := Nat.le_trans hs0 hb1.size
      have HY1 := hid (HY0.out.trans (hb1.mono hs0))
      have P1 := hid (Below.refl u1.heap.size u1)
      clear hb1
      have L2 := hid (nextC (some ⟨w2.heap.size, 0, none⟩) n (n + 64) (kx n xs Bs) z u1 (by omega) (by omega) (HKC.out.later (HW.out.trans (HY1.out.mono HW.out.size)) (Nat.le_refl _)) HKLN.out)
      rw [kx_nxt hlen] at L2
      go_wp2_with fail
      refine L2.out.mono ?_
      rintro e u2 ⟨vb, rfl, lb2, hb2⟩
      obtain ⟨ba, bc, rfl⟩ := lb2.slice
      have hnx := nxtV_facts (xs := xs) (n := n) z
      have hs2 : wr.heap.size ≤ u2.heap.size := Nat.le_trans hs1 hb2.size
      have HY2 := hid (HY1.out.trans (hb2.mono hs1))
      have PL2 := hid (P1.out.trans (hb2.mono (by have := P1.out.size; exact this)))
      have Q2 := hid (Below.refl u2.heap.size u2)
      clear hb2
      have L3 := hid (refLabels a n cap xs z u2 (by omega) hcap (HCS3.out.later (HW.out.trans (HY2.out.mono HW.out.size)) (Nat.le_refl _)))
      go_wp2_with fail
      refine L3.out.mono ?_
      rintro e u3 ⟨vc, rfl, lc3, hb3⟩
      obtain ⟨ca, cc, rfl⟩ := lc3.slice
      have hs3 : wr.heap.size ≤ u3.heap.size := Nat.le_trans hs2 hb3.size
      have HY3 := hid (HY2.out.trans (hb3.mono hs2))
      have PL3 := hid (PL2.out.trans (hb3.mono (by have := PL2.out.size; exact this)))
      have QN3 := hid (Q2.out.trans (hb3.mono (by have := Q2.out.size; exact this)))
      clear hb3
      have L4 := hid (eq_own aa ca _ _ ac cc _ _ _ u3 (la1.later PL3.out (Nat.le_refl _)) lc3 (by omega) (fun y hy => by have := hla.2 y hy; omega))
      go_wp2_with fail
      refine L4.out.mono ?_
      rintro e u4 ⟨rfl, hb4⟩
      have hs4 : wr.heap.size ≤ u4.heap.size := Nat.le_trans hs3 hb4.size
      have HY4 := hid (HY3.out.trans (hb4.mono hs3))
      have PL4 := hid (PL3.out.trans (hb4.mono (by have := PL3.out.size; exact this)))
      have QN4 := hid (QN3.out.trans (hb4.mono (by have := QN3.out.size; exact this)))
      clear hb4
      have L5 := hid (refNext a n cap xs z u4 (by omega) hcap (HCS3.out.later (HW.out.trans (HY4.out.mono HW.out.size)) (Nat.le_refl _)) HLN.out)
      go_wp2_with fail
      refine L5.out.mono ?_
      rintro e u5 ⟨vd, rfl, ld5, hb5⟩
      obtain ⟨da, dc, rfl⟩ := ld5.slice
      have hs5 : wr.heap.size ≤ u5.heap.size := Nat.le_trans hs4 hb5.size
      have HY5 := hid (HY4.out.trans (hb5.mono hs4))
      have PL5 := hid (PL4.out.trans (hb5.mono (by have := PL4.out.size; exact this)))
      have QN5 := hid (QN4.out.trans (hb5.mono (by have := QN4.out.size; exact this)))
      clear hb5
      have L6 := hid (eq_own ba da _ _ bc dc _ _ _ u5 (lb2.later QN5.out (Nat.le_refl _)) ld5 (by omega) (fun y hy => by have := hnx.2 y hy; omega))
      go_wp2_with fail
      refine L6.out.mono ?_
      rintro e u6 ⟨rfl, hb6⟩
      have hs6 : wr.heap.size ≤ u6.heap.size := Nat.le_trans hs5 hb6.size
      have HY6 := hid (HY5.out.trans (hb6.mono hs5))
      have PL6 := hid (PL5.out.trans (hb6.mono (by have := PL5.out.size; exact this)))
      have QN6 := hid (QN5.out.trans (hb6.mono (by have := QN5.out.size; exact this)))
      clear hb6
      have h16 := PL6.out
      have h26 := QN6.out
      have hy6 := HY6.out
      have GA := hid (gst_add HGS.out hy6 (la1.later h16 (Nat.le_refl _)) (lb2.later h26 (Nat.le_refl _)) hs1 (fun B hB => (LI.block la1 hB).2) (by omega) (by omega))
      clear la1 lb2 h16 h26 hy6
      go_wp2_with fail
      refine GA.out.mono ?_
      rintro e u7 ⟨rfl, hc7⟩
      have C7 := hid hc7
      clear hc7
      go_wp2_with fail
      refine C7.out.mono ?_
      rintro e u8 ⟨rfl, hg8⟩
      have HG8 := hid hg8
      clear hg8
      go_wp2_with fail
      refine ⟨⟨k + 1, by omega, ?_, HG8.out⟩, ?_⟩
      · rw [← HZ.out]; go_num
      · have := HZ.out; simp only [intOf]; omega
    · obtain rfl : k = n + 2 := by omega
      have hnn : ¬ (((n + 2 : Nat) : Int) - 1 ≤ (n : Int)) := by omega
      have L1 := hid (labelsC (some ⟨w2.heap.size, 0, none⟩) n (n + 64) (kx n xs Bs) pc wr (by omega) (by omega) (HKC.out.later HW.out (Nat.le_refl _)))
      rw [kx_op hlen] at L1
      have hs0 := Nat.le_refl wr.heap.size
      have HY0 := hid (Below.refl wr.heap.size wr)
      go_wp2_with fail
      refine L1.out.mono ?_
      rintro e u1 ⟨va, rfl, la1, hb1⟩
      obtain ⟨aa, ac, rfl⟩ := la1.slice
      have hla := labV_facts (xs := xs) (n := n) pc
      have wL := hid hb1
      have hs1 : wr.heap.size ≤ u1.heap.size := Nat.le_trans hs0 hb1.size
      have HY1 := hid (HY0.out.trans (hb1.mono hs0))
      have P1 := hid (Below.refl u1.heap.size u1)
      clear hb1
      have L2 := hid (refLabels a n cap xs pc u1 (by omega) hcap (HCS3.out.later (HW.out.trans (HY1.out.mono HW.out.size)) (Nat.le_refl _)))
      go_wp2_with fail
      refine L2.out.mono ?_
      rintro e u2 ⟨vc, rfl, lc3, hb2⟩
      obtain ⟨ca, cc, rfl⟩ := lc3.slice
      have hs2 : wr.heap.size ≤ u2.heap.size := Nat.le_trans hs1 hb2.size
      have HY2 := hid (HY1.out.trans (hb2.mono hs1))
      have PL2 := hid (P1.out.trans (hb2.mono (by have := P1.out.size; exact this)))
      clear hb2
      have L3 := hid (eq_own aa ca _ _ ac cc _ _ _ u2 (la1.later PL2.out (Nat.le_refl _)) lc3 (by omega) (fun y hy => by have := hla.2 y hy; omega))
      go_wp2_with fail
      refine L3.out.mono ?_
      rintro e u3 ⟨rfl, hb3⟩
      have hs3 : wr.heap.size ≤ u3.heap.size := Nat.le_trans hs2 hb3.size
      have HY3 := hid (HY2.out.trans (hb3.mono hs2))
      have PL3 := hid (PL2.out.trans (hb3.mono (by have := PL2.out.size; exact this)))
      clear hb3
      have L4 := hid (nextC (some ⟨w2.heap.size, 0, none⟩) n (n + 64) (kx n xs Bs) pc u3 (by omega) (by omega) (HKC.out.later (HW.out.trans (HY3.out.mono HW.out.size)) (Nat.le_refl _)) HKLN.out)
      rw [kx_nxt hlen] at L4
      go_wp2_with fail
      refine L4.out.mono ?_
      rintro e u4 ⟨vb, rfl, lb2, hb4⟩
      obtain ⟨ba, bc, rfl⟩ := lb2.slice
      have hnx := nxtV_facts (xs := xs) (n := n) pc
      have hs4 : wr.heap.size ≤ u4.heap.size := Nat.le_trans hs3 hb4.size
      have HY4 := hid (HY3.out.trans (hb4.mono hs3))
      have PL4 := hid (PL3.out.trans (hb4.mono (by have := PL3.out.size; exact this)))
      have Q4 := hid (Below.refl u4.heap.size u4)
      clear hb4
      have L5 := hid (refNext a n cap xs pc u4 (by omega) hcap (HCS3.out.later (HW.out.trans (HY4.out.mono HW.out.size)) (Nat.le_refl _)) HLN.out)
      go_wp2_with fail
      refine L5.out.mono ?_
      rintro e u5 ⟨vd, rfl, ld5, hb5⟩
      obtain ⟨da, dc, rfl⟩ := ld5.slice
      have hs5 : wr.heap.size ≤ u5.heap.size := Nat.le_trans hs4 hb5.size
      have HY5 := hid (HY4.out.trans (hb5.mono hs4))
      have PL5 := hid (PL4.out.trans (hb5.mono (by have := PL4.out.size; exact this)))
      have QN5 := hid (Q4.out.trans (hb5.mono (by have := Q4.out.size; exact this)))
      clear hb5
      have L6 := hid (eq_own ba da _ _ bc dc _ _ _ u5 (lb2.later QN5.out (Nat.le_refl _)) ld5 (by omega) (fun y hy => by have := hnx.2 y hy; omega))
      go_wp2_with fail
      refine L6.out.mono ?_
      rintro e u6 ⟨rfl, hb6⟩
      have hs6 : wr.heap.size ≤ u6.heap.size := Nat.le_trans hs5 hb6.size
      have HY6 := hid (HY5.out.trans (hb6.mono hs5))
      have PL6 := hid (PL5.out.trans (hb6.mono (by have := PL5.out.size; exact this)))
      have QN6 := hid (QN5.out.trans (hb6.mono (by have := QN5.out.size; exact this)))
      clear hb6
      have h16 := PL6.out
      have h26 := QN6.out
      have hy6 := HY6.out
      obtain ⟨bv, rs, hbg, hrl, hrx⟩ := HGS.out
      have AP := hid (apartBg (hbg.later hy6) (by omega) (by omega) hrx)
      clear la1 lb2 h16 h26 hy6 hbg hrl hrx
      go_wp2_with fail
      refine AP.out.mono ?_
      rintro e s1 ⟨rfl, hq1⟩
      have ss1 := hq1.size
      have EC := hid (eqCode w2.heap.size a n cap xs Bs s1 (by omega) hcap (fun j hj => (HROW.out j hj).later hq1 (Nat.le_refl _)) (HCS3.out.later hq1 (Nat.le_refl _)) HLN.out)
      have HQ1 := hid hq1
      clear hq1
      go_wp2_with fail
      refine EC.out.mono ?_
      rintro e s2 ⟨rfl, hq2⟩
      have hq3 := HQ1.out.trans (hq2.mono ss1)
      have SC := hid (spareCode w2.heap.size n xs Bs s2 (by omega) HLL.out HLN.out (fun j hj => (HROW.out j hj).later hq3 (Nat.le_refl _)) (fun j h1 h2 => (HMK.out j h1 h2).later hq3 (Nat.le_refl _)))
      have HQ3 := hid hq3
      clear hq2 hq3
      go_wp2_with fail
      refine SC.out.mono ?_
      rintro e s3 ⟨rfl, hq4⟩
      have HQ4 := hid (HQ3.out.trans (hq4.mono HQ3.out.size))
      clear hq4
      go_wp2_with fail
      go_ret
      exact ⟨rfl, HB3.out.trans (HQ4.out.mono hs30)⟩
end Go.Proofs.YtkcidabokgadcaaDoor
