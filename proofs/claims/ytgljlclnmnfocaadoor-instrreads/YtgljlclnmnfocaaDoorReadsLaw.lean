/-
  The walk over InstrReads: bytes are read as instructions, or refused, as the document says; the answers are new memory.
-/
import Derived.Test.YtgljlclnmnfocaaDoorRefD
import Derived.Test.YtgljlclnmnfocaaDoorBagInts
namespace Go.Proofs.YtgljlclnmnfocaaDoor
open Go.RowKit
set_option linter.unusedVariables false

theorem newBg {e es : TypeId} {c : Nat} {w0 w : World} {rs : List Lt} (hb : Below w0.heap.size w0 w) (hc : c ≤ 16) (hr : ∀ p ∈ rs, ∀ B, p.b = some B → Row w e B p.xs.length p.cap p.xs ∧ w0.heap.size ≤ B)
    (hinj : ∀ i j (hi : i < rs.length) (hj : j < rs.length) B, (rs[i]).b = some B → (rs[j]).b = some B → i = j) (B : Nat) (hB : w.heap.size = B) (t : TypeId) :
    Bg e es c w0 (w.alloc (.cells (Array.replicate 17 (.slice none 0 0)) t)) B (.slice none 0 0) rs 0 := by
  subst hB
  have ha : Below w.heap.size w (w.alloc (.cells (Array.replicate 17 (.slice none 0 0)) t)) := (Below.refl _ _).alloc (Nat.le_refl _) _
  have hcell : ∀ j, j ≤ 16 → (w.alloc (.cells (Array.replicate 17 (.slice none 0 0)) t)).cell? ⟨w.heap.size, j, none⟩ = some (.slice none 0 0) := by
    intro j hj
    rw [World.cell?_alloc_new, Array.getElem?_eq_getElem (by simp; omega)]
    simp
  refine ⟨hb.trans (ha.mono hb.size), hb.size, hcell c hc, ?_, fun j h1 _ => hcell j h1, World.ownsRow_nil _ _ _ _, by simp [Value.ownBlock], fun b hb => by simp [Value.ownBlock] at hb, fun p hp B hB => ?_, hinj⟩
  · simp
  · have h := hr p hp B hB
    have := h.1.lt
    exact ⟨h.1.below ha (Nat.le_refl _), by omega, h.2⟩
theorem e17 : Array.replicate 17 (Value.slice none 0 0) = #[.slice none 0 0, .slice none 0 0, .slice none 0 0, .slice none 0 0, .slice none 0 0, .slice none 0 0, .slice none 0 0, .slice none 0 0, .slice none 0 0, .slice none 0 0, .slice none 0 0, .slice none 0 0, .slice none 0 0, .slice none 0 0, .slice none 0 0, .slice none 0 0, .slice none 0 0] := rfl

/-- A row of the call's own as one of a bag's lists. -/
theorem lt_of_own {w : World} {base : Nat} {e : TypeId} {v : Value} {n : Nat} {xs : List Value} (h : w.ownsRow base e 1 v n xs) : ∃ p : Lt, v = p.sl ∧ p.xs = xs ∧ (∀ B, p.b = some B → Row w e B p.xs.length p.cap p.xs ∧ base ≤ B) := by
  have hl := h.1
  have h2 := h
  rcases h.2 with ⟨rfl, rfl⟩ | ⟨g, cap, cur, rfl, hg, _⟩
  · have hx : xs = [] := List.eq_nil_of_length_eq_zero (by simpa using hl)
    subst hx
    exact ⟨⟨none, [], 0⟩, rfl, rfl, fun B hB => by cases hB⟩
  · have hn : xs.length = n := by simpa using hl
    subst hn
    exact ⟨⟨some g, xs, cap⟩, rfl, rfl, fun B hB => by cases hB; exact ⟨Row.of h2, hg⟩⟩

/-- A list more, in new memory, for a bag that holds all of its own. -/
theorem Bg.more {e es : TypeId} {c : Nat} {w0 wr w' : World} {GB : Nat} {v : Value} {rs : List Lt} {p : Lt} (h : Bg e es c w0 wr GB v rs rs.length) (hb : Below wr.heap.size wr w') (hp : ∀ B, p.b = some B → Row w' e B p.xs.length p.cap p.xs ∧ wr.heap.size ≤ B) :
    Bg e es c w0 w' GB v (rs ++ [p]) rs.length := by
  have h' := h.later hb
  have hlt : ∀ q ∈ rs, ∀ B, q.b = some B → B < wr.heap.size := fun q hq B hB => (h.rows q hq B hB).1.lt
  have hgb : GB < wr.heap.size := block_lt_of_cell h.cell
  refine ⟨h'.below, h'.gb, h'.cell, h'.free, h'.flds, ?_, h'.other, h'.new, fun q hq B hB => ?_, fun i j hi hj B e1 e2 => ?_⟩
  · have ho := h'.own
    rw [List.take_append_of_le_length (Nat.le_refl _)]
    exact ho
  · rcases List.mem_append.1 hq with hq | hq
    · exact h'.rows q hq B hB
    · simp at hq
      subst hq
      have := hp B hB
      exact ⟨this.1, by omega, by have := h.below.size; omega⟩
  · simp at hi hj
    have key : ∀ k (hk : k < (rs ++ [p]).length), ((rs ++ [p])[k]).b = some B → (k < rs.length → B < wr.heap.size) ∧ (k = rs.length → wr.heap.size ≤ B) := by
      intro k hk hB
      refine ⟨fun hlt2 => ?_, fun he => ?_⟩
      · rw [List.getElem_append_left hlt2] at hB
        exact hlt _ (List.getElem_mem hlt2) B hB
      · subst he
        simp at hB
        exact (hp B hB).2
    by_cases hi2 : i < rs.length
    · by_cases hj2 : j < rs.length
      · rw [List.getElem_append_left hi2] at e1
        rw [List.getElem_append_left hj2] at e2
        exact h'.inj i j hi2 hj2 B e1 e2
      · have := (key i (by simp; omega) e1).1 hi2
        have := (key j (by simp; omega) e2).2 (by omega)
        omega
    · by_cases hj2 : j < rs.length
      · have := (key i (by simp; omega) e1).2 (by omega)
        have := (key j (by simp; omega) e2).1 hj2
        omega
      · omega

theorem decV_list (zs : List Int) (p : Int) (hz : ∀ z ∈ zs, 0 ≤ z ∧ z ≤ 255) : (decV zs p).2.2.1.length ≤ 16 ∧ ∀ z ∈ (decV zs p).2.2.1, -9223372036854775808 ≤ z ∧ z ≤ 9223372036854775807 := by
  by_cases h : (decV zs p).2.2.2.2 = 0
  · obtain ⟨V, hV⟩ : ∃ V, decV zs p = V := ⟨_, rfl⟩
    rw [hV] at h ⊢
    obtain ⟨c, a, l, q, x⟩ := V
    simp only at h
    subst h
    exact chk_list (decV_same zs p c a l q hz hV).2.2.1
  · rw [decV_err zs p h]
    simp

set_option maxRecDepth 100000 in
set_option maxHeartbeats 1000000 in
theorem addIns21 {w0 wr : World} {GB : Nat} {v : Value} {rs : List Lt} {n : Nat} (h : Bg 3 22 1 w0 wr GB v rs n) (hn : n < rs.length) (h300 : n < 300) (c a : Int) (sa : Option Addr) (sn sc : Nat) (hx : Value.slice sa sn sc = rs[n].sl) :
    Calls Tryd.prog 21 #[.pointer (some ⟨GB, 0, none⟩), .agg #[.int .u8 c, .int .i64 a, .slice sa sn sc]] wr fun e w' => e = .returned (.tuple #[]) ∧ ∃ v', Bg 3 22 1 w0 w' GB v' rs (n + 1) := by
  have hb : Below wr.heap.size wr (wr.alloc (.cells #[.int .u8 c, .int .i64 a, .slice sa sn sc] 24)) := (Below.refl _ _).alloc (Nat.le_refl _) _
  have HA := hid (addBg (h.later hb) hn h300 _ hx)
  clear h hb hx
  go_enter Tryd.func21, Tryd.ntmps21
  go_wp2_with fail
  refine HA.out.mono ?_
  rintro e w1 ⟨rfl, v', hbg⟩
  have HBG := hid hbg
  clear hbg
  go_wp2_with fail
  go_end0
  exact ⟨rfl, v', HBG.out⟩

/-- The places that are asked. -/
def plc (p : Int) (n : Nat) : List Int := [p, 0, -1, n, (n : Int) + 1, 9223372036854775807]

set_option maxRecDepth 100000 in
set_option maxHeartbeats 1000000 in
theorem reads4_big (a : Option Addr) (n cap : Nat) (p : Int) (w : World) (hk : KindsOk w) (hbig : 1048576 < n) (h1 : n ≤ 140737488355328) :
    Calls Tryd.prog 4 #[.slice a n cap, .int .i64 p] w fun e w' => e = .returned (.bool true) ∧ Below w.heap.size w w' := by
  have HW := hid (works7 _ hk)
  have hs' : (1048576 : Int) < (n : Int) := by omega
  clear hk
  go_enter Tryd.func4, Tryd.ntmps4
  go_wp2_with fail
  refine HW.out.mono ?_
  rintro e w1 ⟨rfl, hb1⟩
  go_wp2_with fail
  go_ret
  exact ⟨rfl, hb1⟩

theorem seg_wide {w : World} {B n : Nat} {zs : List Int} (hz : zs.length = n) (hn : n ≤ 1048576) (hr : ∀ z ∈ zs, 0 ≤ z ∧ z ≤ 255) (hc : ∀ j, j < n + 64 → w.cell? ⟨B, j, none⟩ = some (.int .u8 (wl zs j))) : Seg w (some ⟨B, 0, none⟩) n (n + 64) zs := by
  refine ⟨hz, by omega, by omega, hr, .inr ⟨B, 0, rfl, fun j hj => ?_⟩⟩
  rw [Nat.zero_add, hc j (by omega)]
  have : j < zs.length := by omega
  simp only [wl, this, if_true]

set_option maxRecDepth 100000 in
set_option maxHeartbeats 4000000 in
theorem reads4 (a : Option Addr) (n cap : Nat) (zs : List Int) (p : Int) (w : World) (hk : KindsOk w) (hs : Seg w a n cap zs) (hsm : n ≤ 1048576) :
    Calls Tryd.prog 4 #[.slice a n cap, .int .i64 p] w fun e w' => e = .returned (.bool true) ∧ Below w.heap.size w w' := by
  have h0 := hk.pos
  have HW := hid (works7 _ hk)
  have hs' : ¬ (1048576 : Int) < (n : Int) := by omega
  have HK := hid hk
  have HS := hid hs
  clear hk hs
  go_enter Tryd.func4, Tryd.ntmps4
  go_wp2_with fail
  refine HW.out.mono ?_
  rintro e w1 ⟨rfl, hb1⟩
  have B1 := hid hb1
  have HWB := hid (wide6 a n cap zs w1 (HS.out.later hb1 (Nat.le_refl _)) hsm)
  clear hb1 HW
  go_wp2_with fail
  refine HWB.out.mono ?_
  rintro e w2 ⟨rfl, hc2, hb2, hz2⟩
  obtain ⟨B, hB⟩ : ∃ B, w1.heap.size = B := ⟨_, rfl⟩
  rw [hB] at hc2 hz2 ⊢
  have B2 := hid (below_late B1.out hb2)
  clear hB hb2 B1 HWB
  obtain ⟨w3, hw3⟩ : ∃ w3, w2.alloc (.cells #[.int .i64 p, .int .i64 0, .int .i64 (-1), .int .i64 n, .int .i64 ((n : Int) + 1), .int .i64 9223372036854775807] 3) = w3 := ⟨_, rfl⟩
  have b3 : Below w2.heap.size w2 w3 := by rw [← hw3]; exact (Below.refl _ _).alloc (Nat.le_refl _) _
  have hz3 : w3.heap.size = w2.heap.size + 1 := by rw [← hw3]; simp
  have C3 := hid (fun (j : Nat) (hj : j < n + 64) => (b3.cell (p := ⟨B, j, none⟩) hz2).trans (hc2 j hj))
  have P3 := hid (show ∀ j, j < 6 → w3.cell? ⟨w2.heap.size, j, none⟩ = some (.int .i64 ((plc p n).getD j 0)) by
    intro j hj
    rw [← hw3]
    rcases (show j = 0 ∨ j = 1 ∨ j = 2 ∨ j = 3 ∨ j = 4 ∨ j = 5 by omega) with rfl | rfl | rfl | rfl | rfl | rfl <;> simp [go_sem, plc])
  have B3 := hid (below_late B2.out b3)
  have SK3 := hid (seg_wide HS.out.1 hsm HS.out.2.2.2.1 C3.out)
  have hbg := newBg (e := 3) (es := 22) (c := 1) (w0 := w3) (w := w3) (rs := []) (Below.refl _ _) (by decide) (fun q hq => by simp at hq) (fun i j hi => by simp at hi) w3.heap.size rfl 50
  rw [e17] at hbg
  have BG := hid hbg
  have HW3 := hid hw3
  have HZ3 := hid hz3
  clear hbg hw3 b3 hc2 hz3 B2
  go_wp2_with fail
  rw [HW3.out]
  obtain ⟨w4, hw4⟩ : ∃ w4, w3.alloc (.cells #[.slice none 0 0, .slice none 0 0, .slice none 0 0, .slice none 0 0, .slice none 0 0, .slice none 0 0, .slice none 0 0, .slice none 0 0, .slice none 0 0, .slice none 0 0, .slice none 0 0, .slice none 0 0, .slice none 0 0, .slice none 0 0, .slice none 0 0, .slice none 0 0, .slice none 0 0] 50) = w4 := ⟨_, rfl⟩
  rw [hw4] at BG ⊢
  clear hw4
  rw [← HZ3.out]
  obtain ⟨GB, hGB⟩ : ∃ GB, w3.heap.size = GB := ⟨_, rfl⟩
  rw [hGB] at BG ⊢
  have HGB := hid hGB
  clear hGB HW3
  have hPB : w2.heap.size < w3.heap.size := by have := HZ3.out; omega
  go_loopw [9] (fun i wr => ∃ (k : Nat) (v : Value) (rs : List Lt), k ≤ 6 ∧ i = .int .i64 k ∧ rs.length = k ∧ Bg 3 22 1 w3 wr GB v rs k ∧ (∀ q ∈ rs, q.xs.length ≤ 16)) (fun i _ => 6 - (intOf i).toNat)
  case atStart => exact ⟨0, _, [], by omega, rfl, rfl, BG.out, by simp⟩
  case round =>
    obtain ⟨k, v, rs, hk, rfl, hrl, hbg, hrx⟩ := hrel
    have BGk := hid hbg
    have BR := hid hbg.below
    have HRL := hid hrl
    have HRX := hid hrx
    clear hbg BG hrx hrl
    by_cases hlt : k < 6
    · have hpc : wr.cell? ⟨w2.heap.size, k, none⟩ = some (.int .i64 ((plc p n).getD k 0)) := (BR.out.cell (by exact hPB)).trans (P3.out k hlt)
      obtain ⟨pk, hpk⟩ : ∃ pk, (plc p n).getD k 0 = pk := ⟨_, rfl⟩
      rw [hpk] at hpc
      clear hpk
      have BX := hid (below_late B3.out BR.out)
      have HD1 := hid (decode19 (some ⟨B, 0, none⟩) n (n + 64) zs pk wr (HK.out.later BX.out h0) (SK3.out.later BR.out (Nat.le_refl _)))
      have HD2 := hid (fun W (h : Below w.heap.size w W) => rdecode20 a n cap zs pk W (HS.out.later h (Nat.le_refl _)))
      have hdl := decV_list zs pk HS.out.2.2.2.1
      obtain ⟨V, hV⟩ : ∃ V, decV zs pk = V := ⟨_, rfl⟩
      rw [hV] at HD1 HD2 hdl
      clear hV
      obtain ⟨c, aa, l, q, x⟩ := V
      unfold DecPost at HD1 HD2
      simp only at HD1 HD2 hdl
      have HDL := hid hdl
      clear hdl
      go_wp2_with fail
      refine HD1.out.mono ?_
      rintro e w5 ⟨v1, rfl, ho1, hb5⟩
      obtain ⟨p1, hp1, hp1x, hp1r⟩ := lt_of_own ho1
      obtain ⟨va, vc, rfl, hs1⟩ := segI_own ho1 (by have := HDL.out.1; omega) HDL.out.2
      have P1 := hid hp1r
      have P1s := hid hp1
      have P1x := hid hp1x
      have S1 := hid hs1
      have B5 := hid hb5
      have hpc5 := (hb5.cell (p := ⟨w2.heap.size, k, none⟩) (block_lt_of_cell hpc)).trans hpc
      have hP5 : w2.heap.size < w5.heap.size := block_lt_of_cell hpc5
      have b6 : Below w5.heap.size w5 (w5.alloc (.cells #[.int .u8 c, .int .i64 aa, .slice va l.length vc] 24)) := (Below.refl _ _).alloc (Nat.le_refl _) _
      have B6 := hid (below_late BX.out (below_late hb5 b6))
      have HD2' := hid (HD2.out _ B6.out)
      clear ho1 hs1 hb5 HD1 HD2 hp1 hp1x hp1r
      go_wp2_with fail
      refine HD2'.out.mono ?_
      rintro e w7 ⟨v2, rfl, ho2, hb7⟩
      obtain ⟨ua, uc, rfl, hs2⟩ := segI_own ho2 (by have := HDL.out.1; omega) HDL.out.2
      have b57 := below_late b6 hb7
      have k0 : w7.cell? ⟨w5.heap.size, 0, none⟩ = some (.int .u8 c) := by rw [hb7.cell (by simp)]; simp [go_sem]
      have k1 : w7.cell? ⟨w5.heap.size, 1, none⟩ = some (.int .i64 aa) := by rw [hb7.cell (by simp)]; simp [go_sem]
      have k2 : w7.cell? ⟨w5.heap.size, 2, none⟩ = some (.slice va l.length vc) := by rw [hb7.cell (by simp)]; simp [go_sem]
      have hk7 : w5.heap.size < w7.heap.size := block_lt_of_cell k0
      have b8 : Below w7.heap.size w7 (w7.alloc (.cells #[.int .u8 c, .int .i64 aa, .slice ua l.length uc] 24)) := (Below.refl _ _).alloc (Nat.le_refl _) _
      have HQ := hid (eqIns16 c aa va ua l.length vc uc l _ ((S1.out.later b57 (Nat.le_refl _)).later b8 (Nat.le_refl _)) (hs2.later b8 (Nat.le_refl _)))
      unfold insV at HQ
      have B8 := hid (below_late b57 b8)
      have hxx : (x != x) = false := by simp
      have hqq : (q != q) = false := by simp
      clear ho2 hs2 hb7 HD2' b57 S1
      go_wp2_with fail
      refine HQ.out.mono ?_
      rintro e w9 ⟨rfl, hb9⟩
      have b59 := below_late B8.out hb9
      have hbs : Below w7.heap.size w7 w9 := below_late b8 hb9
      have m0 := (hbs.cell (p := ⟨w5.heap.size, 0, none⟩) hk7).trans k0
      have m1 := (hbs.cell (p := ⟨w5.heap.size, 1, none⟩) hk7).trans k1
      have m2 := (hbs.cell (p := ⟨w5.heap.size, 2, none⟩) hk7).trans k2
      have hbg1 := Bg.more (p := p1) (by have := BGk.out; rw [← HRL.out] at this; exact this) (below_late B5.out b59) (fun B' hB' => ⟨(P1.out B' hB').1.below b59 (Nat.le_refl _), (P1.out B' hB').2⟩)
      have HA := hid (addIns21 hbg1 (by simp) (by have := HRL.out; omega) c aa va l.length vc (by simpa using P1s.out))
      clear hb9 b59 hbs hbg1 b8 b6 k0 k1 k2 HQ
      go_wp2_with fail
      refine HA.out.mono ?_
      rintro e w10 ⟨rfl, v', hbg2⟩
      have BG2 := hid hbg2
      clear hbg2 HA
      go_wp2_with fail
      refine ⟨⟨k + 1, v', rs ++ [p1], by omega, by go_num, by simp [HRL.out], by have := BG2.out; rw [HRL.out] at this; exact this, fun q hq => ?_⟩, by simp [intOf]; omega⟩
      rcases List.mem_append.1 hq with hq | hq
      · exact HRX.out q hq
      · simp at hq
        subst hq
        rw [P1x.out]
        simp
        exact HDL.out.1
    · obtain rfl : k = 6 := by omega
      have hbg := BGk.out
      rw [← HRL.out] at hbg
      have AP := hid (apartBg hbg (by have := HRL.out; omega) (by have := HRL.out; omega) (fun q hq => by have := HRX.out q hq; omega))
      clear hbg BGk
      go_wp2_with fail
      refine AP.out.mono ?_
      rintro e w12 ⟨rfl, hb12⟩
      have B12 := hid (below_late B3.out hb12)
      have hBw3 : B < w3.heap.size := block_lt_of_cell (C3.out 0 (by omega))
      have C12 := hid (fun (j : Nat) (hj : j < n + 64) => (hb12.cell (p := ⟨B, j, none⟩) hBw3).trans (C3.out j hj))
      have HQ := hid (eq15 (some ⟨B, 0, none⟩) a n (n + 64) cap zs w12 (SK3.out.later hb12 (Nat.le_refl _)) (HS.out.later B12.out (Nat.le_refl _)))
      clear hb12 AP
      go_wp2_with fail
      refine HQ.out.mono ?_
      rintro e w13 ⟨rfl, m, hw13⟩
      have hb13 : Below w12.heap.size w12 w13 := by rw [hw13]; exact below_drewN (Below.refl _ _) m
      have hBw12 : B < w12.heap.size := block_lt_of_cell (C12.out 0 (by omega))
      have HSP := hid (spare16 B n zs w13 HS.out.1 hsm (fun j hj => (hb13.cell (p := ⟨B, j, none⟩) hBw12).trans (C12.out j hj)))
      have B13 := hid (below_late B12.out hb13)
      clear hw13 hb13 HQ
      go_wp2_with fail
      refine HSP.out.mono ?_
      rintro e w14 ⟨rfl, rfl⟩
      go_wp2_with fail
      go_ret
      exact ⟨rfl, B13.out⟩
end Go.Proofs.YtgljlclnmnfocaaDoor
