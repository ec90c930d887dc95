/-
  The walk over TypesAsk: true, whatever the byte, the text, the signature and the values.
-/
import Derived.Test.YtdlpbldpddobcaaDoorAskA
namespace Go.Proofs.YtdlpbldpddobcaaDoor
open Go.RowKit
set_option linter.unusedVariables false

theorem e17 : Array.replicate 17 (Value.slice none 0 0) = #[.slice none 0 0, .slice none 0 0, .slice none 0 0, .slice none 0 0, .slice none 0 0, .slice none 0 0, .slice none 0 0, .slice none 0 0, .slice none 0 0, .slice none 0 0, .slice none 0 0, .slice none 0 0, .slice none 0 0, .slice none 0 0, .slice none 0 0, .slice none 0 0, .slice none 0 0] := rfl
theorem segW_nil {w : World} : SegW w none 0 0 [] := ⟨rfl, Nat.le_refl _, by omega, by simp, .inl rfl⟩
theorem below_then {w w1 w2 : World} (h1 : Below w.heap.size w w1) (h2 : Below w1.heap.size w1 w2) : Below w.heap.size w w2 := h1.trans (h2.mono h1.size)

set_option maxRecDepth 100000 in
set_option maxHeartbeats 4000000 in
theorem ask3 (c : Int) (s p r : ByteArray) (a : Option Addr) (n cap : Nat) (zs : List Int) (w : World) (hm : MaxOk w) (hsum : s.size + p.size + r.size + n ≤ 1048576) (hv : SegW w a n cap zs) :
    Calls Tryd.prog 3 #[.int .u8 c, .string s, .agg #[.string p, .string r], .slice a n cap] w fun e w' => e = .returned (.bool true) ∧ Below w.heap.size w w' := by
  have hb0 : Below w.heap.size w (w.alloc (.cells #[.string p, .string r] 23)) := (Below.refl _ _).alloc (Nat.le_refl _) _
  have hm0 := hm.later hb0 (Nat.le_refl _)
  have k0 : (w.alloc (.cells #[.string p, .string r] 23)).cell? ⟨w.heap.size, 0, none⟩ = some (.string p) := by rw [World.cell?_alloc_at _ _ _ _ rfl]; rfl
  have k1 : (w.alloc (.cells #[.string p, .string r] 23)).cell? ⟨w.heap.size, 1, none⟩ = some (.string r) := by rw [World.cell?_alloc_at _ _ _ _ rfl]; rfl
  have HW := hid (works5 (w.alloc (.cells #[.string p, .string r] 23)) hm0)
  have q1 : (s.size : Int) + p.size + r.size + n ≤ 1048576 := by omega
  have hz := hv.1
  have hzr := hv.2.2.2.1
  have ZR := hid hzr
  have S0 := hid (hv.later hb0 (Nat.le_refl _))
  clear hzr hv
  go_enter Tryd.func3, Tryd.ntmps3
  go_wp2_with fail
  refine HW.out.mono ?_
  rintro e w1 ⟨rfl, hb1⟩
  have S1 := hid (S0.out.later hb1 (Nat.le_refl _))
  have x0 : w1.cell? ⟨w.heap.size, 0, none⟩ = some (.string p) := (hb1.cell (by simp)).trans k0
  have x1 : w1.cell? ⟨w.heap.size, 1, none⟩ = some (.string r) := (hb1.cell (by simp)).trans k1
  have B1 := hid (below_then hb0 hb1)
  clear hb0 hb1 HW S0 k0 k1 hm hm0
  go_wp2_with fail
  refine (wide5 a n cap zs w1 S1.out (by omega)).mono ?_
  rintro e w2 ⟨rfl, hck, hb2, hlt2⟩
  have hl1 : w.heap.size < w1.heap.size := block_lt_of_cell x0
  have y0 : w2.cell? ⟨w.heap.size, 0, none⟩ = some (.string p) := (hb2.cell (by simpa using hl1)).trans x0
  have y1 : w2.cell? ⟨w.heap.size, 1, none⟩ = some (.string r) := (hb2.cell (by simpa using hl1)).trans x1
  have S2 := hid (S1.out.later hb2 (Nat.le_refl _))
  have K2 := hid (segW_wide hz (by omega) ZR.out hck)
  have CK := hid hck
  have B2 := hid (below_then B1.out hb2)
  clear hb2 hck x0 x1 S1 B1
  go_wp2_with fail
  have sz1 : s.size ≤ 1073741824 := by omega
  have sz2 : p.size ≤ 1073741824 := by omega
  have sz3 : r.size ≤ 1073741824 := by omega
  go_region_held3 (fun W => W.cell? ⟨w.heap.size, 0, none⟩ = some (.string p) ∧ W.cell? ⟨w.heap.size, 1, none⟩ = some (.string r) ∧ Below w2.heap.size w2 W)
    (first | assumption | (refine held_later ?_ ?_ <;> assumption) | (exact ⟨y0, y1, (Below.refl _ _).drew⟩))
    (first
      | (go_at_call 6; refine (letter25 _ _).mono ?_; rintro e w' ⟨rfl, rfl⟩)
      | (go_at_call 7; refine (letter27 _ _).mono ?_; rintro e w' ⟨rfl, rfl⟩)
      | (go_at_call 8; refine (shape11 s _ sz1).mono ?_; rintro e w' ⟨rfl, hbx⟩; have hS' := held_later (X := w.heap.size) (p := p) (r := r) (w2 := w2) hbx (by assumption); clear hbx)
      | (go_at_call 9; refine (shape9 s _ sz1).mono ?_; rintro e w' ⟨rfl, hbx⟩; have hS' := held_later (X := w.heap.size) (p := p) (r := r) (w2 := w2) hbx (by assumption); clear hbx)
      | (go_at_call 10; refine (sig14 p r _ sz2 sz3).mono ?_; rintro e w' ⟨rfl, hbx⟩; have hS' := held_later (X := w.heap.size) (p := p) (r := r) (w2 := w2) hbx (by assumption); clear hbx)
      | (go_at_call 11; refine (sig16 p r _ sz2 sz3).mono ?_; rintro e w' ⟨rfl, hbx⟩; have hS' := held_later (X := w.heap.size) (p := p) (r := r) (w2 := w2) hbx (by assumption); clear hbx)
      | (go_at_call 12; refine (all10 _ _ _ zs s _ (held_seg K2.out (by assumption)) sz1).mono ?_; rintro e w' ⟨rfl, hbx⟩; have hS' := held_later (X := w.heap.size) (p := p) (r := r) (w2 := w2) hbx (by assumption); clear hbx)
      | (go_at_call 13; refine (all13 _ _ _ zs s _ (held_seg S2.out (by assumption)) sz1).mono ?_; rintro e w' ⟨rfl, hbx⟩; have hS' := held_later (X := w.heap.size) (p := p) (r := r) (w2 := w2) hbx (by assumption); clear hbx))
  have B3 := hid hS'.2.2
  have S3 := hid (S2.out.later B3.out (Nat.le_refl _))
  have H3 := hid (B2.out.trans (B3.out.mono B2.out.size))
  have hlt3 : w1.heap.size < w'.heap.size := Nat.lt_of_lt_of_le hlt2 B3.out.size
  have CK3 := hid (fun (j : Nat) (hj : j < n + 64) => ((B3.out.cell (p := ⟨w1.heap.size, j, none⟩) (by simpa using hlt2)).trans (CK.out j hj)))
  clear CK S2 B2 B3 K2 hS' y0 y1 hl1 hlt2
  go_wp2_with fail
  go_loopw [11] (fun i wr => ∃ k m : Nat, k ≤ n ∧ i = .int .i64 k ∧ wr = w'.drewN m) (fun i _ => n - (intOf i).toNat)
  case atStart => exact ⟨0, 0, by omega, rfl, rfl⟩
  case round =>
    obtain ⟨k, m, hk, rfl, rfl⟩ := hrel
    have SQ := hid (S3.out.later (below_drewN (Below.refl w'.heap.size w') m) (Nat.le_refl _))
    by_cases hlt : k < n
    · rcases SQ.out.2.2.2.2 with h0 | ⟨b, off, rfl, hc⟩
      · omega
      have g1 := hc k hlt
      clear hc
      obtain ⟨wq, hq⟩ : ∃ wq, wq = w'.drewN m := ⟨_, rfl⟩
      rw [← hq] at g1 ⊢
      have HQ := hid hq
      clear hq SQ S3 CK3
      have hlt' : (k : Int) < (n : Int) := by omega
      go_wp2_with fail
      go_quiet (first | (go_at_call 14; refine Calls.quiet_of_same (fits13 _ _ _)) | (go_at_call 15; refine Calls.quiet_of_same (fits15 _ _ _)))
      go_wp2_with fail
      exact ⟨⟨k + 1, m + nq, by omega, by go_num, by rw [HQ.out]; simp [World.drewN_drewN]⟩, by simp [intOf]; omega⟩
    · have hbq : Below w'.heap.size w' (w'.drewN m) := below_drewN (Below.refl _ _) m
      have H4 := hid (H3.out.trans (hbq.mono H3.out.size))
      have CK4 := hid (fun (j : Nat) (hj : j < n + 64) => ((hbq.cell (p := ⟨w1.heap.size, j, none⟩) (by simpa using hlt3)).trans (CK3.out j hj)))
      have hlt4 : w1.heap.size < (w'.drewN m).heap.size := by simpa using hlt3
      obtain ⟨w3, hq⟩ : ∃ wq, wq = w'.drewN m := ⟨_, rfl⟩
      rw [← hq] at SQ H4 CK4 hlt4 ⊢
      clear hq hbq H3 CK3 S3 hlt3
      cases hl : lett s s.size
      · go_wp2_with fail
        refine (zero12_none s w3 sz1 hl).mono ?_
        rintro e w4 ⟨rfl, hb4⟩
        go_wp2_with fail
        refine (zero12_none s w4 sz1 hl).mono ?_
        rintro e w5 ⟨rfl, hb5⟩
        have hbg := newBg (e := 32) (es := 24) (c := 3) (w0 := w3) (rs := [⟨none, [], 0⟩, ⟨none, [], 0⟩]) (below_then hb4 hb5) (by decide) (fun p hp B hB => by
          simp only [List.mem_cons, List.not_mem_nil, or_false, or_self] at hp
          subst hp; cases hB) (fun i j hi hj B h1 h2 => by
          simp at hi hj
          rcases (show i = 0 ∨ i = 1 by omega) with rfl | rfl <;> cases h1) w5.heap.size rfl 53
        rw [e17] at hbg
        have BG := hid hbg
        clear hbg hb4 hb5
        go_wp2_with fail
        generalize w5.alloc (.cells #[.slice none 0 0, .slice none 0 0, .slice none 0 0, .slice none 0 0, .slice none 0 0, .slice none 0 0, .slice none 0 0, .slice none 0 0, .slice none 0 0, .slice none 0 0, .slice none 0 0, .slice none 0 0, .slice none 0 0, .slice none 0 0, .slice none 0 0, .slice none 0 0, .slice none 0 0] 53) = w6 at BG ⊢
        refine (addBg BG.out (by simp) (by omega) _ rfl).mono ?_
        rintro e w7 ⟨rfl, v7, hbg7⟩
        have BG7 := hid hbg7
        clear hbg7 BG
        go_wp2_with fail
        refine (addBg BG7.out (by simp) (by omega) _ rfl).mono ?_
        rintro e w8 ⟨rfl, v8, hbg8⟩
        have BG8 := hid hbg8
        clear hbg8 BG7
        go_wp2_with fail
        refine (zero19_none s w8 sz1 hl).mono ?_
        rintro e w9 ⟨rfl, hb9⟩
        have BG9 := hid (BG8.out.later hb9)
        clear hb9 BG8
        go_wp2_with fail
        refine (eq18 none none 0 0 0 [] w9 segW_nil segW_nil).mono ?_
        rintro e w10 ⟨rfl, hb10⟩
        have BG10 := hid (BG9.out.later hb10)
        clear hb10 BG9
        go_wp2_with fail
        refine (eq18 none none 0 0 0 [] w10 segW_nil segW_nil).mono ?_
        rintro e w11 ⟨rfl, hb11⟩
        have BG11 := hid (BG10.out.later hb11)
        clear hb11 BG10
        have AP := hid (apartBg BG11.out (by simp) (by simp) (by
          intro p hp
          simp only [List.mem_cons, List.not_mem_nil, or_false, or_self] at hp
          subst hp; simp))
        clear BG11
        go_wp2_with fail
        refine AP.out.mono ?_
        rintro e w12 ⟨rfl, hb12⟩
        have CK12 := fun (j : Nat) (hj : j < n + 64) => (hb12.cell (p := ⟨w1.heap.size, j, none⟩) (by simpa using hlt4)).trans (CK4.out j hj)
        have S12 := hid (SQ.out.later hb12 (Nat.le_refl _))
        have K12 := hid (segW_wide hz (by omega) ZR.out CK12)
        have B12 := hid (H4.out.trans (hb12.mono H4.out.size))
        have C12 := hid CK12
        have hlt5 : w1.heap.size < w12.heap.size := Nat.lt_of_lt_of_le hlt4 hb12.size
        clear hb12 CK12 AP
        go_wp2_with fail
        refine (eq18 (some ⟨w1.heap.size, 0, none⟩) a n (n + 64) cap zs w12 K12.out S12.out).mono ?_
        rintro e w13 ⟨rfl, hb13⟩
        have C13 := hid (fun (j : Nat) (hj : j < n + 64) => (hb13.cell (p := ⟨w1.heap.size, j, none⟩) (by simpa using hlt5)).trans (C12.out j hj))
        have B13 := hid (below_then B12.out hb13)
        clear hb13 C12 K12 S12 B12
        go_wp2_with fail
        refine (spare21 w1.heap.size n zs w13 hz (by omega) C13.out).mono ?_
        rintro e w14 ⟨rfl, rfl⟩
        go_wp2
        go_ret
        exact ⟨by rfl, B13.out⟩
      · have Z0 := zeros_range s.size
        have ZR0 := hid Z0
        clear Z0
        go_wp2_with fail
        refine (zero12 s w3 sz1 hl).mono ?_
        rintro e w4 ⟨A1, rfl, ha1, ho1, hb4⟩
        have R1 := hid (Row.of ho1)
        have hA1 : A1 < w4.heap.size := R1.out.lt
        have B4 := hid hb4
        clear ho1 hb4
        go_wp2_with fail
        refine (zero12 s w4 sz1 hl).mono ?_
        rintro e w5 ⟨A2, rfl, ha2, ho2, hb5⟩
        have R2 := hid (Row.of ho2)
        have R1' := hid (R1.out.below hb5 (Nat.le_refl _))
        have B5 := hid (below_then B4.out hb5)
        clear ho2 hb5 R1
        have hz4 := B4.out.size
        have hln : ((List.replicate s.size (0 : Int)).map (Value.int .u64)).length = s.size := by simp
        have hbg := newBg (e := 32) (es := 24) (c := 3) (w0 := w3) (rs := [⟨some A1, (List.replicate s.size (0 : Int)).map (Value.int .u64), s.size⟩, ⟨some A2, (List.replicate s.size (0 : Int)).map (Value.int .u64), s.size⟩]) B5.out (by decide) (fun p hp B hB => by
          simp only [List.mem_cons, List.not_mem_nil, or_false] at hp
          rcases hp with rfl | rfl
          · cases hB; exact ⟨by rw [hln]; exact R1'.out, ha1⟩
          · cases hB; exact ⟨by rw [hln]; exact R2.out, by omega⟩) (fun i j hi hj B h1 h2 => by
          simp at hi hj
          rcases (show i = 0 ∨ i = 1 by omega) with rfl | rfl <;> rcases (show j = 0 ∨ j = 1 by omega) with rfl | rfl <;> simp at h1 h2 <;> omega) w5.heap.size rfl 53
        rw [e17] at hbg
        have BG := hid hbg
        have HLN := hid hln
        clear hbg hln R1' R2 B4 B5
        go_wp2_with fail
        generalize w5.alloc (.cells #[.slice none 0 0, .slice none 0 0, .slice none 0 0, .slice none 0 0, .slice none 0 0, .slice none 0 0, .slice none 0 0, .slice none 0 0, .slice none 0 0, .slice none 0 0, .slice none 0 0, .slice none 0 0, .slice none 0 0, .slice none 0 0, .slice none 0 0, .slice none 0 0, .slice none 0 0] 53) = w6 at BG ⊢
        refine (addBg BG.out (by simp) (by omega) _ (by simp only [Lt.sl, List.getElem_cons_zero, HLN.out])).mono ?_
        rintro e w7 ⟨rfl, v7, hbg7⟩
        have BG7 := hid hbg7
        clear hbg7 BG
        go_wp2_with fail
        refine (addBg BG7.out (by simp) (by omega) _ (by simp only [Lt.sl, List.getElem_cons_succ, List.getElem_cons_zero, HLN.out])).mono ?_
        rintro e w8 ⟨rfl, v8, hbg8⟩
        have BG8 := hid hbg8
        clear hbg8 BG7
        go_wp2_with fail
        refine (zero19 s w8 sz1 hl).mono ?_
        rintro e w9 ⟨A3, rfl, ha3, ho3, hb9⟩
        have BG9 := hid (BG8.out.later hb9)
        have SZ9 := hid (segW_row (Row.of ho3) (by omega) ZR0.out)
        have SA9 := hid (segW_row (zs := List.replicate s.size (0 : Int)) (by have := (BG9.out.rows ⟨some A1, (List.replicate s.size (0 : Int)).map (Value.int .u64), s.size⟩ (by simp) A1 rfl).1; rw [HLN.out] at this; exact this) (by omega) ZR0.out)
        clear hb9 ho3 BG8
        go_wp2_with fail
        refine (eq18 (some ⟨A1, 0, none⟩) (some ⟨A3, 0, none⟩) s.size s.size s.size _ w9 SA9.out SZ9.out).mono ?_
        rintro e w10 ⟨rfl, hb10⟩
        have BG10 := hid (BG9.out.later hb10)
        have SA10 := hid (SA9.out.later hb10 (Nat.le_refl _))
        have SB10 := hid (segW_row (zs := List.replicate s.size (0 : Int)) (by have := (BG10.out.rows ⟨some A2, (List.replicate s.size (0 : Int)).map (Value.int .u64), s.size⟩ (by simp) A2 rfl).1; rw [HLN.out] at this; exact this) (by omega) ZR0.out)
        clear hb10 BG9 SA9 SZ9
        go_wp2_with fail
        refine (eq18 (some ⟨A2, 0, none⟩) (some ⟨A1, 0, none⟩) s.size s.size s.size _ w10 SB10.out SA10.out).mono ?_
        rintro e w11 ⟨rfl, hb11⟩
        have BG11 := hid (BG10.out.later hb11)
        clear hb11 BG10 SA10 SB10
        have AP := hid (apartBg BG11.out (by simp) (by simp) (by
          intro p hp
          simp only [List.mem_cons, List.not_mem_nil, or_false] at hp
          rcases hp with rfl | rfl <;> simp only [HLN.out] <;> omega))
        clear BG11
        go_wp2_with fail
        refine AP.out.mono ?_
        rintro e w12 ⟨rfl, hb12⟩
        have CK12 := fun (j : Nat) (hj : j < n + 64) => (hb12.cell (p := ⟨w1.heap.size, j, none⟩) (by simpa using hlt4)).trans (CK4.out j hj)
        have S12 := hid (SQ.out.later hb12 (Nat.le_refl _))
        have K12 := hid (segW_wide hz (by omega) ZR.out CK12)
        have B12 := hid (H4.out.trans (hb12.mono H4.out.size))
        have C12 := hid CK12
        have hlt5 : w1.heap.size < w12.heap.size := Nat.lt_of_lt_of_le hlt4 hb12.size
        clear hb12 CK12 AP
        go_wp2_with fail
        refine (eq18 (some ⟨w1.heap.size, 0, none⟩) a n (n + 64) cap zs w12 K12.out S12.out).mono ?_
        rintro e w13 ⟨rfl, hb13⟩
        have C13 := hid (fun (j : Nat) (hj : j < n + 64) => (hb13.cell (p := ⟨w1.heap.size, j, none⟩) (by simpa using hlt5)).trans (C12.out j hj))
        have B13 := hid (below_then B12.out hb13)
        clear hb13 C12 K12 S12 B12
        go_wp2_with fail
        refine (spare21 w1.heap.size n zs w13 hz (by omega) C13.out).mono ?_
        rintro e w14 ⟨rfl, rfl⟩
        go_wp2
        go_ret
        exact ⟨by rfl, B13.out⟩

set_option maxRecDepth 100000 in
set_option maxHeartbeats 1000000 in
/-- What is too long is let go. -/
theorem ask3_big (c : Int) (s p r : ByteArray) (a : Option Addr) (n cap : Nat) (w : World) (hm : MaxOk w) (hsum : 1048576 < s.size + p.size + r.size + n) (z1 : s.size ≤ 140737488355328) (z2 : p.size ≤ 140737488355328) (z3 : r.size ≤ 140737488355328) (z4 : n ≤ 140737488355328) :
    Calls Tryd.prog 3 #[.int .u8 c, .string s, .agg #[.string p, .string r], .slice a n cap] w fun e w' => e = .returned (.bool true) ∧ Below w.heap.size w w' := by
  have hb0 : Below w.heap.size w (w.alloc (.cells #[.string p, .string r] 23)) := (Below.refl _ _).alloc (Nat.le_refl _) _
  have hm0 := hm.later hb0 (Nat.le_refl _)
  have k0 : (w.alloc (.cells #[.string p, .string r] 23)).cell? ⟨w.heap.size, 0, none⟩ = some (.string p) := by rw [World.cell?_alloc_at _ _ _ _ rfl]; rfl
  have k1 : (w.alloc (.cells #[.string p, .string r] 23)).cell? ⟨w.heap.size, 1, none⟩ = some (.string r) := by rw [World.cell?_alloc_at _ _ _ _ rfl]; rfl
  have HW := hid (works5 (w.alloc (.cells #[.string p, .string r] 23)) hm0)
  have q1 : (1048576 : Int) < (s.size : Int) + p.size + r.size + n := by omega
  go_enter Tryd.func3, Tryd.ntmps3
  go_wp2_with fail
  refine HW.out.mono ?_
  rintro e w1 ⟨rfl, hb1⟩
  have x0 : w1.cell? ⟨w.heap.size, 0, none⟩ = some (.string p) := (hb1.cell (by simp)).trans k0
  have x1 : w1.cell? ⟨w.heap.size, 1, none⟩ = some (.string r) := (hb1.cell (by simp)).trans k1
  have B1 := hid (below_then hb0 hb1)
  clear hb0 hb1 HW k0 k1 hm hm0
  go_wp2
  go_ret
  exact ⟨rfl, B1.out⟩

end Go.Proofs.YtdlpbldpddobcaaDoor
