/-
  The walk over OpsWords: every text finds the opcode of that word, or none; all opcodes are told, in new memory.
-/
import Derived.Test.YtmbbmlchbnjoiaaDoorWorks
import Derived.Test.YtmbbmlchbnjoiaaDoorRefB
import Derived.Test.YtmbbmlchbnjoiaaDoorBagBytes
namespace Go.Proofs.YtmbbmlchbnjoiaaDoor
open Go.RowKit
set_option linter.unusedVariables false

theorem newBg {e es : TypeId} {c : Nat} {w0 w : World} {rs : List Lt} (hb : Below w0.heap.size w0 w) (hc : c ≤ 16) (hr : ∀ p ∈ rs, ∀ B, p.b = some B → Row w e B p.xs.length p.cap p.xs ∧ w0.heap.size ≤ B)
    (hinj : ∀ i j (hi : i < rs.length) (hj : j < rs.length) B, (rs[i]).b = some B → (rs[j]).b = some B → i = j) (B : Nat) (hB : w.heap.size = B) (t : TypeId) :
    Bg e es c w0 (w.alloc (.cells (Array.replicate 17 (.slice none 0 0)) t)) B (.slice none 0 0) rs 0 := by
  subst hB
  have ha : Below w.heap.size w (w.alloc (.cells (Array.replicate 17 (.slice none 0 0)) t)) := (Below.refl _ _).alloc (Nat.le_refl _) _
  have hcell : ∀ j, j ≤ 16 → (w.alloc (.cells (Array.replicate 17 (.slice none 0 0)) t)).cell? ⟨w.heap.size, j, none⟩ = some (.slice none 0 0) := by
    intro j hj
    rw [World.cell?_alloc_new, Array.getElem?_eq_getElem (by simp; omega)]
    simp
  refine ⟨hb.trans (ha.mono hb.size), hb.size, hcell c hc, ?_, fun j h1 _ => hcell j h1, World.ownsRow_nil _ _ _ _, by simp [Value.ownBlock], fun b hb => by simp [Value.ownBlock] at hb, fun p hp B hB => ?_, hinj⟩
  · simp
  · have h := hr p hp B hB
    have := h.1.lt
    exact ⟨h.1.below ha (Nat.le_refl _), by omega, h.2⟩

theorem e17 : Array.replicate 17 (Value.slice none 0 0) = #[.slice none 0 0, .slice none 0 0, .slice none 0 0, .slice none 0 0, .slice none 0 0, .slice none 0 0, .slice none 0 0, .slice none 0 0, .slice none 0 0, .slice none 0 0, .slice none 0 0, .slice none 0 0, .slice none 0 0, .slice none 0 0, .slice none 0 0, .slice none 0 0, .slice none 0 0] := rfl
theorem below_then {w w1 w2 : World} (h1 : Below w.heap.size w w1) (h2 : Below w1.heap.size w1 w2) : Below w.heap.size w w2 := h1.trans (h2.mono h1.size)
theorem row_cells {w : World} {B n cap : Nat} {zs : List Int} (h : Row w 5 B n cap (zs.map (Value.int .u8))) (hz : zs.length = n) : ∀ j, j < n → w.cell? ⟨B, j, none⟩ = some (.int .u8 (zs.getD j 0)) := fun j hj => by
  rw [h.cell j hj]
  simp [List.getD, hz, hj]

set_option maxRecDepth 100000 in
set_option maxHeartbeats 4000000 in
theorem opsWords4 (s : ByteArray) (w : World) (hk : KindsOk w) : Calls Tryd.prog 4 #[.string s] w fun e w' => e = .returned (.bool true) ∧ Below w.heap.size w w' := by
  have hp := hk.pos
  have hfind := fun W hW => find10 s W hW
  have hrf := refFind11 s
  rw [← find_same s] at hrf
  obtain ⟨V, hV⟩ : ∃ V, findP s = V := ⟨_, rfl⟩
  rw [hV] at hfind hrf
  clear hV
  obtain ⟨r1, r2⟩ := V
  have hall := all12
  have hrall := refAll15
  rw [all_same] at hrall
  have hal := wk_all
  generalize opsTo 7 = al at hall hrall hal
  have HF := hid hfind
  have HRF := hid hrf
  have HA := hid hall
  have HRA := hid hrall
  have HAL := hid hal
  clear hfind hrf hall hrall
  have hml : (al.map (Value.int .u8)).length = 90 := by rw [List.length_map]; exact hal
  have HML := hid hml
  clear hml hal
  by_cases hbig : (1048576 : Int) < s.size
  · go_enter Tryd.func4, Tryd.ntmps4
    go_wp2_with fail
    refine (works9 w hk).mono ?_
    rintro e w1 ⟨rfl, hb1⟩
    have B1 := hid hb1
    clear hb1
    go_wp2_with fail
    go_ret
    exact ⟨rfl, B1.out⟩
  go_enter Tryd.func4, Tryd.ntmps4
  go_wp2_with fail
  refine (works9 w hk).mono ?_
  rintro e w1 ⟨rfl, hb1⟩
  have B1 := hid hb1
  clear hb1
  go_wp2_with fail
  refine (HF.out w1 (hk.later B1.out hp)).mono ?_
  rintro e w2 ⟨rfl, hb2⟩
  have B2 := hid (below_then B1.out hb2)
  clear hb2 B1 HF
  go_wp2_with fail
  refine (HRF.out w2).mono ?_
  rintro e w3 ⟨rfl, hb3⟩
  have B3 := hid (below_then B2.out hb3)
  clear hb3 B2 HRF
  go_wp2_with fail
  refine (HA.out w3 (hk.later B3.out hp)).mono ?_
  rintro e w4 ⟨v1, rfl, hm1, hb4⟩
  obtain ⟨A1, cap1, rfl, hr1, ha1, _⟩ := hm1.cells (by rw [HAL.out]; decide)
  rw [HAL.out] at hr1 ⊢
  have R1 := hid hr1
  have B4 := hid hb4
  have hz3 := B3.out.size
  clear hm1 hr1 hb4
  go_wp2_with fail
  refine (HA.out w4 (hk.later (below_then B3.out B4.out) hp)).mono ?_
  rintro e w5 ⟨v2, rfl, hm2, hb5⟩
  obtain ⟨A2, cap2, rfl, hr2, ha2, _⟩ := hm2.cells (by rw [HAL.out]; decide)
  rw [HAL.out] at hr2 ⊢
  have hz4 := B4.out.size
  have hbg := newBg (e := 5) (es := 34) (c := 0) (w0 := w3) (rs := [⟨some A1, al.map (Value.int .u8), cap1⟩, ⟨some A2, al.map (Value.int .u8), cap2⟩]) (below_then B4.out hb5) (by decide) (fun p hp B hB => by
    simp only [List.mem_cons, List.not_mem_nil, or_false] at hp
    rcases hp with rfl | rfl
    · cases hB; exact ⟨by rw [HML.out]; exact R1.out.below hb5 (Nat.le_refl _), ha1⟩
    · cases hB; exact ⟨by rw [HML.out]; exact hr2, by omega⟩) (fun i j hi hj B h1 h2 => by
    have := R1.out.lt
    simp at hi hj
    rcases (show i = 0 ∨ i = 1 by omega) with rfl | rfl <;> rcases (show j = 0 ∨ j = 1 by omega) with rfl | rfl <;> simp at h1 h2 <;> omega) w5.heap.size rfl 55
  rw [e17] at hbg
  have BG := hid hbg
  clear hbg R1 hr2 hm2 hb5 B4 HA
  go_wp2_with fail
  generalize w5.alloc (.cells #[.slice none 0 0, .slice none 0 0, .slice none 0 0, .slice none 0 0, .slice none 0 0, .slice none 0 0, .slice none 0 0, .slice none 0 0, .slice none 0 0, .slice none 0 0, .slice none 0 0, .slice none 0 0, .slice none 0 0, .slice none 0 0, .slice none 0 0, .slice none 0 0, .slice none 0 0] 55) = w6 at BG ⊢
  refine (addBg BG.out (by simp) (by omega) _ (by simp only [Lt.sl, List.getElem_cons_zero, HML.out])).mono ?_
  rintro e w7 ⟨rfl, v7, hbg7⟩
  have BG7 := hid hbg7
  clear hbg7 BG
  go_wp2_with fail
  refine (addBg BG7.out (by simp) (by omega) _ (by simp only [Lt.sl, List.getElem_cons_succ, List.getElem_cons_zero, HML.out])).mono ?_
  rintro e w8 ⟨rfl, v8, hbg8⟩
  have BG8 := hid hbg8
  clear hbg8 BG7
  go_wp2_with fail
  refine (HRA.out w8).mono ?_
  rintro e w9 ⟨v3, rfl, hm3, hb9⟩
  obtain ⟨A3, cap3, rfl, hr3, _, hc3⟩ := hm3.cells (by rw [HAL.out]; decide)
  rw [HAL.out] at hr3 hc3 ⊢
  have BG9 := hid (BG8.out.later hb9)
  have C3 := hid hc3
  have C1 := hid (row_cells (n := 90) (by have := (BG9.out.rows ⟨some A1, al.map (Value.int .u8), cap1⟩ (by simp) A1 rfl).1; rw [HML.out] at this; exact this) HAL.out)
  clear hb9 hr3 hc3 hm3 BG8 HRA
  go_wp2_with fail
  refine (eq14 A1 A3 90 cap1 cap3 al w9 HAL.out (by omega) C1.out C3.out).mono ?_
  rintro e w10 ⟨rfl, m10, rfl⟩
  have BG10 := hid (BG9.out.later (below_drewN (Below.refl _ w9) m10))
  have D1 := hid (row_cells (n := 90) (by have := (BG10.out.rows ⟨some A1, al.map (Value.int .u8), cap1⟩ (by simp) A1 rfl).1; rw [HML.out] at this; exact this) HAL.out)
  have D2 := hid (row_cells (n := 90) (by have := (BG10.out.rows ⟨some A2, al.map (Value.int .u8), cap2⟩ (by simp) A2 rfl).1; rw [HML.out] at this; exact this) HAL.out)
  clear BG9 C1 C3
  go_wp2_with fail
  refine (eq14 A2 A1 90 cap2 cap1 al _ HAL.out (by omega) D2.out D1.out).mono ?_
  rintro e w11 ⟨rfl, m11, hw11⟩
  have BG11 := hid (BG10.out.later (w' := w11) (by rw [hw11]; exact below_drewN (Below.refl _ _) m11))
  clear hw11
  have AP := hid (apartBg BG11.out (by simp) (by simp) (by
    intro p hp
    simp only [List.mem_cons, List.not_mem_nil, or_false] at hp
    rcases hp with rfl | rfl <;> simp only [HML.out] <;> omega))
  clear BG10 BG11 D1 D2
  go_wp2_with fail
  refine AP.out.mono ?_
  rintro e w12 ⟨rfl, hb12⟩
  have B12 := hid (B3.out.trans (hb12.mono B3.out.size))
  clear hb12 AP
  go_wp2_with fail
  go_ret
  exact ⟨by simp, B12.out⟩
end Go.Proofs.YtmbbmlchbnjoiaaDoor
