/-
  The walks over what asks for a text's end: strings.HasSuffix, strings.CutSuffix, and the document's Ends.
-/
import Derived.Test.YtngcidcfmolahaaEach
namespace Go.Proofs.Ytngcidcfmolahaa
open Go.RowKit
set_option linter.unusedVariables false

/-- Does s end with t? -/
def ends (s t : ByteArray) : Bool := decide (t.size ≤ s.size) && ((s.extract (s.size - t.size) s.size).toList == t.toList)
/-- What lies below t. -/
def below (s t : ByteArray) : ByteArray := s.extract 0 (s.size - t.size)

theorem sub_wrap {a b : Nat} (h : b ≤ a) (ha : a ≤ 9223372036854775807) : ((a : Int) - (b : Int) + 9223372036854775808) % 18446744073709551616 - 9223372036854775808 = ((a - b : Nat) : Int) := by omega

/-- internal/stringslite.HasSuffix. -/
theorem has22 (s p : ByteArray) (w : World) (hs : s.size ≤ 9223372036854775807) :
    Calls Try.prog 22 #[.string s, .string p] w fun e w' => e = .returned (.bool (ends s p)) ∧ w' = w := by
  have hlo : p.size ≤ s.size → ((s.size : Int) - (p.size : Int) + 9223372036854775808) % 18446744073709551616 - 9223372036854775808 = ((s.size - p.size : Nat) : Int) := fun _ => by omega
  go_enter Try.func22, Try.ntmps22
  go_wp2
  · have h : p.size ≤ s.size := by assumption
    go_ret
    refine ⟨?_, rfl⟩
    show Ending.returned (Value.bool ((s.extract (s.size - p.size) s.size).toList == p.toList)) = _
    simp [h, ends]
  · have h : ¬ p.size ≤ s.size := by assumption
    go_ret
    refine ⟨?_, rfl⟩
    show Ending.returned (Value.bool false) = _
    simp [h, ends]

/-- The document's Ends. -/
theorem ends17 (s p : ByteArray) (w : World) (hs : s.size ≤ 9223372036854775807) :
    Calls Try.prog 17 #[.string s, .string p] w fun e w' => e = .returned (.bool (ends s p)) ∧ w' = w := by
  have hlo : p.size ≤ s.size → ((s.size : Int) - (p.size : Int) + 9223372036854775808) % 18446744073709551616 - 9223372036854775808 = ((s.size - p.size : Nat) : Int) := fun _ => by omega
  go_enter Try.func17, Try.ntmps17
  go_wp2
  · have h : p.size ≤ s.size := by assumption
    go_ret
    refine ⟨?_, rfl⟩
    show Ending.returned (Value.bool ((s.extract (s.size - p.size) s.size).toList == p.toList)) = _
    simp [h, ends]
  · have h : ¬ p.size ≤ s.size := by assumption
    go_ret
    refine ⟨?_, rfl⟩
    show Ending.returned (Value.bool false) = _
    simp [h, ends]

/-- strings.HasSuffix. -/
theorem has18 (s p : ByteArray) (w : World) (hs : s.size ≤ 9223372036854775807) :
    Calls Try.prog 18 #[.string s, .string p] w fun e w' => e = .returned (.bool (ends s p)) ∧ w' = w := by
  have HE := hid (has22 s p w hs)
  go_enter Try.func18, Try.ntmps18
  go_wp2_with fail
  refine HE.out.mono ?_
  rintro e w1 ⟨rfl, rfl⟩
  go_wp2
  go_ret
  exact ⟨rfl, rfl⟩

/-- internal/stringslite.CutSuffix. -/
theorem cut21 (s p : ByteArray) (w : World) (hs : s.size ≤ 9223372036854775807) :
    Calls Try.prog 21 #[.string s, .string p] w fun e w' => e = .returned (.tuple #[.string (if ends s p = true then below s p else s), .bool (ends s p)]) ∧ w' = w := by
  have HE := hid (has22 s p w hs)
  cases hh : ends s p
  · rw [hh] at HE
    go_enter Try.func21, Try.ntmps21
    go_wp2_with fail
    refine HE.out.mono ?_
    rintro e w1 ⟨rfl, rfl⟩
    go_wp2
    go_ret2
    exact ⟨rfl, rfl⟩
  · have hle : p.size ≤ s.size := by
      simp only [ends, Bool.and_eq_true, decide_eq_true_eq] at hh; exact hh.1
    have hlo := sub_wrap hle hs
    rw [hh] at HE
    go_enter Try.func21, Try.ntmps21
    go_wp2_with fail
    refine HE.out.mono ?_
    rintro e w1 ⟨rfl, rfl⟩
    go_wp2
    go_ret2
    exact ⟨rfl, rfl⟩

/-- strings.CutSuffix. -/
theorem cut16 (s p : ByteArray) (w : World) (hs : s.size ≤ 9223372036854775807) :
    Calls Try.prog 16 #[.string s, .string p] w fun e w' => e = .returned (.tuple #[.string (if ends s p = true then below s p else s), .bool (ends s p)]) ∧ w' = w := by
  have HE := hid (cut21 s p w hs)
  generalize (if ends s p = true then below s p else s) = q at HE ⊢
  go_enter Try.func16, Try.ntmps16
  go_wp2_with fail
  refine HE.out.mono ?_
  rintro e w1 ⟨rfl, rfl⟩
  go_wp2
  go_ret2
  exact ⟨rfl, rfl⟩

/-- shape.shapes, called with two texts. -/
theorem shapes14 (s t : ByteArray) (B : Nat) (w : World) (hs : s.size ≤ 1073741824) (ht : t.size ≤ 1073741824)
    (h0 : w.cell? ⟨B, 0, none⟩ = some (.string s)) (h1 : w.cell? ⟨B, 1, none⟩ = some (.string t)) :
    Calls Try.prog 14 #[.slice (some ⟨B, 0, none⟩) 2 2] w fun e w' => e = .returned (.bool (lett s 256 && lett t 256)) ∧ Below w.heap.size w w' := by
  have hB : B < w.heap.size := World.block_lt_of_cell? _ _ h0
  have H0 := hid h0
  have H1 := hid h1
  clear h0 h1
  go_enter Try.func14, Try.ntmps14
  go_wp2
  go_loopw [7] (fun i wr => ∃ k : Nat, k ≤ 2 ∧ i = .int .i64 k ∧ (0 < k → lett s 256 = true) ∧ (1 < k → lett t 256 = true) ∧ Below w.heap.size w wr) (fun i _ => 2 - (intOf i).toNat)
  case atStart => exact ⟨0, by omega, rfl, fun h => by omega, fun h => by omega, Below.refl _ _⟩
  case round =>
    obtain ⟨k, hk, rfl, ha, hb, hw⟩ := hrel
    have HA := hid ha
    have HB := hid hb
    clear ha hb
    obtain rfl | rfl | rfl : k = 0 ∨ k = 1 ∨ k = 2 := by omega
    · have hc : wr.cell? ⟨B, 0, none⟩ = some (.string s) := by rw [hw.cell hB]; exact H0.out
      have HE := hid (shape19 s wr hs)
      go_wp2_with fail
      refine HE.out.mono ?_
      rintro e w1 ⟨rfl, h1⟩
      cases hl : lett s 256
      · go_wp2
        go_ret
        exact ⟨by simp [hl], hw.trans (h1.mono hw.size)⟩
      · go_wp2
        go_roundw
        case rel => exact ⟨1, by omega, by simp, fun _ => hl, fun h => by omega, hw.trans (h1.mono hw.size)⟩
        case measure => simp [intOf]
    · have hc : wr.cell? ⟨B, 1, none⟩ = some (.string t) := by rw [hw.cell hB]; exact H1.out
      have HE := hid (shape19 t wr ht)
      go_wp2_with fail
      refine HE.out.mono ?_
      rintro e w1 ⟨rfl, h1⟩
      cases hl : lett t 256
      · go_wp2
        go_ret
        exact ⟨by simp [hl], hw.trans (h1.mono hw.size)⟩
      · go_wp2
        go_roundw
        case rel => exact ⟨2, by omega, by simp, fun _ => HA.out (by omega), fun h => hl, hw.trans (h1.mono hw.size)⟩
        case measure => simp [intOf]
    · go_wp2
      go_ret
      exact ⟨by rw [HA.out (by omega), HB.out (by omega)]; rfl, hw⟩

/-- The same, with the texts laid in memory by the call. -/
theorem shapes (s t : ByteArray) (w : World) (hs : s.size ≤ 1073741824) (ht : t.size ≤ 1073741824) :
    Calls Try.prog 14 #[.slice (some ⟨w.heap.size, 0, none⟩) 2 2] (w.alloc (.cells #[.string s, .string t] 9)) fun e w' => e = .returned (.bool (lett s 256 && lett t 256)) ∧ Below w.heap.size w w' := by
  have hc := cell_two_new w (.string s) (.string t) 9
  have hadd : ∀ j : Nat, (⟨w.heap.size, 0, none⟩ : Addr).add j = ⟨w.heap.size, j, none⟩ := fun j => by unfold Addr.add; split <;> simp_all
  have h0 := hc 0 _ rfl
  have h1 := hc 1 _ rfl
  rw [hadd] at h0 h1
  refine (shapes14 s t w.heap.size _ hs ht h0 h1).mono ?_
  rintro e w' ⟨rfl, h⟩
  exact ⟨rfl, ((Below.refl _ _).alloc (Nat.le_refl _) _).trans (h.mono (by simp))⟩

end Go.Proofs.Ytngcidcfmolahaa
