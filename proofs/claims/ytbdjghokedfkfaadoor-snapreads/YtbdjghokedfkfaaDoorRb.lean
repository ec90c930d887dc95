/-
  snap's reader: count, value, a page's number, octet, finish.
-/
import Derived.Test.YtbdjghokedfkfaaDoorRa
namespace Go.Proofs.YtbdjghokedfkfaaDoor
open Go.RowKit
set_option linter.unusedVariables false
set_option maxRecDepth 100000

theorem tkR_le {v next e m : Int} {st : RS} (h : e = 0 → 0 ≤ v ∧ v ≤ m) (hm : 0 ≤ m) : 0 ≤ (tkR v next e st).1 ∧ (tkR v next e st).1 ≤ m := by
  unfold tkR
  split
  · split
    · rename_i h2; exact h h2
    · exact ⟨Int.le_refl _, hm⟩
  · exact ⟨Int.le_refl _, hm⟩
theorem nmR_le {zs : List Int} {most above : Int} {st : RS} (hz : ∀ z ∈ zs, 0 ≤ z ∧ z ≤ 255) (ha : above ≠ 0) (hm : 0 ≤ most) : 0 ≤ (nmR zs most above st).1 ∧ (nmR zs most above st).1 ≤ most := by
  have hr := ruAt_range zs st.1 hz
  refine tkR_le (fun he => ?_) hm
  unfold nmE at he
  split at he
  · exact absurd he ha
  · rename_i h
    exact ⟨hr.1, by omega⟩
theorem nmR_u64 {zs : List Int} {above : Int} {st : RS} (hz : ∀ z ∈ zs, 0 ≤ z ∧ z ≤ 255) : 0 ≤ (nmR zs 18446744073709551615 above st).1 ∧ (nmR zs 18446744073709551615 above st).1 ≤ 18446744073709551615 := by
  have hr := ruAt_range zs st.1 hz
  exact tkR_le (fun he => ⟨hr.1, by omega⟩) (by decide)

theorem count44 (R : Nat) (a : Option Addr) (n c : Nat) (zs : List Int) (st : RS) (most : Nat) (w : World) (h : Rd w R a n c zs st) (hm : most ≤ 100000) :
    Calls Tryd.prog 96 #[.pointer (some ⟨R, 0, none⟩), .int .i64 most] w (ROut R a n c zs (.int .i64 (nmR zs most 20 st).1) (nmR zs most 20 st).2 w) := by
  have hl := nmR_le (st := st) h.seg.2.2.2.1 (by decide : (20 : Int) ≠ 0) (by omega : (0 : Int) ≤ most)
  have HN := hid (number29 R a n c zs st most 20 w h (.inl (by decide)))
  have hk : (most : Int) % 18446744073709551616 = most := by omega
  generalize nmR zs most 20 st = p at *
  obtain ⟨V, st1⟩ := p
  dsimp only at *
  have hv : IntKind.i64.wrap V = V := i64_in V (by omega) (by omega)
  clear h hl
  go_enter Tryd.func96, Tryd.ntmps96
  go_wp2_with fail
  refine HN.out.mono ?_
  rintro e w3 ⟨rfl, h3, k3⟩
  have R3 := hid h3
  have K3 := hid k3
  clear h3 k3 HN
  go_wp2_with fail
  go_ret
  exact ⟨rfl, R3.out, K3.out⟩

theorem value31 (R : Nat) (a : Option Addr) (n c : Nat) (zs : List Int) (st : RS) (w : World) (h : Rd w R a n c zs st) :
    Calls Tryd.prog 81 #[.pointer (some ⟨R, 0, none⟩)] w (ROut R a n c zs (.int .u64 (nmR zs 18446744073709551615 0 st).1) (nmR zs 18446744073709551615 0 st).2 w) := by
  have HN := hid (number29 R a n c zs st 18446744073709551615 0 w h (.inr rfl))
  generalize nmR zs 18446744073709551615 0 st = p at *
  clear h
  go_enter Tryd.func81, Tryd.ntmps81
  go_wp2_with fail
  refine HN.out.mono ?_
  rintro e w3 ⟨rfl, h3, k3⟩
  have R3 := hid h3
  have K3 := hid k3
  clear h3 k3 HN
  go_wp2_with fail
  go_ret
  exact ⟨rfl, R3.out, K3.out⟩

/-- A page's number. -/
def pnE (zs : List Int) (least count at_ : Int) : Int := if (ruAt zs at_).2.2 ≠ 0 then (ruAt zs at_).2.2 else if count ≤ (ruAt zs at_).1 then 17 else if (ruAt zs at_).1 < least then 18 else 0
def pnR (zs : List Int) (least count : Int) (st : RS) : Int × RS := tkR (ruAt zs st.1).1 (ruAt zs st.1).2.1 (pnE zs least count st.1) st
theorem pnR_le {zs : List Int} {least count : Int} {st : RS} (hz : ∀ z ∈ zs, 0 ≤ z ∧ z ≤ 255) (hc : 0 < count) : 0 ≤ (pnR zs least count st).1 ∧ (pnR zs least count st).1 ≤ count - 1 := by
  have hr := ruAt_range zs st.1 hz
  refine tkR_le (fun he => ?_) (by omega)
  unfold pnE at he
  split at he
  · omega
  · split at he
    · cases he
    · exact ⟨hr.1, by omega⟩
set_option maxHeartbeats 2000000 in
theorem pnum45 (R : Nat) (a : Option Addr) (n c : Nat) (zs : List Int) (st : RS) (least count : Nat) (w : World) (h : Rd w R a n c zs st) (hl : least ≤ 100000) (h0 : 0 < count) (hc : count ≤ 100000) :
    Calls Tryd.prog 97 #[.pointer (some ⟨R, 0, none⟩), .int .i64 least, .int .i64 count] w (ROut R a n c zs (.int .i64 (pnR zs least count st).1) (pnR zs least count st).2 w) := by
  have hr := ruAt_range zs st.1 h.seg.2.2.2.1
  have HU := hid (fun (W : World) (hW : Below w.heap.size w W) => ru7 a n c zs st.1 W (h.seg.later hW (Nat.le_refl _)))
  have HT := hid (fun (e : Int) (W : World) (hW : Below w.heap.size w W) (he : e = pnE zs least count st.1) => take35 R a n c zs st (ruAt zs st.1).1 (ruAt zs st.1).2.1 e W (h.later hW) (fun h0 => ⟨hr.2.2.1, hr.2.2.2.1⟩))
  have c0 := h.c0
  have c1 := h.c1
  have hle := pnR_le (st := st) (least := (least : Int)) (count := (count : Int)) h.seg.2.2.2.1 (by omega)
  have e1 : pnR zs least count st = tkR (ruAt zs st.1).1 (ruAt zs st.1).2.1 (pnE zs least count st.1) st := rfl
  rw [e1] at hle ⊢
  have e2 : pnE zs least count st.1 = if (ruAt zs st.1).2.2 ≠ 0 then (ruAt zs st.1).2.2 else if (count : Int) ≤ (ruAt zs st.1).1 then 17 else if (ruAt zs st.1).1 < (least : Int) then 18 else 0 := rfl
  have BW := hid (fun m => below_drewN w m)
  have hk1 : (least : Int) % 18446744073709551616 = least := by omega
  have hk2 : (count : Int) % 18446744073709551616 = count := by omega
  clear h hr e1
  obtain ⟨at_, er⟩ := st
  dsimp only at *
  generalize pnE zs least count at_ = E at *
  generalize ruAt zs at_ = q at *
  obtain ⟨v, nx, x⟩ := q
  dsimp only at *
  simp only [res3] at HU
  have fin : ∀ (W : World), Below w.heap.size w W → Calls Tryd.prog 85 #[.pointer (some ⟨R, 0, none⟩), .int .u64 v, .int .i64 nx, .int .i64 E] W (ROut R a n c zs (.int .u64 (tkR v nx E (at_, er)).1) (tkR v nx E (at_, er)).2 w) := fun W hW => (HT.out E W hW rfl).mono (fun e w' ⟨h1, h2, h3⟩ => ⟨h1, h2, (Kept.mono (⟨hW.os, hW.tape, hW.output, hW.size, fun k hk _ => hW.block k hk⟩ : Kept (fun k => k = R) w W) (fun _ h => h)).trans h3⟩)
  have FIN := hid fin
  generalize tkR v nx E (at_, er) = p at *
  obtain ⟨V, st1⟩ := p
  dsimp only at *
  have hv : IntKind.i64.wrap V = V := i64_in V (by omega) (by omega)
  clear fin HT hle
  by_cases hx : x = 0
  · subst hx
    by_cases hm : (count : Int) ≤ v
    · have hE : E = 17 := by rw [e2, if_neg (by simp), if_pos hm]
      subst hE
      clear e2
      go_enter Tryd.func97, Tryd.ntmps97
      go_wp2_with fail
      go_quiet ((go_at_call 95; exact Calls.quiet_of_same (HU.out _ (BW.out _))))
      go_wp2_with fail
      refine (FIN.out _ (BW.out _)).mono ?_
      rintro e w3 ⟨rfl, h3, k3⟩
      have R3 := hid h3
      have K3 := hid k3
      clear h3 k3 FIN
      go_wp2_with fail
      go_ret
      exact ⟨rfl, R3.out, K3.out⟩
    · by_cases hm2 : v < (least : Int)
      · have hE : E = 18 := by rw [e2, if_neg (by simp), if_neg hm, if_pos hm2]
        subst hE
        clear e2
        go_enter Tryd.func97, Tryd.ntmps97
        go_wp2_with fail
        go_quiet ((go_at_call 95; exact Calls.quiet_of_same (HU.out _ (BW.out _))))
        go_wp2_with fail
        refine (FIN.out _ (BW.out _)).mono ?_
        rintro e w3 ⟨rfl, h3, k3⟩
        have R3 := hid h3
        have K3 := hid k3
        clear h3 k3 FIN
        go_wp2_with fail
        go_ret
        exact ⟨rfl, R3.out, K3.out⟩
      · have hE : E = 0 := by rw [e2, if_neg (by simp), if_neg hm, if_neg hm2]
        subst hE
        clear e2
        go_enter Tryd.func97, Tryd.ntmps97
        go_wp2_with fail
        go_quiet ((go_at_call 95; exact Calls.quiet_of_same (HU.out _ (BW.out _))))
        go_wp2_with fail
        refine (FIN.out _ (BW.out _)).mono ?_
        rintro e w3 ⟨rfl, h3, k3⟩
        have R3 := hid h3
        have K3 := hid k3
        clear h3 k3 FIN
        go_wp2_with fail
        go_ret
        exact ⟨rfl, R3.out, K3.out⟩
  · have hE : E = x := by rw [e2, if_pos hx]
    subst hE
    have hb : (E != 0) = true := by simp [hx]
    clear e2
    go_enter Tryd.func97, Tryd.ntmps97
    go_wp2_with fail
    go_quiet ((go_at_call 95; exact Calls.quiet_of_same (HU.out _ (BW.out _))))
    go_wp2_with fail
    refine (FIN.out _ (BW.out _)).mono ?_
    rintro e w3 ⟨rfl, h3, k3⟩
    have R3 := hid h3
    have K3 := hid k3
    clear h3 k3 FIN
    go_wp2_with fail
    go_ret
    exact ⟨rfl, R3.out, K3.out⟩

theorem i8_in (V : Int) (h0 : 0 ≤ V) (h1 : V ≤ 127) : IntKind.i8.wrap V = V := by
  simp [IntKind.wrap, IntKind.bits, IntKind.signed]; omega
theorem kept_R {R : Nat} {w W : World} (h : Below w.heap.size w W) : Kept (fun k => k = R) w W := ⟨h.os, h.tape, h.output, h.size, fun k hk _ => h.block k hk⟩
/-- Something stands behind. -/
def fnR (zs : List Int) (st : RS) : RS := if st.1 < zs.length then (tkR 0 0 19 st).2 else st
theorem finish16 (R : Nat) (a : Option Addr) (n c : Nat) (zs : List Int) (st : RS) (w : World) (h : Rd w R a n c zs st) :
    Calls Tryd.prog 55 #[.pointer (some ⟨R, 0, none⟩)] w (ROut R a n c zs (.tuple #[]) (fnR zs st) w) := by
  have HT := hid (fun (W : World) (hW : Below w.heap.size w W) => take35 R a n c zs st 0 0 19 W (h.later hW) (fun h0 => by cases h0))
  have c0 := h.c0
  have c1 := h.c1
  have HW := hid h
  have BW := hid (fun m => below_drewN w m)
  have hl := h.seg.1
  have e : fnR zs st = if st.1 < zs.length then (tkR 0 0 19 st).2 else st := rfl
  rw [e, hl]
  clear e h
  obtain ⟨at_, er⟩ := st
  dsimp only at *
  generalize tkR 0 0 19 (at_, er) = p at *
  by_cases hlt : at_ < (n : Int)
  · rw [if_pos hlt]
    clear HW
    go_enter Tryd.func55, Tryd.ntmps55
    go_wp2_with fail
    go_quiet (fail)
    go_wp2_with fail
    refine (HT.out _ (BW.out _)).mono ?_
    rintro e w3 ⟨rfl, h3, k3⟩
    have R3 := hid h3
    have K3 := hid ((kept_R (R := R) (BW.out nq)).trans k3)
    clear h3 k3 HT
    go_wp2_with fail
    go_end0
    exact ⟨rfl, R3.out, K3.out⟩
  · rw [if_neg hlt]
    clear HT
    go_enter Tryd.func55, Tryd.ntmps55
    go_wp2_with fail
    go_quiet (fail)
    go_wp2_with fail
    go_end0
    exact ⟨rfl, HW.out.later (BW.out _), kept_R (BW.out _)⟩

end Go.Proofs.YtbdjghokedfkfaaDoor
