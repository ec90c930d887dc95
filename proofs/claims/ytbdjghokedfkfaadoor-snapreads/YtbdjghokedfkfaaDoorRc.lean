/-
  snap's reader: octet.
-/
import Derived.Test.YtbdjghokedfkfaaDoorRb
namespace Go.Proofs.YtbdjghokedfkfaaDoor
open Go.RowKit
set_option linter.unusedVariables false
set_option maxRecDepth 100000

/-- A byte from least to most. -/
def ocR (zs : List Int) (least most : Int) (st : RS) : Int × RS :=
  if st.1 = zs.length then tkR 0 0 10 st else if zs.getD st.1.toNat 0 < least ∨ most < zs.getD st.1.toNat 0 then tkR 0 0 17 st else tkR (zs.getD st.1.toNat 0) (st.1 + 1) 0 st
set_option maxHeartbeats 2000000 in
theorem octet28 (R : Nat) (a : Option Addr) (n c : Nat) (zs : List Int) (st : RS) (least most : Int) (w : World) (h : Rd w R a n c zs st) (hl : 0 ≤ least ∧ least ≤ 127) (hm : 0 ≤ most ∧ most ≤ 127) :
    Calls Tryd.prog 78 #[.pointer (some ⟨R, 0, none⟩), .int .i8 least, .int .i8 most] w (ROut R a n c zs (.int .i8 (ocR zs least most st).1) (ocR zs least most st).2 w) := by
  have HT := hid (fun (v nx e : Int) (W : World) (hW : Below w.heap.size w W) (hn : e = 0 → 0 ≤ nx ∧ nx ≤ zs.length) => take35 R a n c zs st v nx e W (h.later hW) hn)
  have c0 := h.c0
  have c1 := h.c1
  have BW := hid (fun m => below_drewN w m)
  have hzl := h.seg.1
  have hrg := h.rg
  have hsg := h.seg
  have hu1 : IntKind.u8.wrap least = least := by rw [IntKind.wrap_u8]; omega
  have hu2 : IntKind.u8.wrap most = most := by rw [IntKind.wrap_u8]; omega
  clear h
  obtain ⟨at_, er⟩ := st
  dsimp only at *
  obtain ⟨p, rfl⟩ := Int.eq_ofNat_of_zero_le hrg.1
  by_cases he : p = n
  · subst he
    have e : ocR zs least most ((p : Int), er) = tkR 0 0 10 ((p : Int), er) := by unfold ocR; rw [if_pos (by simp; omega)]
    rw [e]
    have hle := tkR_le (v := 0) (next := 0) (e := 10) (m := 127) (st := ((p : Int), er)) (fun h => by cases h) (by decide)
    have HT := hid (fun W hW => HT.out 0 0 10 W hW (fun h => by cases h))
    generalize tkR 0 0 10 ((p : Int), er) = q at *
    obtain ⟨V, st1⟩ := q
    dsimp only at *
    have hv : IntKind.i8.wrap V = V := i8_in V (by omega) (by omega)
    clear e hle hsg hrg hzl
    go_enter Tryd.func78, Tryd.ntmps78
    go_wp2_with fail
    go_quiet (fail)
    go_wp2_with fail
    refine (HT.out _ (BW.out _)).mono ?_
    rintro e w3 ⟨rfl, h3, k3⟩
    have R3 := hid h3
    have K3 := hid ((kept_R (R := R) (BW.out nq)).trans k3)
    clear h3 k3 HT
    go_wp2_with fail
    go_ret
    exact ⟨rfl, R3.out, K3.out⟩
  · have hpn : p < n := by omega
    have hnb : n ≤ 1099511627776 := hsg.2.2.1
    obtain ⟨b, off, rfl, hcell⟩ := hsg.2.2.2.2.resolve_left (by omega)
    have hz := hcell p hpn
    have hzr : 0 ≤ zs.getD p 0 ∧ zs.getD p 0 ≤ 255 := by
      rw [List.getD_eq_getElem?_getD]
      exact getD_range zs hsg.2.2.2.1 p
    have e : ocR zs least most ((p : Int), er) = if zs.getD p 0 < least ∨ most < zs.getD p 0 then tkR 0 0 17 ((p : Int), er) else tkR (zs.getD p 0) ((p : Int) + 1) 0 ((p : Int), er) := by
      unfold ocR
      rw [if_neg (by simp; omega)]
      rfl
    rw [e]
    generalize zs.getD p 0 = z at *
    have hne : ((p : Int) == (n : Int)) = false := by simp; omega
    have hlt' : (p : Int) < (n : Int) := by omega
    by_cases hb : z < least ∨ most < z
    · rw [if_pos hb]
      have hle := tkR_le (v := 0) (next := 0) (e := 17) (m := 127) (st := ((p : Int), er)) (fun h => by cases h) (by decide)
      have HT := hid (fun W hW => HT.out 0 0 17 W hW (fun h => by cases h))
      generalize tkR 0 0 17 ((p : Int), er) = q at *
      obtain ⟨V, st1⟩ := q
      dsimp only at *
      have hv : IntKind.i8.wrap V = V := i8_in V (by omega) (by omega)
      clear e hle hsg hrg hzl hcell
      by_cases hb1 : z < least
      · clear hb
        go_enter Tryd.func78, Tryd.ntmps78
        go_wp2_with fail
        go_quiet (fail)
        go_wp2_with fail
        go_quiet (fail)
        go_wp2_with fail
        refine (HT.out _ (BW.out _)).mono ?_
        rintro e w3 ⟨rfl, h3, k3⟩
        have R3 := hid h3
        have K3 := hid ((kept_R (R := R) (BW.out _)).trans k3)
        clear h3 k3 HT
        go_wp2_with fail
        go_ret
        exact ⟨rfl, R3.out, K3.out⟩
      · have hb2 : most < z := by omega
        clear hb
        go_enter Tryd.func78, Tryd.ntmps78
        go_wp2_with fail
        go_quiet (fail)
        go_wp2_with fail
        go_quiet (fail)
        go_wp2_with fail
        refine (HT.out _ (BW.out _)).mono ?_
        rintro e w3 ⟨rfl, h3, k3⟩
        have R3 := hid h3
        have K3 := hid ((kept_R (R := R) (BW.out _)).trans k3)
        clear h3 k3 HT
        go_wp2_with fail
        go_ret
        exact ⟨rfl, R3.out, K3.out⟩
    · rw [if_neg hb]
      have hb1 : ¬ z < least := by omega
      have hb2 : ¬ most < z := by omega
      have hle := tkR_le (v := z) (next := (p : Int) + 1) (e := 0) (m := 127) (st := ((p : Int), er)) (fun h => by omega) (by decide)
      have HT := hid (fun W hW => HT.out z ((p : Int) + 1) 0 W hW (fun h => by omega))
      generalize tkR z ((p : Int) + 1) 0 ((p : Int), er) = q at *
      obtain ⟨V, st1⟩ := q
      dsimp only at *
      have hv : IntKind.i8.wrap V = V := i8_in V (by omega) (by omega)
      have hz64 : IntKind.u64.wrap z = z := by rw [IntKind.wrap_u64]; omega
      clear e hle hsg hrg hzl hcell hb
      go_enter Tryd.func78, Tryd.ntmps78
      go_wp2_with fail
      go_quiet (fail)
      go_wp2_with fail
      go_quiet (fail)
      go_wp2_with fail
      refine (HT.out _ (BW.out _)).mono ?_
      rintro e w3 ⟨rfl, h3, k3⟩
      have R3 := hid h3
      have K3 := hid ((kept_R (R := R) (BW.out _)).trans k3)
      clear h3 k3 HT
      go_wp2_with fail
      go_ret
      exact ⟨rfl, R3.out, K3.out⟩
end Go.Proofs.YtbdjghokedfkfaaDoor
