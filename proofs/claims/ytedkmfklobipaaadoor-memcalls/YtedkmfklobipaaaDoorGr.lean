/-
  The walk over Grow.
-/
import Derived.Test.YtedkmfklobipaaaDoorSt
namespace Go.Proofs.YtedkmfklobipaaaDoor
open Go.RowKit
set_option linter.unusedVariables false

/-- k pages from N on are dirty, too. -/
def grM (d : Nat → Bool) (N : Nat) : Nat → Nat → Bool
  | 0 => d
  | k + 1 => upd (grM d N k) (N + k) true

theorem grow_nil (n : Int) (w : World) : Calls Tryd.prog 23 #[.pointer none, .int .u64 n] w fun e w' => e = .returned (.int .i64 0) ∧ w' = w := by
  go_enter Tryd.func23, Tryd.ntmps23
  go_wp2_with fail
  refine (is_nil _).mono ?_
  rintro e w' ⟨rfl, hw⟩
  have hw' := hw.symm; subst hw'
  go_wp2_with fail
  go_ret
  exact ⟨rfl, rfl⟩
theorem grow_not (R most : Nat) (sv : Value) (PB : List Nat) (f : Nat → Int) (d : Nat → Bool) (n : Int) (w : World) (h : Mem w R most sv PB f d) (hn : (most : Int) - PB.length < n) (hv : n ≤ 18446744073709551615) :
    Calls Tryd.prog 23 #[.pointer (some ⟨R, 0, none⟩), .int .u64 n] w fun e w' => e = .returned (.int .i64 (-1)) ∧ w' = w := by
  obtain ⟨sa, sc, rfl, hsc⟩ := h.sl
  have c0 := h.c0
  have c1 := h.c1
  have c2 := h.c2
  have hle := h.le
  have htop := h.top
  clear h
  generalize PB.length = N at *
  go_enter Tryd.func23, Tryd.ntmps23
  go_wp2_with fail
  refine (is_cell R true _ c0).mono ?_
  rintro e w' ⟨rfl, hw⟩
  have hw' := hw.symm; subst hw'; clear hw
  go_wp2_with fail
  go_ret
  exact ⟨rfl, rfl⟩

set_option maxHeartbeats 1000000 in
theorem grow_yes (R most : Nat) (sv : Value) (PB : List Nat) (f : Nat → Int) (d : Nat → Bool) (n : Nat) (w : World) (h : Mem w R most sv PB f d) (hn : PB.length + n ≤ most) :
    Calls Tryd.prog 23 #[.pointer (some ⟨R, 0, none⟩), .int .u64 n] w fun e w' => e = .returned (.int .i64 PB.length) ∧ ∃ sv' PB', Mem w' R most sv' PB' f (grM d PB.length n) ∧ PB'.length = PB.length + n ∧ Kept (Fp R sv PB) w w' ∧ (∀ k, Fp R sv' PB' k → Fp R sv PB k ∨ w.heap.size ≤ k) := by
  have HA := hid (add_mem R most sv PB f d n w h hn)
  obtain ⟨sa, sc, hsv, hsc⟩ := h.sl
  have c0 := h.c0
  have c1 := h.c1
  have c2 := h.c2
  have hle := h.le
  have htop := h.top
  have hR := h.lt
  clear h
  rw [hsv] at c2
  clear hsv
  generalize hN : PB.length = N at *
  have HN := hid hN
  clear hN
  go_enter Tryd.func23, Tryd.ntmps23
  go_wp2_with fail
  refine (is_cell R true _ c0).mono ?_
  rintro e w' ⟨rfl, hw⟩
  have hw' := hw.symm; subst hw'; clear hw
  go_wp2_with fail
  refine HA.out.mono ?_
  rintro e w2 ⟨rfl, sv', PB', hM, hl, hK, hF⟩
  obtain ⟨sa', sc', hsv, hsc'⟩ := hM.sl
  have d2 := hM.c2
  have HL := hid hl
  rw [hl] at hsv
  rw [hsv] at d2
  have HM := hid hM
  have HK := hid hK
  have HF := hid hF
  clear hM hl hK hF hsv hsc' c0 c1 c2 HA
  go_wp2_with fail
  go_loopw [6] (fun i wr => ∃ k : Nat, k ≤ n ∧ i = .int .i64 (N + k : Nat) ∧ Hid (Mem wr R most sv' PB' f (grM d N k)) ∧ Hid (Kept (fun q => q = R) w2 wr) ∧ wr.cell? ⟨R, 2, none⟩ = some (.slice sa' (N + n) sc')) (fun i _ => N + n - (intOf i).toNat)
  case atStart => exact ⟨0, by omega, rfl, HM, hid (Kept.refl _ _), d2⟩
  case round =>
    obtain ⟨k, hk, rfl, HX, HK2, c2⟩ := hrel
    by_cases hlt : k < n
    · have e3 := HX.out.c3 (N + k) (by omega)
      have e4 := HX.out.free (3 + (N + k))
      have hm := HX.out.mark (N + k) (by rw [HL.out]; omega)
      have HM2 := hid hm
      have k2 := kept_setCell wr R (3 + (N + k)) (.bool true)
      have c2' : (wr.setCell ⟨R, 3 + (N + k), none⟩ (.bool true)).cell? ⟨R, 2, none⟩ = some (.slice sa' (N + n) sc') := by
        rw [World.cell?_setCell_other _ _ _ _ (by simp)]; exact c2
      have HC2 := hid c2'
      have HKK := hid k2
      clear hm k2 c2'
      go_wp2_with fail
      refine ⟨⟨k + 1, by omega, by go_num, HM2, hid (HK2.out.trans HKK.out), HC2.out⟩, by simp [intOf]; omega⟩
    · obtain rfl : k = n := by omega
      clear HM
      go_wp2_with fail
      go_ret
      refine ⟨rfl, sv', PB', HX.out, HL.out, HK.out.trans (HK2.out.mono (fun q hq => .inl hq)), HF.out⟩
end Go.Proofs.YtedkmfklobipaaaDoor
