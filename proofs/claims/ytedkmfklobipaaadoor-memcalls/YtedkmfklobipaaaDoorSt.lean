/-
  The walk over Store.
-/
import Derived.Test.YtedkmfklobipaaaDoorLo
namespace Go.Proofs.YtedkmfklobipaaaDoor
open Go.RowKit
set_option linter.unusedVariables false

/-- The first k bytes of v are laid from a on. -/
def stR (f : Nat → Int) (a : Nat) (v : Int) : Nat → Nat → Int
  | 0 => f
  | k + 1 => upd (stR f a v k) (a + k) (v / 2 ^ (8 * k) % 256)
/-- Their pages are dirty. -/
def stM (d : Nat → Bool) (a : Nat) : Nat → Nat → Bool
  | 0 => d
  | k + 1 => upd (stM d a k) ((a + k) / 4096) true

theorem store_not (p : Option Addr) (a : Nat) (n v : Int) (w : World)
    (h : Calls Tryd.prog 40 #[.pointer p, .int .u64 a, .int .i64 n] w fun e w' => e = .returned (.bool false) ∧ w' = w) :
    Calls Tryd.prog 21 #[.pointer p, .int .u64 a, .int .i64 n, .int .u64 v] w fun e w' => e = .returned (.bool false) ∧ w' = w := by
  have HH := hid h
  clear h
  go_enter Tryd.func21, Tryd.ntmps21
  go_wp2_with fail
  refine HH.out.mono ?_
  rintro e w' ⟨rfl, hw⟩
  have hw' := hw.symm; subst hw'; clear hw
  go_wp2_with fail
  go_ret
  exact ⟨rfl, rfl⟩

set_option maxHeartbeats 1000000 in
theorem store_mem (R most : Nat) (sv : Value) (PB : List Nat) (f : Nat → Int) (d : Nat → Bool) (a n : Nat) (v : Int) (w : World) (h : Mem w R most sv PB f d) (ha : a ≤ 18446744073709551615) (hv : 0 ≤ v ∧ v ≤ 18446744073709551615) (hh : hol PB.length a n = true) :
    Calls Tryd.prog 21 #[.pointer (some ⟨R, 0, none⟩), .int .u64 a, .int .i64 n, .int .u64 v] w fun e w' => e = .returned (.bool true) ∧ Mem w' R most sv PB (stR f a v n) (stM d a n) ∧ Kept (Fp R sv PB) w w' := by
  have hc := hol_mem R most sv PB f d a n w h ha
  rw [hh] at hc
  have HC := hid hc
  have HM := hid h
  have hb : a + n ≤ PB.length * 4096 ∧ n ≤ 8 ∧ PB.length ≤ 64 := by
    have h1 := h.le
    have h2 := h.top
    simp [hol, wid] at hh
    omega
  clear hc h hh
  go_enter Tryd.func21, Tryd.ntmps21
  go_wp2_with fail
  refine HC.out.mono ?_
  rintro e w' ⟨rfl, hw⟩
  have hw' := hw.symm; subst hw'; clear hw
  go_wp2_with fail
  go_loopw [9, 10, 18] (fun x y i wr => ∃ k : Nat, k ≤ n ∧ i = .int .u64 k ∧ Hid (Mem wr R most sv PB (stR f a v k) (stM d a k)) ∧ Hid (Kept (Fp R sv PB) w wr)) (fun _ _ i _ => n - (intOf i).toNat)
  case atStart => exact ⟨0, by omega, rfl, HM, hid (Kept.refl _ _)⟩
  case round =>
    obtain ⟨k, hk, rfl, HX, HK⟩ := hrel
    by_cases hlt : k < n
    · have hi : (a + k) / 4096 < PB.length := by omega
      obtain ⟨p, hp⟩ : ∃ p, PB[(a + k) / 4096]? = some p := ⟨_, List.getElem?_eq_getElem hi⟩
      obtain ⟨g, c, hsv, hg, _, hlc⟩ := HX.out.slot hp
      have hpc := HX.out.pcell hp (show (a + k) % 4096 < 4096 by omega)
      have hpf := HX.out.pfree hp ((a + k) % 4096)
      have hb1 := HX.out.byte hp (show (a + k) % 4096 < 4096 by omega) (v / 2 ^ (8 * k) % 256) (by omega)
      rw [show (a + k) / 4096 * 4096 + (a + k) % 4096 = a + k by omega] at hb1
      have hm := hb1.mark ((a + k) / 4096) hi
      have e3 := hb1.c3 ((a + k) / 4096) (by omega)
      have e4 := hb1.free (3 + (a + k) / 4096)
      have e0 := hb1.c2
      have c2 := HX.out.c2
      have HM2 := hid hm
      have HP := hid (show p ∈ PB from List.mem_of_getElem? hp)
      subst hsv
      generalize PB.length = N at *
      clear HC HM hm hb1 hp
      go_wp2_with fail
      refine ⟨⟨k + 1, by omega, by go_num, HM2, hid ?_⟩, by simp [intOf]; omega⟩
      exact HK.out.trans (((kept_setCell _ p _ _).mono (fun q hq => .inr (.inr (by subst hq; exact HP.out)))).trans ((kept_setCell _ R _ _).mono (fun q hq => .inl hq)))
    · obtain rfl : k = n := by omega
      clear HC HM
      go_wp2_with fail
      go_ret
      exact ⟨rfl, HX.out, HK.out⟩
end Go.Proofs.YtedkmfklobipaaaDoor
