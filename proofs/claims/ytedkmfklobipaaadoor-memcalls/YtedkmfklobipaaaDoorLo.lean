/-
  The walk over Load.
-/
import Derived.Test.YtedkmfklobipaaaDoorMn
import Derived.Laws.BitsAllLaws
namespace Go.Proofs.YtedkmfklobipaaaDoor
open Go.RowKit
set_option linter.unusedVariables false

/-- The number in the first k bytes from a on. -/
def ldv (f : Nat → Int) (a : Nat) : Nat → Int
  | 0 => 0
  | k + 1 => ldv f a k + f (a + k) * 2 ^ (8 * k)
theorem ldv_rng {f : Nat → Int} {a : Nat} (h : ∀ x, 0 ≤ f x ∧ f x ≤ 255) : ∀ k, 0 ≤ ldv f a k ∧ ldv f a k < 2 ^ (8 * k)
  | 0 => by simp [ldv]
  | k + 1 => by
    have ih := ldv_rng h k (a := a)
    have hx := h (a + k)
    have hp : (0 : Int) < 2 ^ (8 * k) := Int.pow_pos (by omega)
    have e : (2 : Int) ^ (8 * (k + 1)) = 256 * 2 ^ (8 * k) := by
      rw [show 8 * (k + 1) = 8 * k + 8 by omega, Int.pow_add]; omega
    simp only [ldv]
    rw [e]
    have h1 : f (a + k) * 2 ^ (8 * k) ≤ 255 * 2 ^ (8 * k) := Int.mul_le_mul_of_nonneg_right hx.2 (by omega)
    have h2 : 0 ≤ f (a + k) * 2 ^ (8 * k) := Int.mul_nonneg hx.1 (by omega)
    omega

theorem or_byte (V z : Int) (k : Nat) (hk : k ≤ 7) (h : 0 ≤ V ∧ V < 2 ^ (8 * k)) (hz : 0 ≤ z ∧ z ≤ 255) : bits .or .u64 V (IntKind.u64.wrap (z * 2 ^ (8 * k))) = V + z * 2 ^ (8 * k) := by
  obtain ⟨V, rfl⟩ := Int.eq_ofNat_of_zero_le h.1
  obtain ⟨z, rfl⟩ := Int.eq_ofNat_of_zero_le hz.1
  have hpn : ((2 ^ (8 * k) : Nat) : Int) = (2 : Int) ^ (8 * k) := by simp
  have hcc : (2 : Int) ^ (8 * k) ≤ 72057594037927936 := by
    rcases (show k = 0 ∨ k = 1 ∨ k = 2 ∨ k = 3 ∨ k = 4 ∨ k = 5 ∨ k = 6 ∨ k = 7 by omega) with rfl | rfl | rfl | rfl | rfl | rfl | rfl | rfl <;> decide
  have hp0 : (0 : Int) < 2 ^ (8 * k) := Int.pow_pos (by decide)
  have hmul : (z : Int) * 2 ^ (8 * k) ≤ 255 * 72057594037927936 := Int.mul_le_mul (by omega) hcc (Int.le_of_lt hp0) (by decide)
  have hmul0 : 0 ≤ (z : Int) * 2 ^ (8 * k) := Int.mul_nonneg hz.1 (Int.le_of_lt hp0)
  rw [IntKind.wrap_u64, Int.emod_eq_of_lt hmul0 (by omega)]
  have hcast : (z : Int) * 2 ^ (8 * k) = ((z * 2 ^ (8 * k) : Nat) : Int) := by rw [Int.natCast_mul, hpn]
  have hV := h.2
  rw [← hpn] at hV hcc
  rw [hcast] at hmul hmul0 ⊢
  rw [u64_or_nat V (z * 2 ^ (8 * k)) (by omega) (by omega)]
  rw [Nat.or_comm, nat_join (8 * k) (z * 2 ^ (8 * k)) V (Nat.mul_mod_left _ _) (by omega)]
  omega

theorem load_not (p : Option Addr) (a : Nat) (n : Int) (w : World)
    (h : Calls Tryd.prog 40 #[.pointer p, .int .u64 a, .int .i64 n] w fun e w' => e = .returned (.bool false) ∧ w' = w) :
    Calls Tryd.prog 19 #[.pointer p, .int .u64 a, .int .i64 n] w fun e w' => e = .returned (.tuple #[.int .u64 0, .bool false]) ∧ w' = w := by
  have HH := hid h
  clear h
  go_enter Tryd.func19, Tryd.ntmps19
  go_wp2_with fail
  refine HH.out.mono ?_
  rintro e w' ⟨rfl, hw⟩
  have hw' := hw.symm; subst hw'; clear hw
  go_wp2_with fail
  go_ret2
  exact ⟨rfl, rfl⟩

set_option maxHeartbeats 1000000 in
theorem load_mem (R most : Nat) (sv : Value) (PB : List Nat) (f : Nat → Int) (d : Nat → Bool) (a n : Nat) (w : World) (h : Mem w R most sv PB f d) (ha : a ≤ 18446744073709551615) (hh : hol PB.length a n = true) :
    Calls Tryd.prog 19 #[.pointer (some ⟨R, 0, none⟩), .int .u64 a, .int .i64 n] w fun e w' => e = .returned (.tuple #[.int .u64 (ldv f a n), .bool true]) ∧ w' = w := by
  have hc := hol_mem R most sv PB f d a n w h ha
  rw [hh] at hc
  have HC := hid hc
  have HM := hid h
  have hb : a + n ≤ PB.length * 4096 ∧ n ≤ 8 ∧ PB.length ≤ 64 := by
    have h1 := h.le
    have h2 := h.top
    simp [hol, wid] at hh
    omega
  clear hc h hh
  go_enter Tryd.func19, Tryd.ntmps19
  go_wp2_with fail
  refine HC.out.mono ?_
  rintro e w' ⟨rfl, hw⟩
  have hw' := hw.symm; subst hw'; clear hw
  go_wp2_with fail
  go_loopw [8, 9, 10, 18] (fun v x y i wr => ∃ k : Nat, k ≤ n ∧ v = .int .u64 (ldv f a k) ∧ i = .int .u64 k ∧ wr = w) (fun _ _ _ i _ => n - (intOf i).toNat)
  case atStart => exact ⟨0, by omega, rfl, rfl, rfl⟩
  case round =>
    obtain ⟨k, hk, rfl, rfl, rfl⟩ := hrel
    by_cases hlt : k < n
    · have hi : (a + k) / 4096 < PB.length := by omega
      obtain ⟨p, hp⟩ : ∃ p, PB[(a + k) / 4096]? = some p := ⟨_, List.getElem?_eq_getElem hi⟩
      obtain ⟨g, c, hsv, hg, _, hlc⟩ := HM.out.slot hp
      have hpc := HM.out.pcell hp (show (a + k) % 4096 < 4096 by omega)
      rw [show (a + k) / 4096 * 4096 + (a + k) % 4096 = a + k by omega] at hpc
      have c2 := HM.out.c2
      subst hsv
      have HR := hid (ldv_rng HM.out.rng (a := a) k)
      have hz := HM.out.rng (a + k)
      have HS := hid (show ldv f a (k + 1) = ldv f a k + f (a + k) * 2 ^ (8 * k) from rfl)
      generalize ldv f a k = V at *
      generalize f (a + k) = z at *
      generalize PB.length = N at *
      go_wp2_with fail
      refine ⟨⟨k + 1, by omega, ?_, by go_num, trivial⟩, by simp [intOf]; omega⟩
      rw [HS.out, or_byte V z k (by omega) HR.out hz]
    · obtain rfl : k = n := by omega
      go_wp2_with fail
      go_ret2
      exact ⟨rfl, rfl⟩
end Go.Proofs.YtedkmfklobipaaaDoor
