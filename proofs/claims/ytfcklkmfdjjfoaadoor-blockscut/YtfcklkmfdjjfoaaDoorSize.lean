/-
  The walks over SizeCode and Opens.
-/
import Derived.Test.YtfcklkmfdjjfoaaDoorEqi
namespace Go.Proofs.YtfcklkmfdjjfoaaDoor
open Go.RowKit
set_option linter.unusedVariables false

/-- The size of the first k instructions' lists, and of the code. -/
def szF (xs : List Inx) : Nat → Nat
  | 0 => xs.length
  | k + 1 => szF xs k + (xs.getD k dx).ln
theorem szF_mono (xs : List Inx) {a b : Nat} (h : a ≤ b) : szF xs a ≤ szF xs b := by
  induction b with
  | zero => have : a = 0 := by omega
            subst this; exact Nat.le_refl _
  | succ b ih =>
    by_cases e : a = b + 1
    · subst e; exact Nat.le_refl _
    · have := ih (by omega)
      simp only [szF]; omega
theorem szF_len (xs : List Inx) (k : Nat) : xs.length ≤ szF xs k := szF_mono xs (Nat.zero_le k)
theorem szF_ln (xs : List Inx) {k n : Nat} (h : k < n) : (xs.getD k dx).ln ≤ szF xs n := by
  have := szF_mono xs (show k + 1 ≤ n by omega)
  simp only [szF] at this; omega

set_option maxRecDepth 100000 in
set_option maxHeartbeats 1000000 in
theorem size_in (b off n cap : Nat) (xs : List Inx) (w : World) (hn : n ≤ 140737488355328) (hcap : n ≤ cap) (hc : Cod w b off n xs) :
    Calls Tryd.prog 5 #[.slice (some ⟨b, off, none⟩) n cap] w fun e w' => ∃ s : Nat, e = .returned (.int .i64 s) ∧ (s ≤ 2147483647 → s = szF xs n) ∧ Kept (fun _ => False) w w' := by
  have HC := hid hc
  have hl := hc.1
  clear hc
  go_enter Tryd.func5, Tryd.ntmps5
  go_wp2_with fail
  go_loopw [3, 4] (fun s i wr => ∃ k : Nat, k ≤ n ∧ s = .int .i64 (szF xs k : Nat) ∧ i = .int .i64 k ∧ (∃ m, wr = w.drewN m) ∧ szF xs k ≤ 281474976710656) (fun _ i _ => n - (intOf i).toNat)
  case atStart => exact ⟨0, by omega, by simp [szF, hl], rfl, ⟨0, rfl⟩, by simp only [szF]; omega⟩
  case round =>
    obtain ⟨k, hk, rfl, rfl, ⟨m, rfl⟩, hsz⟩ := hrel
    by_cases hlt : k < n
    · by_cases hbd : szF xs k ≤ 2147483647
      · have g := HC.out.lab hlt
        have hln := (HC.out.2 k hlt).2.2.2.2.2.2.2.1
        have HN := hid (show szF xs (k + 1) = szF xs k + (xs.getD k dx).ln from rfl)
        have hlt' : (k : Int) < (n : Int) := by omega
        have hbd' : ((szF xs k : Nat) : Int) ≤ 2147483647 := by omega
        generalize szF xs k = s at *
        generalize (xs.getD k dx).la = la at *
        generalize (xs.getD k dx).ln = ln at *
        generalize (xs.getD k dx).lc = lc at *
        go_wp2_with fail
        refine ⟨⟨k + 1, by omega, ?_, by go_num, ⟨m, rfl⟩, ?_⟩, by simp [intOf]; omega⟩
        · rw [HN.out]; go_num
        · rw [HN.out]; omega
      · have hlt' : (k : Int) < (n : Int) := by omega
        have hbd' : ¬ ((szF xs k : Nat) : Int) ≤ 2147483647 := by omega
        generalize szF xs k = s at *
        go_wp2_with fail
        go_ret
        exact ⟨s, rfl, fun h => by omega, Kept.drewN _ w m⟩
    · obtain rfl : k = n := by omega
      go_wp2_with fail
      go_ret
      exact ⟨szF xs k, rfl, fun _ => rfl, Kept.drewN _ w m⟩

set_option maxRecDepth 100000 in
set_option maxHeartbeats 1000000 in
theorem size_nil (a : Option Addr) (cap : Nat) (w : World) :
    Calls Tryd.prog 5 #[.slice a 0 cap] w fun e w' => e = .returned (.int .i64 0) ∧ w' = w := by
  go_enter Tryd.func5, Tryd.ntmps5
  go_wp2_with fail
  refine wp_loop_rounds 1 ?_
  rw [rounds_succ]
  go_wp2_with fail
  go_ret
  exact ⟨rfl, rfl⟩

/-- SizeCode. -/
theorem sizeC (a : Option Addr) (n cap : Nat) (xs : List Inx) (w : World) (hn : n ≤ 140737488355328) (hcap : n ≤ cap) (hc : CodS w a n xs) :
    Calls Tryd.prog 5 #[.slice a n cap] w fun e w' => ∃ s : Nat, e = .returned (.int .i64 s) ∧ (s ≤ 2147483647 → s = szF xs n) ∧ Kept (fun _ => False) w w' := by
  by_cases h0 : n = 0
  · subst h0
    refine (size_nil a cap w).mono fun e w' ⟨he, hw⟩ => ⟨0, he, fun _ => ?_, by rw [hw]; exact Kept.refl _ _⟩
    have := hc.1
    simp [szF, this]
  · rcases hc.2 with h | ⟨b, off, rfl, hcd⟩
    · exact absurd h h0
    · exact size_in b off n cap xs w hn hcap hcd

/-- Opens. -/
theorem opensC (c : Int) (w : World) (h0 : 0 ≤ c) (h1 : c ≤ 255) : Calls Tryd.prog 57 #[.int .u8 c] w fun e w' => e = .returned (.bool (isO c)) ∧ w' = w := by
  by_cases h : c = 2
  · subst h
    go_enter Tryd.func57, Tryd.ntmps57
    go_wp2_with fail
    go_ret
    exact ⟨rfl, rfl⟩
  by_cases h' : c = 3
  · subst h'
    go_enter Tryd.func57, Tryd.ntmps57
    go_wp2_with fail
    go_ret
    exact ⟨rfl, rfl⟩
  have hv : isO c = decide (c = 4) := by simp [isO, h, h']
  rw [hv]
  have b2 : (c == 2) = false := by simpa using h
  have b3 : (c == 3) = false := by simpa using h'
  by_cases h4 : c = 4
  · subst h4
    go_enter Tryd.func57, Tryd.ntmps57
    go_wp2_with fail
    go_ret
    exact ⟨rfl, rfl⟩
  · have b4 : (c == 4) = false := by simpa using h4
    rw [decide_eq_false h4]
    go_enter Tryd.func57, Tryd.ntmps57
    go_wp2_with fail
    go_ret
    exact ⟨rfl, rfl⟩
end Go.Proofs.YtfcklkmfdjjfoaaDoor
