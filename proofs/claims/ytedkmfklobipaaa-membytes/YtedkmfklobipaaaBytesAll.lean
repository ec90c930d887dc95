/-
  The walk over MemBytes, at all numbers.
-/
import Derived.Test.YtedkmfklobipaaaBytesLaw
import Derived.OpenShut
namespace Go.Proofs.Ytedkmfklobipaaa
open Go.RowKit
set_option linter.unusedVariables false
theorem bytes_walk (p m a n v o : Int) (w0 : (Lit.int .i64 p).wf = true) (w1 : (Lit.int .i64 m).wf = true) (w2 : (Lit.int .u64 a).wf = true) (w3 : (Lit.int .i64 n).wf = true) (w4 : (Lit.int .u64 v).wf = true) (w5 : (Lit.int .u64 o).wf = true) (w : World) :
    Calls Try.prog 3 #[.int .i64 p, .int .i64 m, .int .u64 a, .int .i64 n, .int .u64 v, .int .u64 o] w fun e w' => e = .returned (.bool true) ∧ Below w.heap.size w w' := by
  have ha := bounds_u64 w2
  have hv := bounds_u64 w4
  have ho := bounds_u64 w5
  obtain ⟨a, rfl⟩ := Int.eq_ofNat_of_zero_le ha.1
  obtain ⟨o, rfl⟩ := Int.eq_ofNat_of_zero_le ho.1
  cases hm : mayB p m
  · exact bytes_no p m a n v o w hm
  · have hpm : 0 ≤ p ∧ 0 ≤ m := by simp [mayB] at hm; omega
    obtain ⟨p, rfl⟩ := Int.eq_ofNat_of_zero_le hpm.1
    obtain ⟨m, rfl⟩ := Int.eq_ofNat_of_zero_le hpm.2
    cases hh : hol p a n
    · exact bytes_not p m a n v o w hm (by omega) (by omega) hh
    · have hn : 0 ≤ n := by simp [hol, wid] at hh; omega
      obtain ⟨n, rfl⟩ := Int.eq_ofNat_of_zero_le hn
      exact bytes_yes p m a n v o w hm (by omega) (by omega) (by omega) hh
end Go.Proofs.Ytedkmfklobipaaa
