/-
  The known case: what Write and Read say of it.
-/
import Derived.Test.YtbdjghokedfkfaaDoorPc
namespace Go.Proofs.YtbdjghokedfkfaaDoor
open Go.RowKit
set_option linter.unusedVariables false
set_option maxRecDepth 100000

def zs15 : List Int := [70, 83, 78, 80, 1, 2, 0, 2, 0, 1, 5, 0, 0, 0, 0]
abbrev kS (B : Nat) : StM := ⟨none, 0, 0, [], none, 0, 0, [], none, 0, 0, [], 0, 2, some ⟨B, 0, none⟩, 1, 1, [5], 0, 2⟩
theorem wr_kn (B : Nat) : wrV (kS B) = (zs15, false) := by kernel_rfl
theorem rd_kn : rdE zs15 = (0, 0) := by kernel_rfl
theorem rd_kn2 : rdE (zs15 ++ [0]) = (19, 15) := by kernel_rfl
theorem st_kn : stP zs15 (5, 0) = ⟨2, 0, 2, 0, [5], [], [], []⟩ := by kernel_rfl
end Go.Proofs.YtbdjghokedfkfaaDoor
