/-
  A fact that a walk does not look at.
-/
import Derived.Below
import Derived.WalkKit
namespace Go.Proofs.Ythdgbeaibajkeaa
open Go.RowKit
theorem hid {P : Prop} (h : P) : Hid P := h
end Go.Proofs.Ythdgbeaibajkeaa
