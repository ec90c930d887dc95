/-
  Rows of the call's own: the least block may be lower.
-/
import Derived.Test.YthdgbeaibajkeaaHeap
namespace Go.Proofs.Ythdgbeaibajkeaa
open Go.RowKit
set_option linter.unusedVariables false

theorem own_mono {w : World} {base base' : Nat} {e : TypeId} {v : Value} {n : Nat} {xs : List Value} (h : w.ownsRow base e 1 v n xs) (hb : base' ≤ base) : w.ownsRow base' e 1 v n xs := by
  refine ⟨h.1, ?_⟩
  rcases h.2 with h0 | ⟨g, cp, cur, h1, h2, h3⟩
  · exact .inl h0
  · exact .inr ⟨g, cp, cur, h1, Nat.le_trans hb h2, h3⟩

end Go.Proofs.Ythdgbeaibajkeaa
