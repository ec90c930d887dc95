/-
  Texts HldFact.
-/
import Derived.JoinedOf
import Derived.KernelRfl
import Derived.RowKit
import Derived.Stop.Joined
import Derived.Test.YtepnnenohjfkbaaGreatDoorCards
set_option linter.unusedVariables false
set_option maxRecDepth 100000
set_option maxHeartbeats 16000000
namespace Go.Proofs.YtepnnenohjfkbaaGreatDoor.judgeHolds
open Go.RowKit
theorem Oj {a b : Bool} (ha : a = true) (hb : b = true) : (a && b) = true:=by rw [ha,hb]; rfl
theorem facts : joinedFacts Tryz.pinned.checked.prog 6 Tryz.f6 Rows.judgeHoldsSpec Rows.judgeHoldsRow = true:=by
 unfold joinedFacts
 repeat' (with_reducible refine Oj ?_ ?_)
 all_goals (as_aux_lemma => kernel_rfl)
end Go.Proofs.YtepnnenohjfkbaaGreatDoor.judgeHolds
