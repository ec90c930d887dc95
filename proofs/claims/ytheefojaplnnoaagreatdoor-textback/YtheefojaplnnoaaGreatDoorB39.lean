/-
  Texts BckFact.
-/
import Derived.JoinedOf
import Derived.KernelRfl
import Derived.RowKit
import Derived.Stop.Joined
import Derived.Test.YtheefojaplnnoaaGreatDoorCards
set_option linter.unusedVariables false
set_option maxRecDepth 100000
set_option maxHeartbeats 16000000
namespace Go.Proofs.YtheefojaplnnoaaGreatDoor.textBack
open Go.RowKit
theorem Lq {a b : Bool} (ha : a = true) (hb : b = true) : (a && b) = true:=by rw [ha,hb]; rfl
theorem facts : joinedFacts Tryz.pinned.checked.prog 5 Tryz.f5 Rows.textBackSpec Rows.textBackRow = true:=by
 unfold joinedFacts
 repeat' (with_reducible refine Lq ?_ ?_)
 all_goals (as_aux_lemma => kernel_rfl)
end Go.Proofs.YtheefojaplnnoaaGreatDoor.textBack
