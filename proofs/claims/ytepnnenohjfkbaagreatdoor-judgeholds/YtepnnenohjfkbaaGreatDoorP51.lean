/-
  Proved: called with any module, any number and any list of texts, JudgeHolds returns true, and its arguments read afterwards as they read before.
  Conditions: the table of kinds and the library's listed tables start as the program's text, and the library's, lay them (the card ties them to those texts; one of the library's is pinned by name); none other beyond the row's own.
  (The tie holds over the pruned copy of the project that the seat names.)
-/
import Derived.Lib.LaidTab
import Derived.SevenTiedAt
import Derived.Stop.Joined
import Derived.Test.YtepnnenohjfkbaaGreatDoorP00
import Derived.Test.YtepnnenohjfkbaaGreatDoorCards
import Derived.Test.YtepnnenohjfkbaaGreatDoorTie
import Derived.Test.YtepnnenohjfkbaaGreatDoorP49
import Derived.Test.YtepnnenohjfkbaaGreatDoorP50
set_option linter.unusedVariables false
set_option maxRecDepth 100000
set_option maxHeartbeats 16000000
namespace Go.Proofs.YtepnnenohjfkbaaGreatDoor.judgeHolds
open Go.ChangeShapes Go.WideShapes Go.ChangeAt Go.RowKit
theorem over : Rows.judgeHoldsRow.holds Tryz.pinned (OpenSpec.ofChange Rows.judgeHoldsSpec) :=
 OpenClaim.holds_of_wide 6 Tryz.f6 rfl rfl rfl rfl rfl rfl rfl ⟨rfl,rfl,rfl,rfl,rfl⟩ rfl rfl rfl rfl rfl (by as_aux_lemma => kernel_rfl) Tryz.func6 facts
  (by as_aux_lemma => exact of_decide_eq_true aw) (by as_aux_lemma => unfold Func.isWrapper; first | (rw [if_pos qU]; kernel_rfl) | (rw [if_neg qU]; exact ⟨rfl,rfl⟩))
  (fun os started H enc _ => lifted os started H enc)
theorem proved : Rows.JudgeHoldsSaid:=over
theorem card : Rows.JudgeHoldsCardSaid :=
 Claim7.holds_tied_plain_at .later [] [.data,.data,.data,.data,.data,.pinned] true Rows.judgeHoldsCard.stood.harness true
  over (fun _ h => cE) aw (fun _ h => cE) judgeHolds_row_tie rfl ⟨rfl,rfl⟩ aw rfl
  (fun f fn hf hfn => by
   obtain rfl : f = 6:=Option.some.inj ((show Tryz.prog.funcNamed Rows.judgeHoldsRow.func = some 6 by kernel_rfl).symm.trans hf) |>.symm
   obtain rfl : fn = Tryz.f6:=(Option.some.inj (Tryz.func6.symm.trans hfn)).symm
   exact ⟨aw,fun j t ht => by
    rw [Tryz.params6] at ht
    have hm : t ∈ [29,3,37]:=by simpa using Array.mem_of_getElem? ht
    have hall : ([29,3,37].all fun u => !Tryz.prog.wantsStandIn u) = true:=aw
    exact (show Tryz.prog.wantsStandIn t = false by simpa using List.all_eq_true.1 hall t hm)⟩)
  aw
#print axioms card
end Go.Proofs.YtepnnenohjfkbaaGreatDoor.judgeHolds
namespace Go.Proofs.YtepnnenohjfkbaaGreatDoor
theorem judgeHolds_holds : Rows.JudgeHoldsCardSaid:=judgeHolds.card
end Go.Proofs.YtepnnenohjfkbaaGreatDoor
