/-
  Proved: called with any module, TextPrints returns true, and its argument reads afterwards as it read before.
  Conditions: the table of kinds, the library's two errors and its listed tables start as the program's text, and the library's, lay them (the card ties them to those texts; one of the library's is pinned by name); none other beyond the row's KV.
  (The tie holds over the pruned copy of the project that the seat names.)
-/
import Derived.SevenTiedAt
import Derived.Test.YtheefojaplnnoaaGreatDoorP00
import Derived.Test.YtheefojaplnnoaaGreatDoorTie
import Derived.Test.YtheefojaplnnoaaGreatDoorP46
set_option linter.unusedVariables false
set_option maxRecDepth 100000
set_option maxHeartbeats 16000000
namespace Go.Proofs.YtheefojaplnnoaaGreatDoor.textPrints
open Go.ChangeShapes Go.WideShapes Go.ChangeAt Go.RowKit
theorem over : Rows.textPrintsRow.holds Tryz.pinned (OpenSpec.ofChange Rows.textPrintsSpec) :=
 OpenClaim.holds_of_wide 3 Tryz.f3 rfl rfl rfl rfl rfl rfl rfl ⟨rfl,rfl,rfl,rfl,rfl⟩ rfl rfl rfl rfl rfl (by as_aux_lemma => kernel_rfl) Tryz.func3 facts
  (by as_aux_lemma => exact of_decide_eq_true aj) (by as_aux_lemma => unfold Func.isWrapper; first | (rw [if_pos nW]; kernel_rfl) | (rw [if_neg nW]; exact ⟨rfl,rfl⟩))
  (fun os started H enc _ => lifted os started H enc)
theorem proved : Rows.TextPrintsSaid:=over
theorem card : Rows.TextPrintsCardSaid :=
 Claim7.holds_tied_plain_at .later [] [.data,.data,.data,.data,.sentinel,.sentinel,.data,.pinned] true Rows.textPrintsCard.stood.harness true
  over (fun _ h => cw) aj (fun _ h => cw) textPrints_row_tie rfl ⟨rfl,rfl⟩ aj rfl
  (fun f fn hf hfn => by
   obtain rfl : f = 3:=Option.some.inj ((show Tryz.prog.funcNamed Rows.textPrintsRow.func = some 3 by kernel_rfl).symm.trans hf) |>.symm
   obtain rfl : fn = Tryz.f3:=(Option.some.inj (Tryz.func3.symm.trans hfn)).symm
   exact ⟨aj,fun j t ht => by
    rw [Tryz.params3] at ht
    have hm : t ∈ [29]:=by simpa using Array.mem_of_getElem? ht
    have hall : ([29].all fun u => !Tryz.prog.wantsStandIn u) = true:=aj
    exact (show Tryz.prog.wantsStandIn t = false by simpa using List.all_eq_true.1 hall t hm)⟩)
  aj
#print axioms card
end Go.Proofs.YtheefojaplnnoaaGreatDoor.textPrints
namespace Go.Proofs.YtheefojaplnnoaaGreatDoor
theorem textPrints_holds : Rows.TextPrintsCardSaid:=textPrints.card
end Go.Proofs.YtheefojaplnnoaaGreatDoor
