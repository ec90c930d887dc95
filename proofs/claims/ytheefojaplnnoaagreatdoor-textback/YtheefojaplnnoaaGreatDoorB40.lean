/-
  Proved: called with any module and any text, TextBack returns true, and its arguments read afterwards as they read before.
  Conditions: the table of kinds, the library's two errors and its listed tables start as the program's text, and the library's, lay them (the card ties them to those texts; one of the library's is pinned by name); none other beyond the row's JK.
  (The tie holds over the pruned copy of the project that the seat names.)
-/
import Derived.SevenTiedAt
import Derived.Test.YtheefojaplnnoaaGreatDoorB00
import Derived.Test.YtheefojaplnnoaaGreatDoorTie
import Derived.Test.YtheefojaplnnoaaGreatDoorB38
import Derived.Test.YtheefojaplnnoaaGreatDoorB39
set_option linter.unusedVariables false
set_option maxRecDepth 100000
set_option maxHeartbeats 16000000
namespace Go.Proofs.YtheefojaplnnoaaGreatDoor.textBack
open Go.ChangeShapes Go.WideShapes Go.ChangeAt Go.RowKit
theorem over : Rows.textBackRow.holds Tryz.pinned (OpenSpec.ofChange Rows.textBackSpec) :=
 OpenClaim.holds_of_wide 5 Tryz.f5 rfl rfl rfl rfl rfl rfl rfl ⟨rfl,rfl,rfl,rfl,rfl⟩ rfl rfl rfl rfl rfl (by as_aux_lemma => kernel_rfl) Tryz.func5 facts
  (by as_aux_lemma => exact of_decide_eq_true ai) (by as_aux_lemma => unfold Func.isWrapper; first | (rw [if_pos nv]; kernel_rfl) | (rw [if_neg nv]; exact ⟨rfl,rfl⟩))
  (fun os started H enc _ => lifted os started H enc)
theorem proved : Rows.TextBackSaid:=over
theorem card : Rows.TextBackCardSaid :=
 Claim7.holds_tied_plain_at .later [] [.data,.data,.data,.data,.sentinel,.sentinel,.data,.pinned] true Rows.textBackCard.stood.harness true
  over (fun _ h => bE) ai (fun _ h => bE) textBack_row_tie rfl ⟨rfl,rfl⟩ ai rfl
  (fun f fn hf hfn => by
   obtain rfl : f = 5:=Option.some.inj ((show Tryz.prog.funcNamed Rows.textBackRow.func = some 5 by kernel_rfl).symm.trans hf) |>.symm
   obtain rfl : fn = Tryz.f5:=(Option.some.inj (Tryz.func5.symm.trans hfn)).symm
   exact ⟨ai,fun j t ht => by
    rw [Tryz.params5] at ht
    have hm : t ∈ [29,9]:=by simpa using Array.mem_of_getElem? ht
    have hall : ([29,9].all fun u => !Tryz.prog.wantsStandIn u) = true:=ai
    exact (show Tryz.prog.wantsStandIn t = false by simpa using List.all_eq_true.1 hall t hm)⟩)
  ai
#print axioms card
end Go.Proofs.YtheefojaplnnoaaGreatDoor.textBack
namespace Go.Proofs.YtheefojaplnnoaaGreatDoor
theorem textBack_holds : Rows.TextBackCardSaid:=textBack.card
end Go.Proofs.YtheefojaplnnoaaGreatDoor
