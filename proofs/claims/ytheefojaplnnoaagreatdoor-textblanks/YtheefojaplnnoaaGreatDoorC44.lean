/-
  Proved: called with any module and any turns, TextBlanks returns true, and its arguments read afterwards as they read before.
  Conditions: the table of kinds, the library's two errors and its listed tables start as the program's text, and the library's, lay them (the card ties them to those texts; one of the library's is pinned by name); none other beyond the row's L4.
  (The tie holds over the pruned copy of the project that the seat names.)
-/
import Derived.SevenTiedAt
import Derived.Test.YtheefojaplnnoaaGreatDoorC00
import Derived.Test.YtheefojaplnnoaaGreatDoorTie
import Derived.Test.YtheefojaplnnoaaGreatDoorC43
set_option linter.unusedVariables false
set_option maxRecDepth 100000
set_option maxHeartbeats 16000000
namespace Go.Proofs.YtheefojaplnnoaaGreatDoor.textBlanks
open Go.ChangeShapes Go.WideShapes Go.ChangeAt Go.RowKit
theorem over : Rows.textBlanksRow.holds Tryz.pinned (OpenSpec.ofChange Rows.textBlanksSpec) :=
 OpenClaim.holds_of_wide 6 Tryz.f6 rfl rfl rfl rfl rfl rfl rfl ⟨rfl,rfl,rfl,rfl,rfl⟩ rfl rfl rfl rfl rfl (by as_aux_lemma => kernel_rfl) Tryz.func6 facts
  (by as_aux_lemma => exact of_decide_eq_true ai) (by as_aux_lemma => unfold Func.isWrapper; first | (rw [if_pos nr]; kernel_rfl) | (rw [if_neg nr]; exact ⟨rfl,rfl⟩))
  (fun os started H enc _ => lifted os started H enc)
theorem proved : Rows.TextBlanksSaid:=over
theorem card : Rows.TextBlanksCardSaid :=
 Claim7.holds_tied_plain_at .later [] [.data,.data,.data,.data,.sentinel,.sentinel,.data,.pinned] true Rows.textBlanksCard.stood.harness true
  over (fun _ h => bG) ai (fun _ h => bG) textBlanks_row_tie rfl ⟨rfl,rfl⟩ ai rfl
  (fun f fn hf hfn => by
   obtain rfl : f = 6:=Option.some.inj ((show Tryz.prog.funcNamed Rows.textBlanksRow.func = some 6 by kernel_rfl).symm.trans hf) |>.symm
   obtain rfl : fn = Tryz.f6:=(Option.some.inj (Tryz.func6.symm.trans hfn)).symm
   exact ⟨ai,fun j t ht => by
    rw [Tryz.params6] at ht
    have hm : t ∈ [29,63]:=by simpa using Array.mem_of_getElem? ht
    have hall : ([29,63].all fun u => !Tryz.prog.wantsStandIn u) = true:=ai
    exact (show Tryz.prog.wantsStandIn t = false by simpa using List.all_eq_true.1 hall t hm)⟩)
  ai
#print axioms card
end Go.Proofs.YtheefojaplnnoaaGreatDoor.textBlanks
namespace Go.Proofs.YtheefojaplnnoaaGreatDoor
theorem textBlanks_holds : Rows.TextBlanksCardSaid:=textBlanks.card
end Go.Proofs.YtheefojaplnnoaaGreatDoor
