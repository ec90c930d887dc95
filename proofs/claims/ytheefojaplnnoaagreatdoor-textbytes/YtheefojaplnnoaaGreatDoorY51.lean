/-
  Proved: called with any bytes, TextBytes returns true, and its argument reads afterwards as it read before.
  Conditions: the table of kinds, the library's two errors and its listed tables start as the program's text, and the library's, lay them (the card ties them to those texts; one of the library's is pinned by name); none other beyond the row's own.
  (The tie holds over the pruned copy of the project that the seat names.)
-/
import Derived.SevenTiedAt
import Derived.Test.YtheefojaplnnoaaGreatDoorY00
import Derived.Test.YtheefojaplnnoaaGreatDoorTie
import Derived.Test.YtheefojaplnnoaaGreatDoorY50
set_option linter.unusedVariables false
set_option maxRecDepth 100000
set_option maxHeartbeats 16000000
namespace Go.Proofs.YtheefojaplnnoaaGreatDoor.textBytes
open Go.ChangeShapes Go.WideShapes Go.ChangeAt Go.RowKit
theorem over:Rows.textBytesRow.holds Tryz.pinned (OpenSpec.ofChange Rows.textBytesSpec) :=
 OpenClaim.holds_of_wide 7 Tryz.f7 rfl rfl rfl rfl rfl rfl rfl ⟨rfl,rfl,rfl,rfl,rfl⟩ rfl rfl rfl rfl rfl (by as_aux_lemma=>kernel_rfl) Tryz.func7 facts
  (by as_aux_lemma=>exact of_decide_eq_true ai) (by as_aux_lemma=>unfold Func.isWrapper; first | (rw[if_pos m9]; kernel_rfl) | (rw[if_neg m9]; exact⟨rfl,rfl⟩))
  (fun os started H enc _=>lifted os started H enc)
theorem proved:Rows.TextBytesSaid:=over
theorem card:Rows.TextBytesCardSaid :=
 Claim7.holds_tied_plain_at .later [] [.data,.data,.data,.data,.sentinel,.sentinel,.data,.pinned] true Rows.textBytesCard.stood.harness true
  over (fun _ h=>cj) ai (fun _ h=>cj) textBytes_row_tie rfl ⟨rfl,rfl⟩ ai rfl
  (fun f fn hf hfn=>by
   obtain rfl:f=7:=Option.some.inj ((show Tryz.prog.funcNamed Rows.textBytesRow.func=some 7 by kernel_rfl).symm.trans hf) |>.symm
   obtain rfl:fn=Tryz.f7:=(Option.some.inj (Tryz.func7.symm.trans hfn)).symm
   exact⟨ai,fun j t ht=>by
    rw[Tryz.params7]at ht
    have hm:t∈[63]:=by simpa using Array.mem_of_getElem? ht
    have hall:([63].all fun u=>!Tryz.prog.wantsStandIn u)=true:=ai
    exact(show Tryz.prog.wantsStandIn t=false by simpa using List.all_eq_true.1 hall t hm)⟩)
  ai
#print axioms card
end Go.Proofs.YtheefojaplnnoaaGreatDoor.textBytes
namespace Go.Proofs.YtheefojaplnnoaaGreatDoor
/-- The given statement. -/
theorem textBytes_holds:Rows.TextBytesCardSaid:=textBytes.card
end Go.Proofs.YtheefojaplnnoaaGreatDoor
