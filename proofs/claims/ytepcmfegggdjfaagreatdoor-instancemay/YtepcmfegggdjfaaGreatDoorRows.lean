/-
  NARROWER THAN 'FOR EVERY INPUT', by the rows' own cells (each row's printed sentence says how): InstanceMay: laid · InstanceBytes: laid.
  DERIVED. THE GIVEN ROWS OF THIS SEAT. 2 by the template 'for every input the law returns true; each argument reads behind the call as it read before'; 0 by the template 'total and deterministic' (their statements: YtepcmfegggdjfaaGreatDoorTotals.lean).
  GIVEN WITH THE SEED: the statements are not yours to turn. If you find one false, say at which input.
  Laid BY PROGRAM, IN A SANDBOX (cutbox-rows.mjs): the forced cells as the released guide's own fill.sh prints them over the translation 088544f064d2bfce… (all of the seat's roots in one cut). By AI agents, Wed Nov 11 2026. No macro, syntax, notation, axiom, sorry.
-/
import Derived.Test.YtepcmfegggdjfaaGreatDoorChecked
import GoSem.PinnedTables
import GoSem.Claim
import GoSem.ClaimJoined
import GoSem.ClaimMapViews
import Derived.JoinedTies
import Derived.KernelRfl
namespace Go.Proofs.YtepcmfegggdjfaaGreatDoor
/- THE CELL 'sum', in the pinned program and in every row, IS THE sha256 OF THE DUMP (.gsa) THAT YtepcmfegggdjfaaGreatDoorProg.lean LOADS. Nothing in Lean hashes anything: it is a label: what it is worth is what the hold of that sum in a sandbox is worth. -/
noncomputable def Tryz.pinned : Pinned := { name := "ytepcmfegggdjfaagreatdoor", sum := "088544f064d2bfcee3473615682ad86401b46d7e5f5fab4889d526b58c3c8ec1", checked := Tryz.checked }
namespace Rows
def none {H : Type} : Left H := { results := [], args := [] }

/- WHAT THE LISTED PACKAGE-LEVEL VARIABLES READ AS WHEN THE CALL BEGINS. Each datum BY PROGRAM (the guide's laid-datum.mjs) off the statement by which the dump's own 'gosem.cut.vars' lays the variable. In a bare row this is a premise. The card (YtepcmfegggdjfaaGreatDoorCards.lean) ties it to the program's text. -/
def laid_unicode_utf8_acceptRanges {H : Type} : DataW H := .agg [.agg [.lit (.int .u8 128), .lit (.int .u8 191)], .agg [.lit (.int .u8 160), .lit (.int .u8 191)], .agg [.lit (.int .u8 128), .lit (.int .u8 159)], .agg [.lit (.int .u8 144), .lit (.int .u8 191)], .agg [.lit (.int .u8 128), .lit (.int .u8 143)], .agg [.lit (.int .u8 0), .lit (.int .u8 0)], .agg [.lit (.int .u8 0), .lit (.int .u8 0)], .agg [.lit (.int .u8 0), .lit (.int .u8 0)], .agg [.lit (.int .u8 0), .lit (.int .u8 0)], .agg [.lit (.int .u8 0), .lit (.int .u8 0)], .agg [.lit (.int .u8 0), .lit (.int .u8 0)], .agg [.lit (.int .u8 0), .lit (.int .u8 0)], .agg [.lit (.int .u8 0), .lit (.int .u8 0)], .agg [.lit (.int .u8 0), .lit (.int .u8 0)], .agg [.lit (.int .u8 0), .lit (.int .u8 0)], .agg [.lit (.int .u8 0), .lit (.int .u8 0)]]
def laid_flagon_ops_kinds {H : Type} : DataW H := .agg [.agg [.lit (.int .u8 0), .lit (.int .u8 12), .lit (.string []), .lit (.string [116, 114, 97, 112, 32, 110, 111, 112, 32, 98, 108, 111, 99, 107, 32, 108, 111, 111, 112, 32, 105, 102, 32, 101, 108, 115, 101, 32, 101, 110, 100, 32, 98, 114, 32, 98, 114, 105, 102, 32, 98, 114, 116, 97, 98, 108, 101, 32, 114, 101, 116, 117, 114, 110, 32, 99, 97, 108, 108, 32, 104, 111, 115, 116])], .agg [.lit (.int .u8 16), .lit (.int .u8 22), .lit (.string []), .lit (.string [100, 114, 111, 112, 32, 115, 101, 108, 101, 99, 116, 32, 103, 101, 116, 32, 115, 101, 116, 32, 116, 101, 101, 32, 103, 103, 101, 116, 32, 103, 115, 101, 116])], .agg [.lit (.int .u8 24), .lit (.int .u8 25), .lit (.string []), .lit (.string [119, 46, 99, 111, 110, 115, 116, 32, 108, 46, 99, 111, 110, 115, 116])], .agg [.lit (.int .u8 32), .lit (.int .u8 43), .lit (.string []), .lit (.string [119, 46, 108, 111, 97, 100, 56, 117, 32, 119, 46, 108, 111, 97, 100, 56, 115, 32, 119, 46, 108, 111, 97, 100, 49, 54, 117, 32, 119, 46, 108, 111, 97, 100, 49, 54, 115, 32, 119, 46, 108, 111, 97, 100, 32, 108, 46, 108, 111, 97, 100, 32, 119, 46, 115, 116, 111, 114, 101, 56, 32, 119, 46, 115, 116, 111, 114, 101, 49, 54, 32, 119, 46, 115, 116, 111, 114, 101, 32, 108, 46, 115, 116, 111, 114, 101, 32, 115, 105, 122, 101, 32, 103, 114, 111, 119])], .agg [.lit (.int .u8 48), .lit (.int .u8 72), .lit (.string [119, 46]), .lit (.string [101, 113, 122, 32, 101, 113, 32, 110, 101, 32, 108, 116, 115, 32, 108, 116, 117, 32, 108, 101, 115, 32, 108, 101, 117, 32, 99, 108, 122, 32, 99, 116, 122, 32, 112, 111, 112, 32, 97, 100, 100, 32, 115, 117, 98, 32, 109, 117, 108, 32, 100, 105, 118, 115, 32, 100, 105, 118, 117, 32, 114, 101, 109, 115, 32, 114, 101, 109, 117, 32, 97, 110, 100, 32, 111, 114, 32, 120, 111, 114, 32, 115, 104, 108, 32, 115, 104, 114, 115, 32, 115, 104, 114, 117, 32, 114, 111, 116, 108, 32, 114, 111, 116, 114])], .agg [.lit (.int .u8 80), .lit (.int .u8 104), .lit (.string [108, 46]), .lit (.string [101, 113, 122, 32, 101, 113, 32, 110, 101, 32, 108, 116, 115, 32, 108, 116, 117, 32, 108, 101, 115, 32, 108, 101, 117, 32, 99, 108, 122, 32, 99, 116, 122, 32, 112, 111, 112, 32, 97, 100, 100, 32, 115, 117, 98, 32, 109, 117, 108, 32, 100, 105, 118, 115, 32, 100, 105, 118, 117, 32, 114, 101, 109, 115, 32, 114, 101, 109, 117, 32, 97, 110, 100, 32, 111, 114, 32, 120, 111, 114, 32, 115, 104, 108, 32, 115, 104, 114, 115, 32, 115, 104, 114, 117, 32, 114, 111, 116, 108, 32, 114, 111, 116, 114])], .agg [.lit (.int .u8 112), .lit (.int .u8 117), .lit (.string []), .lit (.string [119, 46, 119, 114, 97, 112, 32, 108, 46, 101, 120, 116, 101, 110, 100, 115, 32, 108, 46, 101, 120, 116, 101, 110, 100, 117, 32, 119, 46, 101, 120, 116, 56, 32, 119, 46, 101, 120, 116, 49, 54, 32, 108, 46, 101, 120, 116, 51, 50])]]
/-- One of Go's own tables, pinned by name: the form's constant. -/
def laid_unicode_utf8_first : DataW Unit := Go.Pinned.utf8First

/-- 'flagonlaw21.InstanceMay': WHATEVER THE INPUT: true; the input reads as it did. -/
def instanceMaySpec : ChangeSpec := { name := "instanceMay", fn := fun _ => fun
  | [d1, d2, d3] => { results := [.lit (.bool true)], args := [d1, d2, d3] }
  | _ => none }
def instanceMayRow : OpenClaim := { program := "ytepcmfegggdjfaagreatdoor", sum := "088544f064d2bfcee3473615682ad86401b46d7e5f5fab4889d526b58c3c8ec1", func := "flagon/flagonlaw21.InstanceMay", spec := "instanceMay", inPlace := ["internal/bytealg.IndexByteString", "internal/bytealg.IndexString"], unfollowed := true, recurses := true, named := ["flagon/ops.kinds", "unicode/utf8.first", "unicode/utf8.acceptRanges", "internal/bytealg.MaxLen"], apart := false, laid := [("unicode/utf8.acceptRanges", laid_unicode_utf8_acceptRanges), ("flagon/ops.kinds", laid_flagon_ops_kinds), ("unicode/utf8.first", laid_unicode_utf8_first)] }
def InstanceMaySaid : Prop := instanceMayRow.holds Tryz.pinned (OpenSpec.ofChange instanceMaySpec)

/-- ITS FALSE NEIGHBOUR: 'it returns false'. Refute it at one input. -/
def instanceMayWrong : ChangeSpec := { name := "instanceMay", fn := fun _ => fun
  | [d1, d2, d3] => { results := [.lit (.bool false)], args := [d1, d2, d3] }
  | _ => none }
def InstanceMayWrongFalsely : Prop := instanceMayRow.holds Tryz.pinned (OpenSpec.ofChange instanceMayWrong)

/-- 'flagonlaw21.InstanceBytes': WHATEVER THE INPUT: true; the input reads as it did. -/
def instanceBytesSpec : ChangeSpec := { name := "instanceBytes", fn := fun _ => fun
  | [d1, d2, d3] => { results := [.lit (.bool true)], args := [d1, d2, d3] }
  | _ => none }
def instanceBytesRow : OpenClaim := { program := "ytepcmfegggdjfaagreatdoor", sum := "088544f064d2bfcee3473615682ad86401b46d7e5f5fab4889d526b58c3c8ec1", func := "flagon/flagonlaw21.InstanceBytes", spec := "instanceBytes", inPlace := ["internal/bytealg.IndexByteString", "internal/bytealg.IndexString"], unfollowed := true, recurses := true, named := ["flagon/ops.kinds", "unicode/utf8.first", "unicode/utf8.acceptRanges", "internal/bytealg.MaxLen"], apart := false, laid := [("unicode/utf8.acceptRanges", laid_unicode_utf8_acceptRanges), ("flagon/ops.kinds", laid_flagon_ops_kinds), ("unicode/utf8.first", laid_unicode_utf8_first)] }
def InstanceBytesSaid : Prop := instanceBytesRow.holds Tryz.pinned (OpenSpec.ofChange instanceBytesSpec)

/-- ITS FALSE NEIGHBOUR: 'it returns false'. Refute it at one input. -/
def instanceBytesWrong : ChangeSpec := { name := "instanceBytes", fn := fun _ => fun
  | [d1, d2, d3] => { results := [.lit (.bool false)], args := [d1, d2, d3] }
  | _ => none }
def InstanceBytesWrongFalsely : Prop := instanceBytesRow.holds Tryz.pinned (OpenSpec.ofChange instanceBytesWrong)

/- THE SECOND FORM. 'bulk': how many values and letters a reading holds, each counted each time it is reached (what is shared counts as often as it is met; a slice's spare places count too). A statement '..UptoSaid' is the law's where the arguments, and the package variables that the reading takes, are together of bulk at most 1048576: NARROWER than '..Said'. Prove '..Said' where nothing that the law and all that it calls make is longer than what came in: it says more and counts as full. Else prove '..UptoSaid'. A law counts once. -/
mutual
def uptoBulk {H : Type} : DataW H → Nat
  | .lit (.string bytes) => bytes.length + 1
  | .lit _ => 1
  | .nil => 1
  | .ptr d => uptoBulk d + 1
  | .slice elems spare => uptoBulkAll elems + uptoBulkAll spare + 1
  | .agg parts => uptoBulkAll parts + 1
  | .iface _ d => uptoBulk d + 1
  | .map entries => uptoBulkEntries entries + 1
  | .held _ => 1
def uptoBulkAll {H : Type} : List (DataW H) → Nat
  | [] => 0
  | d :: r => uptoBulk d + uptoBulkAll r
def uptoBulkEntries {H : Type} : List (Lit × DataW H) → Nat
  | [] => 0
  | x :: r => uptoBulkEntry x + uptoBulkEntries r
def uptoBulkEntry {H : Type} : Lit × DataW H → Nat
  | (.string bytes, d) => bytes.length + uptoBulk d + 1
  | (_, d) => uptoBulk d + 1
 end
def uptoSmall : (H : Type) → List (DataW H) → Bool := fun _ ds => decide (uptoBulkAll ds ≤ 1048576)
def OpenSpec.upto (s : _root_.Go.ChangeSpec) : _root_.Go.OpenSpec := { _root_.Go.OpenSpec.ofChange s with cond := some uptoSmall }

/-- 'flagonlaw21.InstanceMay', WHERE WHAT IT READS IS OF BULK AT MOST 1048576: true; the input reads as it did. -/
def instanceMayUptoRow : OpenClaim := { program := "ytepcmfegggdjfaagreatdoor", sum := "088544f064d2bfcee3473615682ad86401b46d7e5f5fab4889d526b58c3c8ec1", func := "flagon/flagonlaw21.InstanceMay", spec := "instanceMay", inPlace := ["internal/bytealg.IndexByteString", "internal/bytealg.IndexString"], unfollowed := true, recurses := true, named := ["flagon/ops.kinds", "unicode/utf8.first", "unicode/utf8.acceptRanges", "internal/bytealg.MaxLen"], apart := false, laid := [("unicode/utf8.acceptRanges", laid_unicode_utf8_acceptRanges), ("flagon/ops.kinds", laid_flagon_ops_kinds), ("unicode/utf8.first", laid_unicode_utf8_first)], narrowed := true }
def InstanceMayUptoSaid : Prop := instanceMayUptoRow.holds Tryz.pinned (OpenSpec.upto instanceMaySpec)

/-- 'flagonlaw21.InstanceBytes', WHERE WHAT IT READS IS OF BULK AT MOST 1048576: true; the input reads as it did. -/
def instanceBytesUptoRow : OpenClaim := { program := "ytepcmfegggdjfaagreatdoor", sum := "088544f064d2bfcee3473615682ad86401b46d7e5f5fab4889d526b58c3c8ec1", func := "flagon/flagonlaw21.InstanceBytes", spec := "instanceBytes", inPlace := ["internal/bytealg.IndexByteString", "internal/bytealg.IndexString"], unfollowed := true, recurses := true, named := ["flagon/ops.kinds", "unicode/utf8.first", "unicode/utf8.acceptRanges", "internal/bytealg.MaxLen"], apart := false, laid := [("unicode/utf8.acceptRanges", laid_unicode_utf8_acceptRanges), ("flagon/ops.kinds", laid_flagon_ops_kinds), ("unicode/utf8.first", laid_unicode_utf8_first)], narrowed := true }
def InstanceBytesUptoSaid : Prop := instanceBytesUptoRow.holds Tryz.pinned (OpenSpec.upto instanceBytesSpec)

end Rows
end Go.Proofs.YtepcmfegggdjfaaGreatDoor
