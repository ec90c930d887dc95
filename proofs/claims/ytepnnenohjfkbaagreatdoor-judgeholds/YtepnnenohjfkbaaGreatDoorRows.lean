/-
  NARROWER THAN 'FOR EVERY INPUT', by the rows' own cells (each row's printed sentence says how): ValidateWays: laid · ValidateAlone: laid · ValidateNops: laid · JudgeHolds: laid · JudgeOne: laid.
  DERIVED. THE GIVEN ROWS OF THIS SEAT. 5 by the template 'for every input the law returns true; each argument reads behind the call as it read before'; 0 by the template 'total and deterministic' (their statements: YtepnnenohjfkbaaGreatDoorTotals.lean).
  GIVEN WITH THE SEED: the statements are not yours to turn. If you find one false, say at which input.
  Laid BY PROGRAM, IN A SANDBOX (cutbox-rows.mjs): the forced cells as the released guide's own fill.sh prints them over the translation 76796733a2d1671c… (all of the seat's roots in one cut). By AI agents, Wed Nov 11 2026. No macro, syntax, notation, axiom, sorry.
-/
import Derived.Test.YtepnnenohjfkbaaGreatDoorChecked
import GoSem.PinnedTables
import GoSem.Claim
import GoSem.ClaimJoined
import GoSem.ClaimMapViews
import Derived.JoinedTies
import Derived.KernelRfl
namespace Go.Proofs.YtepnnenohjfkbaaGreatDoor
/- THE CELL 'sum', in the pinned program and in every row, IS THE sha256 OF THE DUMP (.gsa) THAT YtepnnenohjfkbaaGreatDoorProg.lean LOADS. Nothing in Lean hashes anything: it is a label: what it is worth is what the hold of that sum in a sandbox is worth. -/
noncomputable def Tryz.pinned : Pinned := { name := "ytepnnenohjfkbaagreatdoor", sum := "76796733a2d1671ca9f01b663201269901e6cfadc444c366d1991cdfd2f0dee5", checked := Tryz.checked }
namespace Rows
def none {H : Type} : Left H := { results := [], args := [] }

/- WHAT THE LISTED PACKAGE-LEVEL VARIABLES READ AS WHEN THE CALL BEGINS. Each datum BY PROGRAM (the guide's laid-datum.mjs) off the statement by which the dump's own 'gosem.cut.vars' lays the variable. In a bare row this is a premise. The card (YtepnnenohjfkbaaGreatDoorCards.lean) ties it to the program's text. -/
def laid_unicode_utf8_acceptRanges {H : Type} : DataW H := .agg [.agg [.lit (.int .u8 128), .lit (.int .u8 191)], .agg [.lit (.int .u8 160), .lit (.int .u8 191)], .agg [.lit (.int .u8 128), .lit (.int .u8 159)], .agg [.lit (.int .u8 144), .lit (.int .u8 191)], .agg [.lit (.int .u8 128), .lit (.int .u8 143)], .agg [.lit (.int .u8 0), .lit (.int .u8 0)], .agg [.lit (.int .u8 0), .lit (.int .u8 0)], .agg [.lit (.int .u8 0), .lit (.int .u8 0)], .agg [.lit (.int .u8 0), .lit (.int .u8 0)], .agg [.lit (.int .u8 0), .lit (.int .u8 0)], .agg [.lit (.int .u8 0), .lit (.int .u8 0)], .agg [.lit (.int .u8 0), .lit (.int .u8 0)], .agg [.lit (.int .u8 0), .lit (.int .u8 0)], .agg [.lit (.int .u8 0), .lit (.int .u8 0)], .agg [.lit (.int .u8 0), .lit (.int .u8 0)], .agg [.lit (.int .u8 0), .lit (.int .u8 0)]]
def laid_flagon_ops_kinds {H : Type} : DataW H := .agg [.agg [.lit (.int .u8 0), .lit (.int .u8 12), .lit (.string []), .lit (.string [116, 114, 97, 112, 32, 110, 111, 112, 32, 98, 108, 111, 99, 107, 32, 108, 111, 111, 112, 32, 105, 102, 32, 101, 108, 115, 101, 32, 101, 110, 100, 32, 98, 114, 32, 98, 114, 105, 102, 32, 98, 114, 116, 97, 98, 108, 101, 32, 114, 101, 116, 117, 114, 110, 32, 99, 97, 108, 108, 32, 104, 111, 115, 116])], .agg [.lit (.int .u8 16), .lit (.int .u8 22), .lit (.string []), .lit (.string [100, 114, 111, 112, 32, 115, 101, 108, 101, 99, 116, 32, 103, 101, 116, 32, 115, 101, 116, 32, 116, 101, 101, 32, 103, 103, 101, 116, 32, 103, 115, 101, 116])], .agg [.lit (.int .u8 24), .lit (.int .u8 25), .lit (.string []), .lit (.string [119, 46, 99, 111, 110, 115, 116, 32, 108, 46, 99, 111, 110, 115, 116])], .agg [.lit (.int .u8 32), .lit (.int .u8 43), .lit (.string []), .lit (.string [119, 46, 108, 111, 97, 100, 56, 117, 32, 119, 46, 108, 111, 97, 100, 56, 115, 32, 119, 46, 108, 111, 97, 100, 49, 54, 117, 32, 119, 46, 108, 111, 97, 100, 49, 54, 115, 32, 119, 46, 108, 111, 97, 100, 32, 108, 46, 108, 111, 97, 100, 32, 119, 46, 115, 116, 111, 114, 101, 56, 32, 119, 46, 115, 116, 111, 114, 101, 49, 54, 32, 119, 46, 115, 116, 111, 114, 101, 32, 108, 46, 115, 116, 111, 114, 101, 32, 115, 105, 122, 101, 32, 103, 114, 111, 119])], .agg [.lit (.int .u8 48), .lit (.int .u8 72), .lit (.string [119, 46]), .lit (.string [101, 113, 122, 32, 101, 113, 32, 110, 101, 32, 108, 116, 115, 32, 108, 116, 117, 32, 108, 101, 115, 32, 108, 101, 117, 32, 99, 108, 122, 32, 99, 116, 122, 32, 112, 111, 112, 32, 97, 100, 100, 32, 115, 117, 98, 32, 109, 117, 108, 32, 100, 105, 118, 115, 32, 100, 105, 118, 117, 32, 114, 101, 109, 115, 32, 114, 101, 109, 117, 32, 97, 110, 100, 32, 111, 114, 32, 120, 111, 114, 32, 115, 104, 108, 32, 115, 104, 114, 115, 32, 115, 104, 114, 117, 32, 114, 111, 116, 108, 32, 114, 111, 116, 114])], .agg [.lit (.int .u8 80), .lit (.int .u8 104), .lit (.string [108, 46]), .lit (.string [101, 113, 122, 32, 101, 113, 32, 110, 101, 32, 108, 116, 115, 32, 108, 116, 117, 32, 108, 101, 115, 32, 108, 101, 117, 32, 99, 108, 122, 32, 99, 116, 122, 32, 112, 111, 112, 32, 97, 100, 100, 32, 115, 117, 98, 32, 109, 117, 108, 32, 100, 105, 118, 115, 32, 100, 105, 118, 117, 32, 114, 101, 109, 115, 32, 114, 101, 109, 117, 32, 97, 110, 100, 32, 111, 114, 32, 120, 111, 114, 32, 115, 104, 108, 32, 115, 104, 114, 115, 32, 115, 104, 114, 117, 32, 114, 111, 116, 108, 32, 114, 111, 116, 114])], .agg [.lit (.int .u8 112), .lit (.int .u8 117), .lit (.string []), .lit (.string [119, 46, 119, 114, 97, 112, 32, 108, 46, 101, 120, 116, 101, 110, 100, 115, 32, 108, 46, 101, 120, 116, 101, 110, 100, 117, 32, 119, 46, 101, 120, 116, 56, 32, 119, 46, 101, 120, 116, 49, 54, 32, 108, 46, 101, 120, 116, 51, 50])]]
/-- One of Go's own tables, pinned by name: the form's constant. -/
def laid_unicode_utf8_first : DataW Unit := Go.Pinned.utf8First
def laid_math_bits_deBruijn32tab {H : Type} : DataW H := .agg [.lit (.int .u8 0), .lit (.int .u8 1), .lit (.int .u8 28), .lit (.int .u8 2), .lit (.int .u8 29), .lit (.int .u8 14), .lit (.int .u8 24), .lit (.int .u8 3), .lit (.int .u8 30), .lit (.int .u8 22), .lit (.int .u8 20), .lit (.int .u8 15), .lit (.int .u8 25), .lit (.int .u8 17), .lit (.int .u8 4), .lit (.int .u8 8), .lit (.int .u8 31), .lit (.int .u8 27), .lit (.int .u8 13), .lit (.int .u8 23), .lit (.int .u8 21), .lit (.int .u8 19), .lit (.int .u8 16), .lit (.int .u8 7), .lit (.int .u8 26), .lit (.int .u8 12), .lit (.int .u8 18), .lit (.int .u8 6), .lit (.int .u8 11), .lit (.int .u8 5), .lit (.int .u8 10), .lit (.int .u8 9)]
def laid_math_bits_deBruijn64tab {H : Type} : DataW H := .agg [.lit (.int .u8 0), .lit (.int .u8 1), .lit (.int .u8 56), .lit (.int .u8 2), .lit (.int .u8 57), .lit (.int .u8 49), .lit (.int .u8 28), .lit (.int .u8 3), .lit (.int .u8 61), .lit (.int .u8 58), .lit (.int .u8 42), .lit (.int .u8 50), .lit (.int .u8 38), .lit (.int .u8 29), .lit (.int .u8 17), .lit (.int .u8 4), .lit (.int .u8 62), .lit (.int .u8 47), .lit (.int .u8 59), .lit (.int .u8 36), .lit (.int .u8 45), .lit (.int .u8 43), .lit (.int .u8 51), .lit (.int .u8 22), .lit (.int .u8 53), .lit (.int .u8 39), .lit (.int .u8 33), .lit (.int .u8 30), .lit (.int .u8 24), .lit (.int .u8 18), .lit (.int .u8 12), .lit (.int .u8 5), .lit (.int .u8 63), .lit (.int .u8 55), .lit (.int .u8 48), .lit (.int .u8 27), .lit (.int .u8 60), .lit (.int .u8 41), .lit (.int .u8 37), .lit (.int .u8 16), .lit (.int .u8 46), .lit (.int .u8 35), .lit (.int .u8 44), .lit (.int .u8 21), .lit (.int .u8 52), .lit (.int .u8 32), .lit (.int .u8 23), .lit (.int .u8 11), .lit (.int .u8 54), .lit (.int .u8 26), .lit (.int .u8 40), .lit (.int .u8 15), .lit (.int .u8 34), .lit (.int .u8 20), .lit (.int .u8 31), .lit (.int .u8 10), .lit (.int .u8 25), .lit (.int .u8 14), .lit (.int .u8 19), .lit (.int .u8 9), .lit (.int .u8 13), .lit (.int .u8 8), .lit (.int .u8 7), .lit (.int .u8 6)]
def laid_internal_strconv_uint64pow10 {H : Type} : DataW H := .agg [.lit (.int .u64 1), .lit (.int .u64 10), .lit (.int .u64 100), .lit (.int .u64 1000), .lit (.int .u64 10000), .lit (.int .u64 100000), .lit (.int .u64 1000000), .lit (.int .u64 10000000), .lit (.int .u64 100000000), .lit (.int .u64 1000000000), .lit (.int .u64 10000000000), .lit (.int .u64 100000000000), .lit (.int .u64 1000000000000), .lit (.int .u64 10000000000000), .lit (.int .u64 100000000000000), .lit (.int .u64 1000000000000000), .lit (.int .u64 10000000000000000), .lit (.int .u64 100000000000000000), .lit (.int .u64 1000000000000000000), .lit (.int .u64 10000000000000000000)]

/-- 'flagonlaw10.ValidateWays': WHATEVER THE INPUT: true; the input reads as it did. -/
def validateWaysSpec : ChangeSpec := { name := "validateWays", fn := fun _ => fun
  | [d] => { results := [.lit (.bool true)], args := [d] }
  | _ => none }
def validateWaysRow : OpenClaim := { program := "ytepnnenohjfkbaagreatdoor", sum := "76796733a2d1671ca9f01b663201269901e6cfadc444c366d1991cdfd2f0dee5", func := "flagon/flagonlaw10.ValidateWays", spec := "validateWays", inPlace := ["internal/bytealg.IndexByteString", "internal/bytealg.IndexString"], unfollowed := true, recurses := true, named := ["flagon/ops.kinds", "unicode/utf8.first", "unicode/utf8.acceptRanges", "internal/bytealg.MaxLen"], apart := false, laid := [("unicode/utf8.acceptRanges", laid_unicode_utf8_acceptRanges), ("flagon/ops.kinds", laid_flagon_ops_kinds), ("unicode/utf8.first", laid_unicode_utf8_first)] }
def ValidateWaysSaid : Prop := validateWaysRow.holds Tryz.pinned (OpenSpec.ofChange validateWaysSpec)

/-- ITS FALSE NEIGHBOUR: 'it returns false'. Refute it at one input. -/
def validateWaysWrong : ChangeSpec := { name := "validateWays", fn := fun _ => fun
  | [d] => { results := [.lit (.bool false)], args := [d] }
  | _ => none }
def ValidateWaysWrongFalsely : Prop := validateWaysRow.holds Tryz.pinned (OpenSpec.ofChange validateWaysWrong)

/-- 'flagonlaw10.ValidateAlone': WHATEVER THE INPUT: true; the input reads as it did. -/
def validateAloneSpec : ChangeSpec := { name := "validateAlone", fn := fun _ => fun
  | [d1, d2, d3] => { results := [.lit (.bool true)], args := [d1, d2, d3] }
  | _ => none }
def validateAloneRow : OpenClaim := { program := "ytepnnenohjfkbaagreatdoor", sum := "76796733a2d1671ca9f01b663201269901e6cfadc444c366d1991cdfd2f0dee5", func := "flagon/flagonlaw10.ValidateAlone", spec := "validateAlone", inPlace := ["internal/bytealg.IndexByteString", "internal/bytealg.IndexString"], unfollowed := true, recurses := true, named := ["flagon/ops.kinds", "unicode/utf8.first", "unicode/utf8.acceptRanges", "internal/bytealg.MaxLen"], apart := false, laid := [("unicode/utf8.acceptRanges", laid_unicode_utf8_acceptRanges), ("flagon/ops.kinds", laid_flagon_ops_kinds), ("unicode/utf8.first", laid_unicode_utf8_first)] }
def ValidateAloneSaid : Prop := validateAloneRow.holds Tryz.pinned (OpenSpec.ofChange validateAloneSpec)

/-- ITS FALSE NEIGHBOUR: 'it returns false'. Refute it at one input. -/
def validateAloneWrong : ChangeSpec := { name := "validateAlone", fn := fun _ => fun
  | [d1, d2, d3] => { results := [.lit (.bool false)], args := [d1, d2, d3] }
  | _ => none }
def ValidateAloneWrongFalsely : Prop := validateAloneRow.holds Tryz.pinned (OpenSpec.ofChange validateAloneWrong)

/-- 'flagonlaw10.ValidateNops': WHATEVER THE INPUT: true; the input reads as it did. -/
def validateNopsSpec : ChangeSpec := { name := "validateNops", fn := fun _ => fun
  | [d1, d2, d3] => { results := [.lit (.bool true)], args := [d1, d2, d3] }
  | _ => none }
def validateNopsRow : OpenClaim := { program := "ytepnnenohjfkbaagreatdoor", sum := "76796733a2d1671ca9f01b663201269901e6cfadc444c366d1991cdfd2f0dee5", func := "flagon/flagonlaw10.ValidateNops", spec := "validateNops", inPlace := ["internal/bytealg.IndexByteString", "internal/bytealg.IndexString"], unfollowed := true, recurses := true, named := ["flagon/ops.kinds", "unicode/utf8.first", "unicode/utf8.acceptRanges", "internal/bytealg.MaxLen"], apart := false, laid := [("unicode/utf8.acceptRanges", laid_unicode_utf8_acceptRanges), ("flagon/ops.kinds", laid_flagon_ops_kinds), ("unicode/utf8.first", laid_unicode_utf8_first)] }
def ValidateNopsSaid : Prop := validateNopsRow.holds Tryz.pinned (OpenSpec.ofChange validateNopsSpec)

/-- ITS FALSE NEIGHBOUR: 'it returns false'. Refute it at one input. -/
def validateNopsWrong : ChangeSpec := { name := "validateNops", fn := fun _ => fun
  | [d1, d2, d3] => { results := [.lit (.bool false)], args := [d1, d2, d3] }
  | _ => none }
def ValidateNopsWrongFalsely : Prop := validateNopsRow.holds Tryz.pinned (OpenSpec.ofChange validateNopsWrong)

/-- 'flagonlaw11.JudgeHolds': WHATEVER THE INPUT: true; the input reads as it did. -/
def judgeHoldsSpec : ChangeSpec := { name := "judgeHolds", fn := fun _ => fun
  | [d1, d2, d3] => { results := [.lit (.bool true)], args := [d1, d2, d3] }
  | _ => none }
def judgeHoldsRow : OpenClaim := { program := "ytepnnenohjfkbaagreatdoor", sum := "76796733a2d1671ca9f01b663201269901e6cfadc444c366d1991cdfd2f0dee5", func := "flagon/flagonlaw11.JudgeHolds", spec := "judgeHolds", inPlace := ["internal/bytealg.IndexByteString", "internal/bytealg.IndexString"], unfollowed := true, recurses := true, named := ["flagon/ops.kinds", "unicode/utf8.first", "unicode/utf8.acceptRanges", "internal/bytealg.MaxLen", "internal/strconv.uint64pow10", "math/bits.deBruijn32tab", "math/bits.deBruijn64tab"], apart := false, laid := [("math/bits.deBruijn32tab", laid_math_bits_deBruijn32tab), ("math/bits.deBruijn64tab", laid_math_bits_deBruijn64tab), ("internal/strconv.uint64pow10", laid_internal_strconv_uint64pow10), ("unicode/utf8.acceptRanges", laid_unicode_utf8_acceptRanges), ("flagon/ops.kinds", laid_flagon_ops_kinds), ("unicode/utf8.first", laid_unicode_utf8_first)] }
def JudgeHoldsSaid : Prop := judgeHoldsRow.holds Tryz.pinned (OpenSpec.ofChange judgeHoldsSpec)

/-- ITS FALSE NEIGHBOUR: 'it returns false'. Refute it at one input. -/
def judgeHoldsWrong : ChangeSpec := { name := "judgeHolds", fn := fun _ => fun
  | [d1, d2, d3] => { results := [.lit (.bool false)], args := [d1, d2, d3] }
  | _ => none }
def JudgeHoldsWrongFalsely : Prop := judgeHoldsRow.holds Tryz.pinned (OpenSpec.ofChange judgeHoldsWrong)

/-- 'flagonlaw11.JudgeOne': WHATEVER THE INPUT: true; the input reads as it did. -/
def judgeOneSpec : ChangeSpec := { name := "judgeOne", fn := fun _ => fun
  | [d1, d2, d3] => { results := [.lit (.bool true)], args := [d1, d2, d3] }
  | _ => none }
def judgeOneRow : OpenClaim := { program := "ytepnnenohjfkbaagreatdoor", sum := "76796733a2d1671ca9f01b663201269901e6cfadc444c366d1991cdfd2f0dee5", func := "flagon/flagonlaw11.JudgeOne", spec := "judgeOne", inPlace := ["internal/bytealg.IndexByteString", "internal/bytealg.IndexString"], unfollowed := true, recurses := true, named := ["flagon/ops.kinds", "unicode/utf8.first", "unicode/utf8.acceptRanges", "internal/bytealg.MaxLen"], apart := false, laid := [("unicode/utf8.acceptRanges", laid_unicode_utf8_acceptRanges), ("flagon/ops.kinds", laid_flagon_ops_kinds), ("unicode/utf8.first", laid_unicode_utf8_first)] }
def JudgeOneSaid : Prop := judgeOneRow.holds Tryz.pinned (OpenSpec.ofChange judgeOneSpec)

/-- ITS FALSE NEIGHBOUR: 'it returns false'. Refute it at one input. -/
def judgeOneWrong : ChangeSpec := { name := "judgeOne", fn := fun _ => fun
  | [d1, d2, d3] => { results := [.lit (.bool false)], args := [d1, d2, d3] }
  | _ => none }
def JudgeOneWrongFalsely : Prop := judgeOneRow.holds Tryz.pinned (OpenSpec.ofChange judgeOneWrong)

/- THE SECOND FORM. 'bulk': how many values and letters a reading holds, each counted each time it is reached (what is shared counts as often as it is met; a slice's spare places count too). A statement '..UptoSaid' is the law's where the arguments, and the package variables that the reading takes, are together of bulk at most 1048576: NARROWER than '..Said'. Prove '..Said' where nothing that the law and all that it calls make is longer than what came in: it says more and counts as full. Else prove '..UptoSaid'. A law counts once. -/
mutual
def uptoBulk {H : Type} : DataW H → Nat
  | .lit (.string bytes) => bytes.length + 1
  | .lit _ => 1
  | .nil => 1
  | .ptr d => uptoBulk d + 1
  | .slice elems spare => uptoBulkAll elems + uptoBulkAll spare + 1
  | .agg parts => uptoBulkAll parts + 1
  | .iface _ d => uptoBulk d + 1
  | .map entries => uptoBulkEntries entries + 1
  | .held _ => 1
def uptoBulkAll {H : Type} : List (DataW H) → Nat
  | [] => 0
  | d :: r => uptoBulk d + uptoBulkAll r
def uptoBulkEntries {H : Type} : List (Lit × DataW H) → Nat
  | [] => 0
  | x :: r => uptoBulkEntry x + uptoBulkEntries r
def uptoBulkEntry {H : Type} : Lit × DataW H → Nat
  | (.string bytes, d) => bytes.length + uptoBulk d + 1
  | (_, d) => uptoBulk d + 1
 end
def uptoSmall : (H : Type) → List (DataW H) → Bool := fun _ ds => decide (uptoBulkAll ds ≤ 1048576)
def OpenSpec.upto (s : _root_.Go.ChangeSpec) : _root_.Go.OpenSpec := { _root_.Go.OpenSpec.ofChange s with cond := some uptoSmall }

/-- 'flagonlaw10.ValidateWays', WHERE WHAT IT READS IS OF BULK AT MOST 1048576: true; the input reads as it did. -/
def validateWaysUptoRow : OpenClaim := { program := "ytepnnenohjfkbaagreatdoor", sum := "76796733a2d1671ca9f01b663201269901e6cfadc444c366d1991cdfd2f0dee5", func := "flagon/flagonlaw10.ValidateWays", spec := "validateWays", inPlace := ["internal/bytealg.IndexByteString", "internal/bytealg.IndexString"], unfollowed := true, recurses := true, named := ["flagon/ops.kinds", "unicode/utf8.first", "unicode/utf8.acceptRanges", "internal/bytealg.MaxLen"], apart := false, laid := [("unicode/utf8.acceptRanges", laid_unicode_utf8_acceptRanges), ("flagon/ops.kinds", laid_flagon_ops_kinds), ("unicode/utf8.first", laid_unicode_utf8_first)], narrowed := true }
def ValidateWaysUptoSaid : Prop := validateWaysUptoRow.holds Tryz.pinned (OpenSpec.upto validateWaysSpec)

/-- 'flagonlaw10.ValidateAlone', WHERE WHAT IT READS IS OF BULK AT MOST 1048576: true; the input reads as it did. -/
def validateAloneUptoRow : OpenClaim := { program := "ytepnnenohjfkbaagreatdoor", sum := "76796733a2d1671ca9f01b663201269901e6cfadc444c366d1991cdfd2f0dee5", func := "flagon/flagonlaw10.ValidateAlone", spec := "validateAlone", inPlace := ["internal/bytealg.IndexByteString", "internal/bytealg.IndexString"], unfollowed := true, recurses := true, named := ["flagon/ops.kinds", "unicode/utf8.first", "unicode/utf8.acceptRanges", "internal/bytealg.MaxLen"], apart := false, laid := [("unicode/utf8.acceptRanges", laid_unicode_utf8_acceptRanges), ("flagon/ops.kinds", laid_flagon_ops_kinds), ("unicode/utf8.first", laid_unicode_utf8_first)], narrowed := true }
def ValidateAloneUptoSaid : Prop := validateAloneUptoRow.holds Tryz.pinned (OpenSpec.upto validateAloneSpec)

/-- 'flagonlaw10.ValidateNops', WHERE WHAT IT READS IS OF BULK AT MOST 1048576: true; the input reads as it did. -/
def validateNopsUptoRow : OpenClaim := { program := "ytepnnenohjfkbaagreatdoor", sum := "76796733a2d1671ca9f01b663201269901e6cfadc444c366d1991cdfd2f0dee5", func := "flagon/flagonlaw10.ValidateNops", spec := "validateNops", inPlace := ["internal/bytealg.IndexByteString", "internal/bytealg.IndexString"], unfollowed := true, recurses := true, named := ["flagon/ops.kinds", "unicode/utf8.first", "unicode/utf8.acceptRanges", "internal/bytealg.MaxLen"], apart := false, laid := [("unicode/utf8.acceptRanges", laid_unicode_utf8_acceptRanges), ("flagon/ops.kinds", laid_flagon_ops_kinds), ("unicode/utf8.first", laid_unicode_utf8_first)], narrowed := true }
def ValidateNopsUptoSaid : Prop := validateNopsUptoRow.holds Tryz.pinned (OpenSpec.upto validateNopsSpec)

/-- 'flagonlaw11.JudgeHolds', WHERE WHAT IT READS IS OF BULK AT MOST 1048576: true; the input reads as it did. -/
def judgeHoldsUptoRow : OpenClaim := { program := "ytepnnenohjfkbaagreatdoor", sum := "76796733a2d1671ca9f01b663201269901e6cfadc444c366d1991cdfd2f0dee5", func := "flagon/flagonlaw11.JudgeHolds", spec := "judgeHolds", inPlace := ["internal/bytealg.IndexByteString", "internal/bytealg.IndexString"], unfollowed := true, recurses := true, named := ["flagon/ops.kinds", "unicode/utf8.first", "unicode/utf8.acceptRanges", "internal/bytealg.MaxLen", "internal/strconv.uint64pow10", "math/bits.deBruijn32tab", "math/bits.deBruijn64tab"], apart := false, laid := [("math/bits.deBruijn32tab", laid_math_bits_deBruijn32tab), ("math/bits.deBruijn64tab", laid_math_bits_deBruijn64tab), ("internal/strconv.uint64pow10", laid_internal_strconv_uint64pow10), ("unicode/utf8.acceptRanges", laid_unicode_utf8_acceptRanges), ("flagon/ops.kinds", laid_flagon_ops_kinds), ("unicode/utf8.first", laid_unicode_utf8_first)], narrowed := true }
def JudgeHoldsUptoSaid : Prop := judgeHoldsUptoRow.holds Tryz.pinned (OpenSpec.upto judgeHoldsSpec)

/-- 'flagonlaw11.JudgeOne', WHERE WHAT IT READS IS OF BULK AT MOST 1048576: true; the input reads as it did. -/
def judgeOneUptoRow : OpenClaim := { program := "ytepnnenohjfkbaagreatdoor", sum := "76796733a2d1671ca9f01b663201269901e6cfadc444c366d1991cdfd2f0dee5", func := "flagon/flagonlaw11.JudgeOne", spec := "judgeOne", inPlace := ["internal/bytealg.IndexByteString", "internal/bytealg.IndexString"], unfollowed := true, recurses := true, named := ["flagon/ops.kinds", "unicode/utf8.first", "unicode/utf8.acceptRanges", "internal/bytealg.MaxLen"], apart := false, laid := [("unicode/utf8.acceptRanges", laid_unicode_utf8_acceptRanges), ("flagon/ops.kinds", laid_flagon_ops_kinds), ("unicode/utf8.first", laid_unicode_utf8_first)], narrowed := true }
def JudgeOneUptoSaid : Prop := judgeOneUptoRow.holds Tryz.pinned (OpenSpec.upto judgeOneSpec)

end Rows
end Go.Proofs.YtepnnenohjfkbaaGreatDoor
