/-
  NARROWER THAN 'FOR EVERY INPUT', by the rows' own cells (each row's printed sentence says how): InstrWrites: laid · InstrReads: laid · InstrBack: laid · InstrList: laid.
  DERIVED. THE GIVEN ROWS OF THIS SEAT. 4 by the template 'for every input the law returns true; each argument reads behind the call as it read before'; 0 by the template 'total and deterministic' (their statements: YtgljlclnmnfocaaDoorTotals.lean).
  GIVEN WITH THE SEED: the statements are not yours to turn. If you find one false, say at which input.
  Laid BY PROGRAM, IN A SANDBOX (cutbox-rows.mjs): the forced cells as the released guide's own fill.sh prints them over the translation be592a8eb1be216a… (all of the seat's roots in one cut). By AI agents, Wed Nov 11 2026. No macro, syntax, notation, axiom, sorry.
-/
import Derived.Test.YtgljlclnmnfocaaDoorChecked
import GoSem.PinnedTables
import GoSem.Claim
import GoSem.ClaimJoined
import GoSem.ClaimMapViews
import Derived.JoinedTies
import Derived.KernelRfl
namespace Go.Proofs.YtgljlclnmnfocaaDoor
/- THE CELL 'sum', in the pinned program and in every row, IS THE sha256 OF THE DUMP (.gsa) THAT YtgljlclnmnfocaaDoorProg.lean LOADS. Nothing in Lean hashes anything: it is a label: what it is worth is what the hold of that sum in a sandbox is worth. -/
noncomputable def Tryd.pinned : Pinned := { name := "ytgljlclnmnfocaadoor", sum := "be592a8eb1be216ab188169f2748dbd1cdc4ea2832e238bdfb1e39b459ec5294", checked := Tryd.checked }
namespace Rows
def none {H : Type} : Left H := { results := [], args := [] }

/- WHAT THE LISTED PACKAGE-LEVEL VARIABLES READ AS WHEN THE CALL BEGINS. Each datum BY PROGRAM (the guide's laid-datum.mjs) off the statement by which the dump's own 'gosem.cut.vars' lays the variable. In a bare row this is a premise. The card (YtgljlclnmnfocaaDoorCards.lean) ties it to the program's text. -/
def laid_math_bits_deBruijn32tab {H : Type} : DataW H := .agg [.lit (.int .u8 0), .lit (.int .u8 1), .lit (.int .u8 28), .lit (.int .u8 2), .lit (.int .u8 29), .lit (.int .u8 14), .lit (.int .u8 24), .lit (.int .u8 3), .lit (.int .u8 30), .lit (.int .u8 22), .lit (.int .u8 20), .lit (.int .u8 15), .lit (.int .u8 25), .lit (.int .u8 17), .lit (.int .u8 4), .lit (.int .u8 8), .lit (.int .u8 31), .lit (.int .u8 27), .lit (.int .u8 13), .lit (.int .u8 23), .lit (.int .u8 21), .lit (.int .u8 19), .lit (.int .u8 16), .lit (.int .u8 7), .lit (.int .u8 26), .lit (.int .u8 12), .lit (.int .u8 18), .lit (.int .u8 6), .lit (.int .u8 11), .lit (.int .u8 5), .lit (.int .u8 10), .lit (.int .u8 9)]
def laid_math_bits_deBruijn64tab {H : Type} : DataW H := .agg [.lit (.int .u8 0), .lit (.int .u8 1), .lit (.int .u8 56), .lit (.int .u8 2), .lit (.int .u8 57), .lit (.int .u8 49), .lit (.int .u8 28), .lit (.int .u8 3), .lit (.int .u8 61), .lit (.int .u8 58), .lit (.int .u8 42), .lit (.int .u8 50), .lit (.int .u8 38), .lit (.int .u8 29), .lit (.int .u8 17), .lit (.int .u8 4), .lit (.int .u8 62), .lit (.int .u8 47), .lit (.int .u8 59), .lit (.int .u8 36), .lit (.int .u8 45), .lit (.int .u8 43), .lit (.int .u8 51), .lit (.int .u8 22), .lit (.int .u8 53), .lit (.int .u8 39), .lit (.int .u8 33), .lit (.int .u8 30), .lit (.int .u8 24), .lit (.int .u8 18), .lit (.int .u8 12), .lit (.int .u8 5), .lit (.int .u8 63), .lit (.int .u8 55), .lit (.int .u8 48), .lit (.int .u8 27), .lit (.int .u8 60), .lit (.int .u8 41), .lit (.int .u8 37), .lit (.int .u8 16), .lit (.int .u8 46), .lit (.int .u8 35), .lit (.int .u8 44), .lit (.int .u8 21), .lit (.int .u8 52), .lit (.int .u8 32), .lit (.int .u8 23), .lit (.int .u8 11), .lit (.int .u8 54), .lit (.int .u8 26), .lit (.int .u8 40), .lit (.int .u8 15), .lit (.int .u8 34), .lit (.int .u8 20), .lit (.int .u8 31), .lit (.int .u8 10), .lit (.int .u8 25), .lit (.int .u8 14), .lit (.int .u8 19), .lit (.int .u8 9), .lit (.int .u8 13), .lit (.int .u8 8), .lit (.int .u8 7), .lit (.int .u8 6)]
def laid_internal_strconv_uint64pow10 {H : Type} : DataW H := .agg [.lit (.int .u64 1), .lit (.int .u64 10), .lit (.int .u64 100), .lit (.int .u64 1000), .lit (.int .u64 10000), .lit (.int .u64 100000), .lit (.int .u64 1000000), .lit (.int .u64 10000000), .lit (.int .u64 100000000), .lit (.int .u64 1000000000), .lit (.int .u64 10000000000), .lit (.int .u64 100000000000), .lit (.int .u64 1000000000000), .lit (.int .u64 10000000000000), .lit (.int .u64 100000000000000), .lit (.int .u64 1000000000000000), .lit (.int .u64 10000000000000000), .lit (.int .u64 100000000000000000), .lit (.int .u64 1000000000000000000), .lit (.int .u64 10000000000000000000)]
def laid_unicode_utf8_acceptRanges {H : Type} : DataW H := .agg [.agg [.lit (.int .u8 128), .lit (.int .u8 191)], .agg [.lit (.int .u8 160), .lit (.int .u8 191)], .agg [.lit (.int .u8 128), .lit (.int .u8 159)], .agg [.lit (.int .u8 144), .lit (.int .u8 191)], .agg [.lit (.int .u8 128), .lit (.int .u8 143)], .agg [.lit (.int .u8 0), .lit (.int .u8 0)], .agg [.lit (.int .u8 0), .lit (.int .u8 0)], .agg [.lit (.int .u8 0), .lit (.int .u8 0)], .agg [.lit (.int .u8 0), .lit (.int .u8 0)], .agg [.lit (.int .u8 0), .lit (.int .u8 0)], .agg [.lit (.int .u8 0), .lit (.int .u8 0)], .agg [.lit (.int .u8 0), .lit (.int .u8 0)], .agg [.lit (.int .u8 0), .lit (.int .u8 0)], .agg [.lit (.int .u8 0), .lit (.int .u8 0)], .agg [.lit (.int .u8 0), .lit (.int .u8 0)], .agg [.lit (.int .u8 0), .lit (.int .u8 0)]]
def laid_flagon_ops_kinds {H : Type} : DataW H := .agg [.agg [.lit (.int .u8 0), .lit (.int .u8 12), .lit (.string []), .lit (.string [116, 114, 97, 112, 32, 110, 111, 112, 32, 98, 108, 111, 99, 107, 32, 108, 111, 111, 112, 32, 105, 102, 32, 101, 108, 115, 101, 32, 101, 110, 100, 32, 98, 114, 32, 98, 114, 105, 102, 32, 98, 114, 116, 97, 98, 108, 101, 32, 114, 101, 116, 117, 114, 110, 32, 99, 97, 108, 108, 32, 104, 111, 115, 116])], .agg [.lit (.int .u8 16), .lit (.int .u8 22), .lit (.string []), .lit (.string [100, 114, 111, 112, 32, 115, 101, 108, 101, 99, 116, 32, 103, 101, 116, 32, 115, 101, 116, 32, 116, 101, 101, 32, 103, 103, 101, 116, 32, 103, 115, 101, 116])], .agg [.lit (.int .u8 24), .lit (.int .u8 25), .lit (.string []), .lit (.string [119, 46, 99, 111, 110, 115, 116, 32, 108, 46, 99, 111, 110, 115, 116])], .agg [.lit (.int .u8 32), .lit (.int .u8 43), .lit (.string []), .lit (.string [119, 46, 108, 111, 97, 100, 56, 117, 32, 119, 46, 108, 111, 97, 100, 56, 115, 32, 119, 46, 108, 111, 97, 100, 49, 54, 117, 32, 119, 46, 108, 111, 97, 100, 49, 54, 115, 32, 119, 46, 108, 111, 97, 100, 32, 108, 46, 108, 111, 97, 100, 32, 119, 46, 115, 116, 111, 114, 101, 56, 32, 119, 46, 115, 116, 111, 114, 101, 49, 54, 32, 119, 46, 115, 116, 111, 114, 101, 32, 108, 46, 115, 116, 111, 114, 101, 32, 115, 105, 122, 101, 32, 103, 114, 111, 119])], .agg [.lit (.int .u8 48), .lit (.int .u8 72), .lit (.string [119, 46]), .lit (.string [101, 113, 122, 32, 101, 113, 32, 110, 101, 32, 108, 116, 115, 32, 108, 116, 117, 32, 108, 101, 115, 32, 108, 101, 117, 32, 99, 108, 122, 32, 99, 116, 122, 32, 112, 111, 112, 32, 97, 100, 100, 32, 115, 117, 98, 32, 109, 117, 108, 32, 100, 105, 118, 115, 32, 100, 105, 118, 117, 32, 114, 101, 109, 115, 32, 114, 101, 109, 117, 32, 97, 110, 100, 32, 111, 114, 32, 120, 111, 114, 32, 115, 104, 108, 32, 115, 104, 114, 115, 32, 115, 104, 114, 117, 32, 114, 111, 116, 108, 32, 114, 111, 116, 114])], .agg [.lit (.int .u8 80), .lit (.int .u8 104), .lit (.string [108, 46]), .lit (.string [101, 113, 122, 32, 101, 113, 32, 110, 101, 32, 108, 116, 115, 32, 108, 116, 117, 32, 108, 101, 115, 32, 108, 101, 117, 32, 99, 108, 122, 32, 99, 116, 122, 32, 112, 111, 112, 32, 97, 100, 100, 32, 115, 117, 98, 32, 109, 117, 108, 32, 100, 105, 118, 115, 32, 100, 105, 118, 117, 32, 114, 101, 109, 115, 32, 114, 101, 109, 117, 32, 97, 110, 100, 32, 111, 114, 32, 120, 111, 114, 32, 115, 104, 108, 32, 115, 104, 114, 115, 32, 115, 104, 114, 117, 32, 114, 111, 116, 108, 32, 114, 111, 116, 114])], .agg [.lit (.int .u8 112), .lit (.int .u8 117), .lit (.string []), .lit (.string [119, 46, 119, 114, 97, 112, 32, 108, 46, 101, 120, 116, 101, 110, 100, 115, 32, 108, 46, 101, 120, 116, 101, 110, 100, 117, 32, 119, 46, 101, 120, 116, 56, 32, 119, 46, 101, 120, 116, 49, 54, 32, 108, 46, 101, 120, 116, 51, 50])]]
/-- One of Go's own tables, pinned by name: the form's constant. -/
def laid_unicode_utf8_first : DataW Unit := Go.Pinned.utf8First

/-- 'flagonlaw04.InstrWrites': WHATEVER THE INPUT: true; the input reads as it did. -/
def instrWritesSpec : ChangeSpec := { name := "instrWrites", fn := fun _ => fun
  | [d] => { results := [.lit (.bool true)], args := [d] }
  | _ => none }
def instrWritesRow : OpenClaim := { program := "ytgljlclnmnfocaadoor", sum := "be592a8eb1be216ab188169f2748dbd1cdc4ea2832e238bdfb1e39b459ec5294", func := "flagon/flagonlaw04.InstrWrites", spec := "instrWrites", inPlace := ["internal/bytealg.IndexByteString", "internal/bytealg.IndexString"], unfollowed := true, recurses := true, named := ["flagon/ops.kinds", "unicode/utf8.first", "unicode/utf8.acceptRanges", "internal/bytealg.MaxLen", "internal/strconv.uint64pow10", "math/bits.deBruijn32tab", "math/bits.deBruijn64tab"], apart := false, laid := [("math/bits.deBruijn32tab", laid_math_bits_deBruijn32tab), ("math/bits.deBruijn64tab", laid_math_bits_deBruijn64tab), ("internal/strconv.uint64pow10", laid_internal_strconv_uint64pow10), ("unicode/utf8.acceptRanges", laid_unicode_utf8_acceptRanges), ("flagon/ops.kinds", laid_flagon_ops_kinds), ("unicode/utf8.first", laid_unicode_utf8_first)] }
def InstrWritesSaid : Prop := instrWritesRow.holds Tryd.pinned (OpenSpec.ofChange instrWritesSpec)

/-- ITS FALSE NEIGHBOUR: 'it returns false'. Refute it at one input. -/
def instrWritesWrong : ChangeSpec := { name := "instrWrites", fn := fun _ => fun
  | [d] => { results := [.lit (.bool false)], args := [d] }
  | _ => none }
def InstrWritesWrongFalsely : Prop := instrWritesRow.holds Tryd.pinned (OpenSpec.ofChange instrWritesWrong)

/-- 'flagonlaw04.InstrReads': WHATEVER THE INPUT: true; the input reads as it did. -/
def instrReadsSpec : ChangeSpec := { name := "instrReads", fn := fun _ => fun
  | [d1, d2] => { results := [.lit (.bool true)], args := [d1, d2] }
  | _ => none }
def instrReadsRow : OpenClaim := { program := "ytgljlclnmnfocaadoor", sum := "be592a8eb1be216ab188169f2748dbd1cdc4ea2832e238bdfb1e39b459ec5294", func := "flagon/flagonlaw04.InstrReads", spec := "instrReads", inPlace := ["internal/bytealg.IndexByteString", "internal/bytealg.IndexString"], unfollowed := true, recurses := true, named := ["flagon/ops.kinds", "unicode/utf8.first", "unicode/utf8.acceptRanges", "internal/bytealg.MaxLen", "internal/strconv.uint64pow10", "math/bits.deBruijn32tab", "math/bits.deBruijn64tab"], apart := false, laid := [("math/bits.deBruijn32tab", laid_math_bits_deBruijn32tab), ("math/bits.deBruijn64tab", laid_math_bits_deBruijn64tab), ("internal/strconv.uint64pow10", laid_internal_strconv_uint64pow10), ("unicode/utf8.acceptRanges", laid_unicode_utf8_acceptRanges), ("flagon/ops.kinds", laid_flagon_ops_kinds), ("unicode/utf8.first", laid_unicode_utf8_first)] }
def InstrReadsSaid : Prop := instrReadsRow.holds Tryd.pinned (OpenSpec.ofChange instrReadsSpec)

/-- ITS FALSE NEIGHBOUR: 'it returns false'. Refute it at one input. -/
def instrReadsWrong : ChangeSpec := { name := "instrReads", fn := fun _ => fun
  | [d1, d2] => { results := [.lit (.bool false)], args := [d1, d2] }
  | _ => none }
def InstrReadsWrongFalsely : Prop := instrReadsRow.holds Tryd.pinned (OpenSpec.ofChange instrReadsWrong)

/-- 'flagonlaw04.InstrBack': WHATEVER THE INPUT: true; the input reads as it did. -/
def instrBackSpec : ChangeSpec := { name := "instrBack", fn := fun _ => fun
  | [d1, d2, d3, d4] => { results := [.lit (.bool true)], args := [d1, d2, d3, d4] }
  | _ => none }
def instrBackRow : OpenClaim := { program := "ytgljlclnmnfocaadoor", sum := "be592a8eb1be216ab188169f2748dbd1cdc4ea2832e238bdfb1e39b459ec5294", func := "flagon/flagonlaw04.InstrBack", spec := "instrBack", inPlace := ["internal/bytealg.IndexByteString", "internal/bytealg.IndexString"], unfollowed := true, recurses := true, named := ["flagon/ops.kinds", "unicode/utf8.first", "unicode/utf8.acceptRanges", "internal/bytealg.MaxLen"], apart := false, laid := [("unicode/utf8.acceptRanges", laid_unicode_utf8_acceptRanges), ("flagon/ops.kinds", laid_flagon_ops_kinds), ("unicode/utf8.first", laid_unicode_utf8_first)] }
def InstrBackSaid : Prop := instrBackRow.holds Tryd.pinned (OpenSpec.ofChange instrBackSpec)

/-- ITS FALSE NEIGHBOUR: 'it returns false'. Refute it at one input. -/
def instrBackWrong : ChangeSpec := { name := "instrBack", fn := fun _ => fun
  | [d1, d2, d3, d4] => { results := [.lit (.bool false)], args := [d1, d2, d3, d4] }
  | _ => none }
def InstrBackWrongFalsely : Prop := instrBackRow.holds Tryd.pinned (OpenSpec.ofChange instrBackWrong)

/-- 'flagonlaw04.InstrList': WHATEVER THE INPUT: true; the input reads as it did. -/
def instrListSpec : ChangeSpec := { name := "instrList", fn := fun _ => fun
  | [d] => { results := [.lit (.bool true)], args := [d] }
  | _ => none }
def instrListRow : OpenClaim := { program := "ytgljlclnmnfocaadoor", sum := "be592a8eb1be216ab188169f2748dbd1cdc4ea2832e238bdfb1e39b459ec5294", func := "flagon/flagonlaw04.InstrList", spec := "instrList", inPlace := ["internal/bytealg.IndexByteString", "internal/bytealg.IndexString"], unfollowed := true, recurses := true, named := ["flagon/ops.kinds", "unicode/utf8.first", "unicode/utf8.acceptRanges", "internal/bytealg.MaxLen"], apart := false, laid := [("unicode/utf8.acceptRanges", laid_unicode_utf8_acceptRanges), ("flagon/ops.kinds", laid_flagon_ops_kinds), ("unicode/utf8.first", laid_unicode_utf8_first)] }
def InstrListSaid : Prop := instrListRow.holds Tryd.pinned (OpenSpec.ofChange instrListSpec)

/-- ITS FALSE NEIGHBOUR: 'it returns false'. Refute it at one input. -/
def instrListWrong : ChangeSpec := { name := "instrList", fn := fun _ => fun
  | [d] => { results := [.lit (.bool false)], args := [d] }
  | _ => none }
def InstrListWrongFalsely : Prop := instrListRow.holds Tryd.pinned (OpenSpec.ofChange instrListWrong)

/- THE SECOND FORM. 'bulk': how many values and letters a reading holds, each counted each time it is reached (what is shared counts as often as it is met; a slice's spare places count too). A statement '..UptoSaid' is the law's where the arguments, and the package variables that the reading takes, are together of bulk at most 1048576: NARROWER than '..Said'. Prove '..Said' where nothing that the law and all that it calls make is longer than what came in: it says more and counts as full. Else prove '..UptoSaid'. A law counts once. -/
mutual
def uptoBulk {H : Type} : DataW H → Nat
  | .lit (.string bytes) => bytes.length + 1
  | .lit _ => 1
  | .nil => 1
  | .ptr d => uptoBulk d + 1
  | .slice elems spare => uptoBulkAll elems + uptoBulkAll spare + 1
  | .agg parts => uptoBulkAll parts + 1
  | .iface _ d => uptoBulk d + 1
  | .map entries => uptoBulkEntries entries + 1
  | .held _ => 1
def uptoBulkAll {H : Type} : List (DataW H) → Nat
  | [] => 0
  | d :: r => uptoBulk d + uptoBulkAll r
def uptoBulkEntries {H : Type} : List (Lit × DataW H) → Nat
  | [] => 0
  | x :: r => uptoBulkEntry x + uptoBulkEntries r
def uptoBulkEntry {H : Type} : Lit × DataW H → Nat
  | (.string bytes, d) => bytes.length + uptoBulk d + 1
  | (_, d) => uptoBulk d + 1
 end
def uptoSmall : (H : Type) → List (DataW H) → Bool := fun _ ds => decide (uptoBulkAll ds ≤ 1048576)
def OpenSpec.upto (s : _root_.Go.ChangeSpec) : _root_.Go.OpenSpec := { _root_.Go.OpenSpec.ofChange s with cond := some uptoSmall }

/-- 'flagonlaw04.InstrWrites', WHERE WHAT IT READS IS OF BULK AT MOST 1048576: true; the input reads as it did. -/
def instrWritesUptoRow : OpenClaim := { program := "ytgljlclnmnfocaadoor", sum := "be592a8eb1be216ab188169f2748dbd1cdc4ea2832e238bdfb1e39b459ec5294", func := "flagon/flagonlaw04.InstrWrites", spec := "instrWrites", inPlace := ["internal/bytealg.IndexByteString", "internal/bytealg.IndexString"], unfollowed := true, recurses := true, named := ["flagon/ops.kinds", "unicode/utf8.first", "unicode/utf8.acceptRanges", "internal/bytealg.MaxLen", "internal/strconv.uint64pow10", "math/bits.deBruijn32tab", "math/bits.deBruijn64tab"], apart := false, laid := [("math/bits.deBruijn32tab", laid_math_bits_deBruijn32tab), ("math/bits.deBruijn64tab", laid_math_bits_deBruijn64tab), ("internal/strconv.uint64pow10", laid_internal_strconv_uint64pow10), ("unicode/utf8.acceptRanges", laid_unicode_utf8_acceptRanges), ("flagon/ops.kinds", laid_flagon_ops_kinds), ("unicode/utf8.first", laid_unicode_utf8_first)], narrowed := true }
def InstrWritesUptoSaid : Prop := instrWritesUptoRow.holds Tryd.pinned (OpenSpec.upto instrWritesSpec)

/-- 'flagonlaw04.InstrReads', WHERE WHAT IT READS IS OF BULK AT MOST 1048576: true; the input reads as it did. -/
def instrReadsUptoRow : OpenClaim := { program := "ytgljlclnmnfocaadoor", sum := "be592a8eb1be216ab188169f2748dbd1cdc4ea2832e238bdfb1e39b459ec5294", func := "flagon/flagonlaw04.InstrReads", spec := "instrReads", inPlace := ["internal/bytealg.IndexByteString", "internal/bytealg.IndexString"], unfollowed := true, recurses := true, named := ["flagon/ops.kinds", "unicode/utf8.first", "unicode/utf8.acceptRanges", "internal/bytealg.MaxLen", "internal/strconv.uint64pow10", "math/bits.deBruijn32tab", "math/bits.deBruijn64tab"], apart := false, laid := [("math/bits.deBruijn32tab", laid_math_bits_deBruijn32tab), ("math/bits.deBruijn64tab", laid_math_bits_deBruijn64tab), ("internal/strconv.uint64pow10", laid_internal_strconv_uint64pow10), ("unicode/utf8.acceptRanges", laid_unicode_utf8_acceptRanges), ("flagon/ops.kinds", laid_flagon_ops_kinds), ("unicode/utf8.first", laid_unicode_utf8_first)], narrowed := true }
def InstrReadsUptoSaid : Prop := instrReadsUptoRow.holds Tryd.pinned (OpenSpec.upto instrReadsSpec)

/-- 'flagonlaw04.InstrBack', WHERE WHAT IT READS IS OF BULK AT MOST 1048576: true; the input reads as it did. -/
def instrBackUptoRow : OpenClaim := { program := "ytgljlclnmnfocaadoor", sum := "be592a8eb1be216ab188169f2748dbd1cdc4ea2832e238bdfb1e39b459ec5294", func := "flagon/flagonlaw04.InstrBack", spec := "instrBack", inPlace := ["internal/bytealg.IndexByteString", "internal/bytealg.IndexString"], unfollowed := true, recurses := true, named := ["flagon/ops.kinds", "unicode/utf8.first", "unicode/utf8.acceptRanges", "internal/bytealg.MaxLen"], apart := false, laid := [("unicode/utf8.acceptRanges", laid_unicode_utf8_acceptRanges), ("flagon/ops.kinds", laid_flagon_ops_kinds), ("unicode/utf8.first", laid_unicode_utf8_first)], narrowed := true }
def InstrBackUptoSaid : Prop := instrBackUptoRow.holds Tryd.pinned (OpenSpec.upto instrBackSpec)

/-- 'flagonlaw04.InstrList', WHERE WHAT IT READS IS OF BULK AT MOST 1048576: true; the input reads as it did. -/
def instrListUptoRow : OpenClaim := { program := "ytgljlclnmnfocaadoor", sum := "be592a8eb1be216ab188169f2748dbd1cdc4ea2832e238bdfb1e39b459ec5294", func := "flagon/flagonlaw04.InstrList", spec := "instrList", inPlace := ["internal/bytealg.IndexByteString", "internal/bytealg.IndexString"], unfollowed := true, recurses := true, named := ["flagon/ops.kinds", "unicode/utf8.first", "unicode/utf8.acceptRanges", "internal/bytealg.MaxLen"], apart := false, laid := [("unicode/utf8.acceptRanges", laid_unicode_utf8_acceptRanges), ("flagon/ops.kinds", laid_flagon_ops_kinds), ("unicode/utf8.first", laid_unicode_utf8_first)], narrowed := true }
def InstrListUptoSaid : Prop := instrListUptoRow.holds Tryd.pinned (OpenSpec.upto instrListSpec)

end Rows
end Go.Proofs.YtgljlclnmnfocaaDoor
