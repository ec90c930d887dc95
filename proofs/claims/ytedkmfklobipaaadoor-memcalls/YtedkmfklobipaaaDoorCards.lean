/-
  DERIVED. GIVEN WITH THE SEED: THE CARDS: each row of YtedkmfklobipaaaDoorRows.lean that lists a variable, with what it lists TIED to the program's text (the seventh form; the later family's looks); each row that meets fmt, with fmt's text TOLD by the authors' own Lean function (tested against real Go, not proved from fmt's source: count such statements apart). THE CARD IS WHAT COUNTS. Prove the row's statement (the work); the ties are given (YtedkmfklobipaaaDoorTie.lean); close each card by the builder's one call (the guide's Derived/Test/ToyasCard.lean, 'card_holds'). Laid BY PROGRAM, IN A SANDBOX (cutbox-door.mjs). By AI agents, Wed Nov 11 2026. No macro, syntax, notation, axiom, sorry.
-/
import Derived.Test.YtedkmfklobipaaaDoorRows
import GoSem.ClaimSeven
namespace Go.Proofs.YtedkmfklobipaaaDoor
namespace Rows

/-- THE TIED CARD OF 'flagonlaw13.MemMade'. -/
def memMadeCard : Claim7 := { stood := { row := memMadeRow, standIns := [], harness := (true, "89308851a2b8df2f31fdf75af972bf2cf69e06b14acec2206ca677f3b9a935b3"), looks := false }, kinds := [], alts := [], laidByText := true, laidKinds := [.data, .data, .data], laidTests := true, laidLooks := .later }
def MemMadeCardSaid : Prop := Claim7.holds Tryd.pinned (.plain (OpenSpec.ofChange memMadeSpec)) memMadeCard

/-- THE TIED CARD OF 'flagonlaw13.MemCalls'. -/
def memCallsCard : Claim7 := { stood := { row := memCallsRow, standIns := [], harness := (true, "89308851a2b8df2f31fdf75af972bf2cf69e06b14acec2206ca677f3b9a935b3"), looks := false }, kinds := [], alts := [], laidByText := true, laidKinds := [.data, .data, .data], laidTests := true, laidLooks := .later }
def MemCallsCardSaid : Prop := Claim7.holds Tryd.pinned (.plain (OpenSpec.ofChange memCallsSpec)) memCallsCard

/-- THE SECOND FORM's CARD OF 'flagonlaw13.MemMade'. -/
def memMadeUptoCard : Claim7 := { stood := { row := memMadeUptoRow, standIns := [], harness := (true, "89308851a2b8df2f31fdf75af972bf2cf69e06b14acec2206ca677f3b9a935b3"), looks := false }, kinds := [], alts := [], laidByText := true, laidKinds := [.data, .data, .data], laidTests := true, laidLooks := .later }
def MemMadeUptoCardSaid : Prop := Claim7.holds Tryd.pinned (.plain (OpenSpec.upto memMadeSpec)) memMadeUptoCard

/-- THE SECOND FORM's CARD OF 'flagonlaw13.MemCalls'. -/
def memCallsUptoCard : Claim7 := { stood := { row := memCallsUptoRow, standIns := [], harness := (true, "89308851a2b8df2f31fdf75af972bf2cf69e06b14acec2206ca677f3b9a935b3"), looks := false }, kinds := [], alts := [], laidByText := true, laidKinds := [.data, .data, .data], laidTests := true, laidLooks := .later }
def MemCallsUptoCardSaid : Prop := Claim7.holds Tryd.pinned (.plain (OpenSpec.upto memCallsSpec)) memCallsUptoCard
end Rows
end Go.Proofs.YtedkmfklobipaaaDoor
