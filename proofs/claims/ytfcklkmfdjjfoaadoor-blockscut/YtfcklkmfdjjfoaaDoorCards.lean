/-
  DERIVED. GIVEN WITH THE SEED: THE CARDS: each row of YtfcklkmfdjjfoaaDoorRows.lean that lists a variable, with what it lists TIED to the program's text (the seventh form; the later family's looks); each row that meets fmt, with fmt's text TOLD by the authors' own Lean function (tested against real Go, not proved from fmt's source: count such statements apart). THE CARD IS WHAT COUNTS. Prove the row's statement (the work); the ties are given (YtfcklkmfdjjfoaaDoorTie.lean); close each card by the builder's one call (the guide's Derived/Test/ToyasCard.lean, 'card_holds'). Laid BY PROGRAM, IN A SANDBOX (cutbox-door.mjs). By AI agents, Wed Nov 11 2026. No macro, syntax, notation, axiom, sorry.
-/
import Derived.Test.YtfcklkmfdjjfoaaDoorRows
import GoSem.ClaimSeven
namespace Go.Proofs.YtfcklkmfdjjfoaaDoor
namespace Rows

/-- THE TIED CARD OF 'flagonlaw12.BlocksCut'. -/
def blocksCutCard : Claim7 := { stood := { row := blocksCutRow, standIns := [], harness := (true, "93230fc3c591e45650154a6f87f4666c5a46d49e69a32c8c76f77159e365ad4b"), looks := false }, kinds := [], alts := [], laidByText := true, laidKinds := [.data, .data, .data], laidTests := true, laidLooks := .later }
def BlocksCutCardSaid : Prop := Claim7.holds Tryd.pinned (.plain (OpenSpec.ofChange blocksCutSpec)) blocksCutCard

/-- THE SECOND FORM's CARD OF 'flagonlaw12.BlocksCut'. -/
def blocksCutUptoCard : Claim7 := { stood := { row := blocksCutUptoRow, standIns := [], harness := (true, "93230fc3c591e45650154a6f87f4666c5a46d49e69a32c8c76f77159e365ad4b"), looks := false }, kinds := [], alts := [], laidByText := true, laidKinds := [.data, .data, .data], laidTests := true, laidLooks := .later }
def BlocksCutUptoCardSaid : Prop := Claim7.holds Tryd.pinned (.plain (OpenSpec.upto blocksCutSpec)) blocksCutUptoCard
end Rows
end Go.Proofs.YtfcklkmfdjjfoaaDoor
