/-
  DERIVED. GIVEN WITH THE SEED: THE CARDS: each row of YtdlpbldpddobcaaDoorRows.lean that lists a variable, with what it lists TIED to the program's text (the seventh form; the later family's looks); each row that meets fmt, with fmt's text TOLD by the authors' own Lean function (tested against real Go, not proved from fmt's source: count such statements apart). THE CARD IS WHAT COUNTS. Prove the row's statement (the work); the ties are given (YtdlpbldpddobcaaDoorTie.lean); close each card by the builder's one call (the guide's Derived/Test/ToyasCard.lean, 'card_holds'). Laid BY PROGRAM, IN A SANDBOX (cutbox-door.mjs). By AI agents, Wed Nov 11 2026. No macro, syntax, notation, axiom, sorry.
-/
import Derived.Test.YtdlpbldpddobcaaDoorRows
import GoSem.ClaimSeven
namespace Go.Proofs.YtdlpbldpddobcaaDoor
namespace Rows

/-- THE TIED CARD OF 'flagonlaw02.TypesAsk'. -/
def typesAskCard : Claim7 := { stood := { row := typesAskRow, standIns := [], harness := (true, "baeaa5d923f907ee31adcc21f251a22d70236e749ff47c9e6b5c0ac1ea3bb753"), looks := false }, kinds := [], alts := [], laidByText := true, laidKinds := [.data, .data, .data], laidTests := true, laidLooks := .later }
def TypesAskCardSaid : Prop := Claim7.holds Tryd.pinned (.plain (OpenSpec.ofChange typesAskSpec)) typesAskCard

/-- THE SECOND FORM's CARD OF 'flagonlaw02.TypesAsk'. -/
def typesAskUptoCard : Claim7 := { stood := { row := typesAskUptoRow, standIns := [], harness := (true, "baeaa5d923f907ee31adcc21f251a22d70236e749ff47c9e6b5c0ac1ea3bb753"), looks := false }, kinds := [], alts := [], laidByText := true, laidKinds := [.data, .data, .data], laidTests := true, laidLooks := .later }
def TypesAskUptoCardSaid : Prop := Claim7.holds Tryd.pinned (.plain (OpenSpec.upto typesAskSpec)) typesAskUptoCard
end Rows
end Go.Proofs.YtdlpbldpddobcaaDoor
