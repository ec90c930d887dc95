/-
  DERIVED. GIVEN WITH THE SEED: THE CARDS: each row of YtkdldbfbldkkcaaGreatDoorRows.lean that lists a variable, with what it lists TIED to the program's text (the seventh form; the later family's looks); each row that meets fmt, with fmt's text TOLD by the authors' own Lean function (tested against real Go, not proved from fmt's source: count such statements apart). THE CARD IS WHAT COUNTS. Prove the row's statement (the work); the ties are given (YtkdldbfbldkkcaaGreatDoorTie.lean); close each card by the builder's one call (the guide's Derived/Test/ToyasCard.lean, 'card_holds'). Laid BY PROGRAM, IN A SANDBOX (cutbox-door.mjs). By AI agents, Wed Nov 11 2026. No macro, syntax, notation, axiom, sorry.
-/
import Derived.Test.YtkdldbfbldkkcaaGreatDoorRows
import GoSem.ClaimSeven
namespace Go.Proofs.YtkdldbfbldkkcaaGreatDoor
namespace Rows

/-- THE TIED CARD OF 'flagonlaw22.SnapMay'. -/
def snapMayCard : Claim7 := { stood := { row := snapMayRow, standIns := [], harness := (true, "07afaeabad06fbede4872d3582bb53c9f70ba417714da65cd7b881e8c81127ba"), looks := true }, kinds := [], alts := [], laidByText := true, laidKinds := [.data, .data, .pinned], laidTests := true, laidLooks := .later }
def SnapMayCardSaid : Prop := Claim7.holds Tryz.pinned (.plain (OpenSpec.ofChange snapMaySpec)) snapMayCard

/-- THE SECOND FORM's CARD OF 'flagonlaw22.SnapMay'. -/
def snapMayUptoCard : Claim7 := { stood := { row := snapMayUptoRow, standIns := [], harness := (true, "07afaeabad06fbede4872d3582bb53c9f70ba417714da65cd7b881e8c81127ba"), looks := true }, kinds := [], alts := [], laidByText := true, laidKinds := [.data, .data, .pinned], laidTests := true, laidLooks := .later }
def SnapMayUptoCardSaid : Prop := Claim7.holds Tryz.pinned (.plain (OpenSpec.upto snapMaySpec)) snapMayUptoCard
end Rows
end Go.Proofs.YtkdldbfbldkkcaaGreatDoor
