/-
  DERIVED. GIVEN WITH THE SEED: THE CARDS: each row of YtepcmfegggdjfaaGreatDoorRows.lean that lists a variable, with what it lists TIED to the program's text (the seventh form; the later family's looks); each row that meets fmt, with fmt's text TOLD by the authors' own Lean function (tested against real Go, not proved from fmt's source: count such statements apart). THE CARD IS WHAT COUNTS. Prove the row's statement (the work); the ties are given (YtepcmfegggdjfaaGreatDoorTie.lean); close each card by the builder's one call (the guide's Derived/Test/ToyasCard.lean, 'card_holds'). Laid BY PROGRAM, IN A SANDBOX (cutbox-door.mjs). By AI agents, Wed Nov 11 2026. No macro, syntax, notation, axiom, sorry.
-/
import Derived.Test.YtepcmfegggdjfaaGreatDoorRows
import GoSem.ClaimSeven
namespace Go.Proofs.YtepcmfegggdjfaaGreatDoor
namespace Rows

/-- THE TIED CARD OF 'flagonlaw21.InstanceMay'. -/
def instanceMayCard : Claim7 := { stood := { row := instanceMayRow, standIns := [], harness := (true, "a90745162f8840c59eb12666bcaa56f94b2324145fb537e023d4e3c2d8882d88"), looks := true }, kinds := [], alts := [], laidByText := true, laidKinds := [.data, .data, .pinned], laidTests := true, laidLooks := .later }
def InstanceMayCardSaid : Prop := Claim7.holds Tryz.pinned (.plain (OpenSpec.ofChange instanceMaySpec)) instanceMayCard

/-- THE TIED CARD OF 'flagonlaw21.InstanceBytes'. -/
def instanceBytesCard : Claim7 := { stood := { row := instanceBytesRow, standIns := [], harness := (true, "a90745162f8840c59eb12666bcaa56f94b2324145fb537e023d4e3c2d8882d88"), looks := true }, kinds := [], alts := [], laidByText := true, laidKinds := [.data, .data, .pinned], laidTests := true, laidLooks := .later }
def InstanceBytesCardSaid : Prop := Claim7.holds Tryz.pinned (.plain (OpenSpec.ofChange instanceBytesSpec)) instanceBytesCard

/-- THE SECOND FORM's CARD OF 'flagonlaw21.InstanceMay'. -/
def instanceMayUptoCard : Claim7 := { stood := { row := instanceMayUptoRow, standIns := [], harness := (true, "a90745162f8840c59eb12666bcaa56f94b2324145fb537e023d4e3c2d8882d88"), looks := true }, kinds := [], alts := [], laidByText := true, laidKinds := [.data, .data, .pinned], laidTests := true, laidLooks := .later }
def InstanceMayUptoCardSaid : Prop := Claim7.holds Tryz.pinned (.plain (OpenSpec.upto instanceMaySpec)) instanceMayUptoCard

/-- THE SECOND FORM's CARD OF 'flagonlaw21.InstanceBytes'. -/
def instanceBytesUptoCard : Claim7 := { stood := { row := instanceBytesUptoRow, standIns := [], harness := (true, "a90745162f8840c59eb12666bcaa56f94b2324145fb537e023d4e3c2d8882d88"), looks := true }, kinds := [], alts := [], laidByText := true, laidKinds := [.data, .data, .pinned], laidTests := true, laidLooks := .later }
def InstanceBytesUptoCardSaid : Prop := Claim7.holds Tryz.pinned (.plain (OpenSpec.upto instanceBytesSpec)) instanceBytesUptoCard
end Rows
end Go.Proofs.YtepcmfegggdjfaaGreatDoor
