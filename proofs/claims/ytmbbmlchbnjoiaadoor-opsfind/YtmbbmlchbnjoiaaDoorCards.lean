/-
  DERIVED. GIVEN WITH THE SEED: THE CARDS: each row of YtmbbmlchbnjoiaaDoorRows.lean that lists a variable, with what it lists TIED to the program's text (the seventh form; the later family's looks); each row that meets fmt, with fmt's text TOLD by the authors' own Lean function (tested against real Go, not proved from fmt's source: count such statements apart). THE CARD IS WHAT COUNTS. Prove the row's statement (the work); the ties are given (YtmbbmlchbnjoiaaDoorTie.lean); close each card by the builder's one call (the guide's Derived/Test/ToyasCard.lean, 'card_holds'). Laid BY PROGRAM, IN A SANDBOX (cutbox-door.mjs). By AI agents, Wed Nov 11 2026. No macro, syntax, notation, axiom, sorry.
-/
import Derived.Test.YtmbbmlchbnjoiaaDoorRows
import GoSem.ClaimSeven
namespace Go.Proofs.YtmbbmlchbnjoiaaDoor
namespace Rows

/-- THE TIED CARD OF 'flagonlaw03.OpsRows'. -/
def opsRowsCard : Claim7 := { stood := { row := opsRowsRow, standIns := [], harness := (true, "73f5e603e7be1c5403fc1315d88d9cfca984e50c7df5c9c3f3efe4a2fab02d06"), looks := false }, kinds := [], alts := [], laidByText := true, laidKinds := [.data, .data, .pinned], laidTests := true, laidLooks := .later }
def OpsRowsCardSaid : Prop := Claim7.holds Tryd.pinned (.plain (OpenSpec.ofChange opsRowsSpec)) opsRowsCard

/-- THE TIED CARD OF 'flagonlaw03.OpsWords'. -/
def opsWordsCard : Claim7 := { stood := { row := opsWordsRow, standIns := [], harness := (true, "73f5e603e7be1c5403fc1315d88d9cfca984e50c7df5c9c3f3efe4a2fab02d06"), looks := false }, kinds := [], alts := [], laidByText := true, laidKinds := [.data, .data, .data, .data, .data, .pinned], laidTests := true, laidLooks := .later }
def OpsWordsCardSaid : Prop := Claim7.holds Tryd.pinned (.plain (OpenSpec.ofChange opsWordsSpec)) opsWordsCard

/-- THE TIED CARD OF 'flagonlaw03.OpsFind'. -/
def opsFindCard : Claim7 := { stood := { row := opsFindRow, standIns := [], harness := (true, "73f5e603e7be1c5403fc1315d88d9cfca984e50c7df5c9c3f3efe4a2fab02d06"), looks := false }, kinds := [], alts := [], laidByText := true, laidKinds := [.data, .data, .pinned], laidTests := true, laidLooks := .later }
def OpsFindCardSaid : Prop := Claim7.holds Tryd.pinned (.plain (OpenSpec.ofChange opsFindSpec)) opsFindCard

/-- THE SECOND FORM's CARD OF 'flagonlaw03.OpsRows'. -/
def opsRowsUptoCard : Claim7 := { stood := { row := opsRowsUptoRow, standIns := [], harness := (true, "73f5e603e7be1c5403fc1315d88d9cfca984e50c7df5c9c3f3efe4a2fab02d06"), looks := false }, kinds := [], alts := [], laidByText := true, laidKinds := [.data, .data, .pinned], laidTests := true, laidLooks := .later }
def OpsRowsUptoCardSaid : Prop := Claim7.holds Tryd.pinned (.plain (OpenSpec.upto opsRowsSpec)) opsRowsUptoCard

/-- THE SECOND FORM's CARD OF 'flagonlaw03.OpsWords'. -/
def opsWordsUptoCard : Claim7 := { stood := { row := opsWordsUptoRow, standIns := [], harness := (true, "73f5e603e7be1c5403fc1315d88d9cfca984e50c7df5c9c3f3efe4a2fab02d06"), looks := false }, kinds := [], alts := [], laidByText := true, laidKinds := [.data, .data, .data, .data, .data, .pinned], laidTests := true, laidLooks := .later }
def OpsWordsUptoCardSaid : Prop := Claim7.holds Tryd.pinned (.plain (OpenSpec.upto opsWordsSpec)) opsWordsUptoCard

/-- THE SECOND FORM's CARD OF 'flagonlaw03.OpsFind'. -/
def opsFindUptoCard : Claim7 := { stood := { row := opsFindUptoRow, standIns := [], harness := (true, "73f5e603e7be1c5403fc1315d88d9cfca984e50c7df5c9c3f3efe4a2fab02d06"), looks := false }, kinds := [], alts := [], laidByText := true, laidKinds := [.data, .data, .pinned], laidTests := true, laidLooks := .later }
def OpsFindUptoCardSaid : Prop := Claim7.holds Tryd.pinned (.plain (OpenSpec.upto opsFindSpec)) opsFindUptoCard
end Rows
end Go.Proofs.YtmbbmlchbnjoiaaDoor
