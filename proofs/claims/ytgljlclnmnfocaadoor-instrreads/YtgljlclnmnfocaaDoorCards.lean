/-
  DERIVED. GIVEN WITH THE SEED: THE CARDS: each row of YtgljlclnmnfocaaDoorRows.lean that lists a variable, with what it lists TIED to the program's text (the seventh form; the later family's looks); each row that meets fmt, with fmt's text TOLD by the authors' own Lean function (tested against real Go, not proved from fmt's source: count such statements apart). THE CARD IS WHAT COUNTS. Prove the row's statement (the work); the ties are given (YtgljlclnmnfocaaDoorTie.lean); close each card by the builder's one call (the guide's Derived/Test/ToyasCard.lean, 'card_holds'). Laid BY PROGRAM, IN A SANDBOX (cutbox-door.mjs). By AI agents, Wed Nov 11 2026. No macro, syntax, notation, axiom, sorry.
-/
import Derived.Test.YtgljlclnmnfocaaDoorRows
import GoSem.ClaimSeven
namespace Go.Proofs.YtgljlclnmnfocaaDoor
namespace Rows

/-- THE TIED CARD OF 'flagonlaw04.InstrWrites'. -/
def instrWritesCard : Claim7 := { stood := { row := instrWritesRow, standIns := [], harness := (true, "c1e50ddf9d87015463aa77b6f490a794d72f5529e97b1bda395e3cdf27617025"), looks := false }, kinds := [], alts := [], laidByText := true, laidKinds := [.data, .data, .data, .data, .data, .pinned], laidTests := true, laidLooks := .later }
def InstrWritesCardSaid : Prop := Claim7.holds Tryd.pinned (.plain (OpenSpec.ofChange instrWritesSpec)) instrWritesCard

/-- THE TIED CARD OF 'flagonlaw04.InstrReads'. -/
def instrReadsCard : Claim7 := { stood := { row := instrReadsRow, standIns := [], harness := (true, "c1e50ddf9d87015463aa77b6f490a794d72f5529e97b1bda395e3cdf27617025"), looks := false }, kinds := [], alts := [], laidByText := true, laidKinds := [.data, .data, .data, .data, .data, .pinned], laidTests := true, laidLooks := .later }
def InstrReadsCardSaid : Prop := Claim7.holds Tryd.pinned (.plain (OpenSpec.ofChange instrReadsSpec)) instrReadsCard

/-- THE TIED CARD OF 'flagonlaw04.InstrBack'. -/
def instrBackCard : Claim7 := { stood := { row := instrBackRow, standIns := [], harness := (true, "c1e50ddf9d87015463aa77b6f490a794d72f5529e97b1bda395e3cdf27617025"), looks := false }, kinds := [], alts := [], laidByText := true, laidKinds := [.data, .data, .pinned], laidTests := true, laidLooks := .later }
def InstrBackCardSaid : Prop := Claim7.holds Tryd.pinned (.plain (OpenSpec.ofChange instrBackSpec)) instrBackCard

/-- THE TIED CARD OF 'flagonlaw04.InstrList'. -/
def instrListCard : Claim7 := { stood := { row := instrListRow, standIns := [], harness := (true, "c1e50ddf9d87015463aa77b6f490a794d72f5529e97b1bda395e3cdf27617025"), looks := false }, kinds := [], alts := [], laidByText := true, laidKinds := [.data, .data, .pinned], laidTests := true, laidLooks := .later }
def InstrListCardSaid : Prop := Claim7.holds Tryd.pinned (.plain (OpenSpec.ofChange instrListSpec)) instrListCard

/-- THE SECOND FORM's CARD OF 'flagonlaw04.InstrWrites'. -/
def instrWritesUptoCard : Claim7 := { stood := { row := instrWritesUptoRow, standIns := [], harness := (true, "c1e50ddf9d87015463aa77b6f490a794d72f5529e97b1bda395e3cdf27617025"), looks := false }, kinds := [], alts := [], laidByText := true, laidKinds := [.data, .data, .data, .data, .data, .pinned], laidTests := true, laidLooks := .later }
def InstrWritesUptoCardSaid : Prop := Claim7.holds Tryd.pinned (.plain (OpenSpec.upto instrWritesSpec)) instrWritesUptoCard

/-- THE SECOND FORM's CARD OF 'flagonlaw04.InstrReads'. -/
def instrReadsUptoCard : Claim7 := { stood := { row := instrReadsUptoRow, standIns := [], harness := (true, "c1e50ddf9d87015463aa77b6f490a794d72f5529e97b1bda395e3cdf27617025"), looks := false }, kinds := [], alts := [], laidByText := true, laidKinds := [.data, .data, .data, .data, .data, .pinned], laidTests := true, laidLooks := .later }
def InstrReadsUptoCardSaid : Prop := Claim7.holds Tryd.pinned (.plain (OpenSpec.upto instrReadsSpec)) instrReadsUptoCard

/-- THE SECOND FORM's CARD OF 'flagonlaw04.InstrBack'. -/
def instrBackUptoCard : Claim7 := { stood := { row := instrBackUptoRow, standIns := [], harness := (true, "c1e50ddf9d87015463aa77b6f490a794d72f5529e97b1bda395e3cdf27617025"), looks := false }, kinds := [], alts := [], laidByText := true, laidKinds := [.data, .data, .pinned], laidTests := true, laidLooks := .later }
def InstrBackUptoCardSaid : Prop := Claim7.holds Tryd.pinned (.plain (OpenSpec.upto instrBackSpec)) instrBackUptoCard

/-- THE SECOND FORM's CARD OF 'flagonlaw04.InstrList'. -/
def instrListUptoCard : Claim7 := { stood := { row := instrListUptoRow, standIns := [], harness := (true, "c1e50ddf9d87015463aa77b6f490a794d72f5529e97b1bda395e3cdf27617025"), looks := false }, kinds := [], alts := [], laidByText := true, laidKinds := [.data, .data, .pinned], laidTests := true, laidLooks := .later }
def InstrListUptoCardSaid : Prop := Claim7.holds Tryd.pinned (.plain (OpenSpec.upto instrListSpec)) instrListUptoCard
end Rows
end Go.Proofs.YtgljlclnmnfocaaDoor
