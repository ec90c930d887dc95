/-
  DERIVED. GIVEN WITH THE SEED: THE CARDS: each row of YtepnnenohjfkbaaGreatDoorRows.lean that lists a variable, with what it lists TIED to the program's text (the seventh form; the later family's looks); each row that meets fmt, with fmt's text TOLD by the authors' own Lean function (tested against real Go, not proved from fmt's source: count such statements apart). THE CARD IS WHAT COUNTS. Prove the row's statement (the work); the ties are given (YtepnnenohjfkbaaGreatDoorTie.lean); close each card by the builder's one call (the guide's Derived/Test/ToyasCard.lean, 'card_holds'). Laid BY PROGRAM, IN A SANDBOX (cutbox-door.mjs). By AI agents, Wed Nov 11 2026. No macro, syntax, notation, axiom, sorry.
-/
import Derived.Test.YtepnnenohjfkbaaGreatDoorRows
import GoSem.ClaimSeven
namespace Go.Proofs.YtepnnenohjfkbaaGreatDoor
namespace Rows

/-- THE TIED CARD OF 'flagonlaw10.ValidateWays'. -/
def validateWaysCard : Claim7 := { stood := { row := validateWaysRow, standIns := [], harness := (true, "3f1f7f8b781df95b38ed14d6d2fae5b0a814ca899b53d0ef1bca75f3cb952542"), looks := true }, kinds := [], alts := [], laidByText := true, laidKinds := [.data, .data, .pinned], laidTests := true, laidLooks := .later }
def ValidateWaysCardSaid : Prop := Claim7.holds Tryz.pinned (.plain (OpenSpec.ofChange validateWaysSpec)) validateWaysCard

/-- THE TIED CARD OF 'flagonlaw10.ValidateAlone'. -/
def validateAloneCard : Claim7 := { stood := { row := validateAloneRow, standIns := [], harness := (true, "3f1f7f8b781df95b38ed14d6d2fae5b0a814ca899b53d0ef1bca75f3cb952542"), looks := true }, kinds := [], alts := [], laidByText := true, laidKinds := [.data, .data, .pinned], laidTests := true, laidLooks := .later }
def ValidateAloneCardSaid : Prop := Claim7.holds Tryz.pinned (.plain (OpenSpec.ofChange validateAloneSpec)) validateAloneCard

/-- THE TIED CARD OF 'flagonlaw10.ValidateNops'. -/
def validateNopsCard : Claim7 := { stood := { row := validateNopsRow, standIns := [], harness := (true, "3f1f7f8b781df95b38ed14d6d2fae5b0a814ca899b53d0ef1bca75f3cb952542"), looks := true }, kinds := [], alts := [], laidByText := true, laidKinds := [.data, .data, .pinned], laidTests := true, laidLooks := .later }
def ValidateNopsCardSaid : Prop := Claim7.holds Tryz.pinned (.plain (OpenSpec.ofChange validateNopsSpec)) validateNopsCard

/-- THE TIED CARD OF 'flagonlaw11.JudgeHolds'. -/
def judgeHoldsCard : Claim7 := { stood := { row := judgeHoldsRow, standIns := [], harness := (true, "3f1f7f8b781df95b38ed14d6d2fae5b0a814ca899b53d0ef1bca75f3cb952542"), looks := true }, kinds := [], alts := [], laidByText := true, laidKinds := [.data, .data, .data, .data, .data, .pinned], laidTests := true, laidLooks := .later }
def JudgeHoldsCardSaid : Prop := Claim7.holds Tryz.pinned (.plain (OpenSpec.ofChange judgeHoldsSpec)) judgeHoldsCard

/-- THE TIED CARD OF 'flagonlaw11.JudgeOne'. -/
def judgeOneCard : Claim7 := { stood := { row := judgeOneRow, standIns := [], harness := (true, "3f1f7f8b781df95b38ed14d6d2fae5b0a814ca899b53d0ef1bca75f3cb952542"), looks := true }, kinds := [], alts := [], laidByText := true, laidKinds := [.data, .data, .pinned], laidTests := true, laidLooks := .later }
def JudgeOneCardSaid : Prop := Claim7.holds Tryz.pinned (.plain (OpenSpec.ofChange judgeOneSpec)) judgeOneCard

/-- THE SECOND FORM's CARD OF 'flagonlaw10.ValidateWays'. -/
def validateWaysUptoCard : Claim7 := { stood := { row := validateWaysUptoRow, standIns := [], harness := (true, "3f1f7f8b781df95b38ed14d6d2fae5b0a814ca899b53d0ef1bca75f3cb952542"), looks := true }, kinds := [], alts := [], laidByText := true, laidKinds := [.data, .data, .pinned], laidTests := true, laidLooks := .later }
def ValidateWaysUptoCardSaid : Prop := Claim7.holds Tryz.pinned (.plain (OpenSpec.upto validateWaysSpec)) validateWaysUptoCard

/-- THE SECOND FORM's CARD OF 'flagonlaw10.ValidateAlone'. -/
def validateAloneUptoCard : Claim7 := { stood := { row := validateAloneUptoRow, standIns := [], harness := (true, "3f1f7f8b781df95b38ed14d6d2fae5b0a814ca899b53d0ef1bca75f3cb952542"), looks := true }, kinds := [], alts := [], laidByText := true, laidKinds := [.data, .data, .pinned], laidTests := true, laidLooks := .later }
def ValidateAloneUptoCardSaid : Prop := Claim7.holds Tryz.pinned (.plain (OpenSpec.upto validateAloneSpec)) validateAloneUptoCard

/-- THE SECOND FORM's CARD OF 'flagonlaw10.ValidateNops'. -/
def validateNopsUptoCard : Claim7 := { stood := { row := validateNopsUptoRow, standIns := [], harness := (true, "3f1f7f8b781df95b38ed14d6d2fae5b0a814ca899b53d0ef1bca75f3cb952542"), looks := true }, kinds := [], alts := [], laidByText := true, laidKinds := [.data, .data, .pinned], laidTests := true, laidLooks := .later }
def ValidateNopsUptoCardSaid : Prop := Claim7.holds Tryz.pinned (.plain (OpenSpec.upto validateNopsSpec)) validateNopsUptoCard

/-- THE SECOND FORM's CARD OF 'flagonlaw11.JudgeHolds'. -/
def judgeHoldsUptoCard : Claim7 := { stood := { row := judgeHoldsUptoRow, standIns := [], harness := (true, "3f1f7f8b781df95b38ed14d6d2fae5b0a814ca899b53d0ef1bca75f3cb952542"), looks := true }, kinds := [], alts := [], laidByText := true, laidKinds := [.data, .data, .data, .data, .data, .pinned], laidTests := true, laidLooks := .later }
def JudgeHoldsUptoCardSaid : Prop := Claim7.holds Tryz.pinned (.plain (OpenSpec.upto judgeHoldsSpec)) judgeHoldsUptoCard

/-- THE SECOND FORM's CARD OF 'flagonlaw11.JudgeOne'. -/
def judgeOneUptoCard : Claim7 := { stood := { row := judgeOneUptoRow, standIns := [], harness := (true, "3f1f7f8b781df95b38ed14d6d2fae5b0a814ca899b53d0ef1bca75f3cb952542"), looks := true }, kinds := [], alts := [], laidByText := true, laidKinds := [.data, .data, .pinned], laidTests := true, laidLooks := .later }
def JudgeOneUptoCardSaid : Prop := Claim7.holds Tryz.pinned (.plain (OpenSpec.upto judgeOneSpec)) judgeOneUptoCard
end Rows
end Go.Proofs.YtepnnenohjfkbaaGreatDoor
