/-
  DERIVED. GIVEN WITH THE SEED: THE CARDS: each row of YtidbebfendjnlaaGreatDoorRows.lean that lists a variable, with what it lists TIED to the program's text (the seventh form; the later family's looks); each row that meets fmt, with fmt's text TOLD by the authors' own Lean function (tested against real Go, not proved from fmt's source: count such statements apart). THE CARD IS WHAT COUNTS. Prove the row's statement (the work); the ties are given (YtidbebfendjnlaaGreatDoorTie.lean); close each card by the builder's one call (the guide's Derived/Test/ToyasCard.lean, 'card_holds'). Laid BY PROGRAM, IN A SANDBOX (cutbox-door.mjs). By AI agents, Wed Nov 11 2026. No macro, syntax, notation, axiom, sorry.
-/
import Derived.Test.YtidbebfendjnlaaGreatDoorRows
import GoSem.ClaimSeven
namespace Go.Proofs.YtidbebfendjnlaaGreatDoor
namespace Rows

/-- THE TIED CARD OF 'glyphlaw02.RatMakes'. -/
def ratMakesCard : Claim7 := { stood := { row := ratMakesRow, standIns := [], harness := (true, "2bf1a8ffa14fa339204ed9382560c811a60b20c427f7bc2bc1778b6897512af7"), looks := false }, kinds := [], alts := [], laidByText := true, laidKinds := [.data, .data, .data], laidTests := true, laidLooks := .later }
def RatMakesCardSaid : Prop := Claim7.holds Tryz.pinned (.plain (OpenSpec.ofChange ratMakesSpec)) ratMakesCard

/-- THE TIED CARD OF 'glyphlaw02.RatInts'. -/
def ratIntsCard : Claim7 := { stood := { row := ratIntsRow, standIns := [], harness := (true, "2bf1a8ffa14fa339204ed9382560c811a60b20c427f7bc2bc1778b6897512af7"), looks := false }, kinds := [], alts := [], laidByText := true, laidKinds := [.data, .data, .data], laidTests := true, laidLooks := .later }
def RatIntsCardSaid : Prop := Claim7.holds Tryz.pinned (.plain (OpenSpec.ofChange ratIntsSpec)) ratIntsCard

/-- THE TIED CARD OF 'glyphlaw02.RatReckons'. -/
def ratReckonsCard : Claim7 := { stood := { row := ratReckonsRow, standIns := [], harness := (true, "2bf1a8ffa14fa339204ed9382560c811a60b20c427f7bc2bc1778b6897512af7"), looks := false }, kinds := [], alts := [], laidByText := true, laidKinds := [.data, .data, .data], laidTests := true, laidLooks := .later }
def RatReckonsCardSaid : Prop := Claim7.holds Tryz.pinned (.plain (OpenSpec.ofChange ratReckonsSpec)) ratReckonsCard

/-- THE TIED CARD OF 'glyphlaw02.RatRounds'. -/
def ratRoundsCard : Claim7 := { stood := { row := ratRoundsRow, standIns := [], harness := (true, "2bf1a8ffa14fa339204ed9382560c811a60b20c427f7bc2bc1778b6897512af7"), looks := false }, kinds := [], alts := [], laidByText := true, laidKinds := [.data, .data, .data], laidTests := true, laidLooks := .later }
def RatRoundsCardSaid : Prop := Claim7.holds Tryz.pinned (.plain (OpenSpec.ofChange ratRoundsSpec)) ratRoundsCard

/-- THE TIED CARD OF 'glyphlaw02.RatCompares'. -/
def ratComparesCard : Claim7 := { stood := { row := ratComparesRow, standIns := [], harness := (true, "2bf1a8ffa14fa339204ed9382560c811a60b20c427f7bc2bc1778b6897512af7"), looks := false }, kinds := [], alts := [], laidByText := true, laidKinds := [.data, .data, .data], laidTests := true, laidLooks := .later }
def RatComparesCardSaid : Prop := Claim7.holds Tryz.pinned (.plain (OpenSpec.ofChange ratComparesSpec)) ratComparesCard

/-- THE TIED CARD OF 'glyphlaw02.RatFunctions'. -/
def ratFunctionsCard : Claim7 := { stood := { row := ratFunctionsRow, standIns := [], harness := (true, "2bf1a8ffa14fa339204ed9382560c811a60b20c427f7bc2bc1778b6897512af7"), looks := false }, kinds := [], alts := [], laidByText := true, laidKinds := [.data, .data, .data], laidTests := true, laidLooks := .later }
def RatFunctionsCardSaid : Prop := Claim7.holds Tryz.pinned (.plain (OpenSpec.ofChange ratFunctionsSpec)) ratFunctionsCard

/-- THE SECOND FORM's CARD OF 'glyphlaw02.RatMakes'. -/
def ratMakesUptoCard : Claim7 := { stood := { row := ratMakesUptoRow, standIns := [], harness := (true, "2bf1a8ffa14fa339204ed9382560c811a60b20c427f7bc2bc1778b6897512af7"), looks := false }, kinds := [], alts := [], laidByText := true, laidKinds := [.data, .data, .data], laidTests := true, laidLooks := .later }
def RatMakesUptoCardSaid : Prop := Claim7.holds Tryz.pinned (.plain (OpenSpec.upto ratMakesSpec)) ratMakesUptoCard

/-- THE SECOND FORM's CARD OF 'glyphlaw02.RatInts'. -/
def ratIntsUptoCard : Claim7 := { stood := { row := ratIntsUptoRow, standIns := [], harness := (true, "2bf1a8ffa14fa339204ed9382560c811a60b20c427f7bc2bc1778b6897512af7"), looks := false }, kinds := [], alts := [], laidByText := true, laidKinds := [.data, .data, .data], laidTests := true, laidLooks := .later }
def RatIntsUptoCardSaid : Prop := Claim7.holds Tryz.pinned (.plain (OpenSpec.upto ratIntsSpec)) ratIntsUptoCard

/-- THE SECOND FORM's CARD OF 'glyphlaw02.RatReckons'. -/
def ratReckonsUptoCard : Claim7 := { stood := { row := ratReckonsUptoRow, standIns := [], harness := (true, "2bf1a8ffa14fa339204ed9382560c811a60b20c427f7bc2bc1778b6897512af7"), looks := false }, kinds := [], alts := [], laidByText := true, laidKinds := [.data, .data, .data], laidTests := true, laidLooks := .later }
def RatReckonsUptoCardSaid : Prop := Claim7.holds Tryz.pinned (.plain (OpenSpec.upto ratReckonsSpec)) ratReckonsUptoCard

/-- THE SECOND FORM's CARD OF 'glyphlaw02.RatRounds'. -/
def ratRoundsUptoCard : Claim7 := { stood := { row := ratRoundsUptoRow, standIns := [], harness := (true, "2bf1a8ffa14fa339204ed9382560c811a60b20c427f7bc2bc1778b6897512af7"), looks := false }, kinds := [], alts := [], laidByText := true, laidKinds := [.data, .data, .data], laidTests := true, laidLooks := .later }
def RatRoundsUptoCardSaid : Prop := Claim7.holds Tryz.pinned (.plain (OpenSpec.upto ratRoundsSpec)) ratRoundsUptoCard

/-- THE SECOND FORM's CARD OF 'glyphlaw02.RatCompares'. -/
def ratComparesUptoCard : Claim7 := { stood := { row := ratComparesUptoRow, standIns := [], harness := (true, "2bf1a8ffa14fa339204ed9382560c811a60b20c427f7bc2bc1778b6897512af7"), looks := false }, kinds := [], alts := [], laidByText := true, laidKinds := [.data, .data, .data], laidTests := true, laidLooks := .later }
def RatComparesUptoCardSaid : Prop := Claim7.holds Tryz.pinned (.plain (OpenSpec.upto ratComparesSpec)) ratComparesUptoCard

/-- THE SECOND FORM's CARD OF 'glyphlaw02.RatFunctions'. -/
def ratFunctionsUptoCard : Claim7 := { stood := { row := ratFunctionsUptoRow, standIns := [], harness := (true, "2bf1a8ffa14fa339204ed9382560c811a60b20c427f7bc2bc1778b6897512af7"), looks := false }, kinds := [], alts := [], laidByText := true, laidKinds := [.data, .data, .data], laidTests := true, laidLooks := .later }
def RatFunctionsUptoCardSaid : Prop := Claim7.holds Tryz.pinned (.plain (OpenSpec.upto ratFunctionsSpec)) ratFunctionsUptoCard
end Rows
end Go.Proofs.YtidbebfendjnlaaGreatDoor
