/-
  DERIVED. GIVEN WITH THE SEED: THE CARDS: each row of YtjehbnpamahepaaGreatDoorRows.lean that lists a variable, with what it lists TIED to the program's text (the seventh form; the later family's looks); each row that meets fmt, with fmt's text TOLD by the authors' own Lean function (tested against real Go, not proved from fmt's source: count such statements apart). THE CARD IS WHAT COUNTS. Prove the row's statement (the work); the ties are given (YtjehbnpamahepaaGreatDoorTie.lean); close each card by the builder's one call (the guide's Derived/Test/ToyasCard.lean, 'card_holds'). Laid BY PROGRAM, IN A SANDBOX (cutbox-door.mjs). By AI agents, Wed Nov 11 2026. No macro, syntax, notation, axiom, sorry.
-/
import Derived.Test.YtjehbnpamahepaaGreatDoorRows
import GoSem.ClaimSeven
namespace Go.Proofs.YtjehbnpamahepaaGreatDoor
namespace Rows

/-- THE TIED CARD OF 'glyphlaw12.DefineMakes'. -/
def defineMakesCard : Claim7 := { stood := { row := defineMakesRow, standIns := [], harness := (true, "18e7e19d901b965faf85f6158b196f5fd648edc047397eedfee7c592c2b03b0f"), looks := false }, kinds := [], alts := [], laidByText := true, laidKinds := [.data, .pinned], laidTests := true, laidLooks := .later }
def DefineMakesCardSaid : Prop := Claim7.holds Tryz.pinned (.plain (OpenSpec.ofChange defineMakesSpec)) defineMakesCard

/-- THE TIED CARD OF 'glyphlaw12.DefineBack'. -/
def defineBackCard : Claim7 := { stood := { row := defineBackRow, standIns := [], harness := (true, "18e7e19d901b965faf85f6158b196f5fd648edc047397eedfee7c592c2b03b0f"), looks := false }, kinds := [], alts := [], laidByText := true, laidKinds := [.data, .pinned], laidTests := true, laidLooks := .later }
def DefineBackCardSaid : Prop := Claim7.holds Tryz.pinned (.plain (OpenSpec.ofChange defineBackSpec)) defineBackCard

/-- THE TIED CARD OF 'glyphlaw12.DefineLabels'. -/
def defineLabelsCard : Claim7 := { stood := { row := defineLabelsRow, standIns := [], harness := (true, "18e7e19d901b965faf85f6158b196f5fd648edc047397eedfee7c592c2b03b0f"), looks := false }, kinds := [], alts := [], laidByText := true, laidKinds := [.data, .pinned], laidTests := true, laidLooks := .later }
def DefineLabelsCardSaid : Prop := Claim7.holds Tryz.pinned (.plain (OpenSpec.ofChange defineLabelsSpec)) defineLabelsCard

/-- THE TIED CARD OF 'glyphlaw12.DefineHeads'. -/
def defineHeadsCard : Claim7 := { stood := { row := defineHeadsRow, standIns := [], harness := (true, "18e7e19d901b965faf85f6158b196f5fd648edc047397eedfee7c592c2b03b0f"), looks := false }, kinds := [], alts := [], laidByText := true, laidKinds := [.data, .pinned], laidTests := true, laidLooks := .later }
def DefineHeadsCardSaid : Prop := Claim7.holds Tryz.pinned (.plain (OpenSpec.ofChange defineHeadsSpec)) defineHeadsCard

/-- THE SECOND FORM's CARD OF 'glyphlaw12.DefineMakes'. -/
def defineMakesUptoCard : Claim7 := { stood := { row := defineMakesUptoRow, standIns := [], harness := (true, "18e7e19d901b965faf85f6158b196f5fd648edc047397eedfee7c592c2b03b0f"), looks := false }, kinds := [], alts := [], laidByText := true, laidKinds := [.data, .pinned], laidTests := true, laidLooks := .later }
def DefineMakesUptoCardSaid : Prop := Claim7.holds Tryz.pinned (.plain (OpenSpec.upto defineMakesSpec)) defineMakesUptoCard

/-- THE SECOND FORM's CARD OF 'glyphlaw12.DefineBack'. -/
def defineBackUptoCard : Claim7 := { stood := { row := defineBackUptoRow, standIns := [], harness := (true, "18e7e19d901b965faf85f6158b196f5fd648edc047397eedfee7c592c2b03b0f"), looks := false }, kinds := [], alts := [], laidByText := true, laidKinds := [.data, .pinned], laidTests := true, laidLooks := .later }
def DefineBackUptoCardSaid : Prop := Claim7.holds Tryz.pinned (.plain (OpenSpec.upto defineBackSpec)) defineBackUptoCard

/-- THE SECOND FORM's CARD OF 'glyphlaw12.DefineLabels'. -/
def defineLabelsUptoCard : Claim7 := { stood := { row := defineLabelsUptoRow, standIns := [], harness := (true, "18e7e19d901b965faf85f6158b196f5fd648edc047397eedfee7c592c2b03b0f"), looks := false }, kinds := [], alts := [], laidByText := true, laidKinds := [.data, .pinned], laidTests := true, laidLooks := .later }
def DefineLabelsUptoCardSaid : Prop := Claim7.holds Tryz.pinned (.plain (OpenSpec.upto defineLabelsSpec)) defineLabelsUptoCard

/-- THE SECOND FORM's CARD OF 'glyphlaw12.DefineHeads'. -/
def defineHeadsUptoCard : Claim7 := { stood := { row := defineHeadsUptoRow, standIns := [], harness := (true, "18e7e19d901b965faf85f6158b196f5fd648edc047397eedfee7c592c2b03b0f"), looks := false }, kinds := [], alts := [], laidByText := true, laidKinds := [.data, .pinned], laidTests := true, laidLooks := .later }
def DefineHeadsUptoCardSaid : Prop := Claim7.holds Tryz.pinned (.plain (OpenSpec.upto defineHeadsSpec)) defineHeadsUptoCard
end Rows
end Go.Proofs.YtjehbnpamahepaaGreatDoor
