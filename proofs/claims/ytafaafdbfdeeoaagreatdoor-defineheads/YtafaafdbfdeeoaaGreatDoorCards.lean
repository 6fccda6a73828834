/-
  DERIVED. GIVEN WITH THE SEED: THE CARDS: each row of YtafaafdbfdeeoaaGreatDoorRows.lean that lists a variable, with what it lists TIED to the program's text (the seventh form; the later family's looks); each row that meets fmt, with fmt's text TOLD by the authors' own Lean function (tested against real Go, not proved from fmt's source: count such statements apart). THE CARD IS WHAT COUNTS. Prove the row's statement (the work); the ties are given (YtafaafdbfdeeoaaGreatDoorTie.lean); close each card by the builder's one call (the guide's Derived/Test/ToyasCard.lean, 'card_holds'). Laid BY PROGRAM, IN A SANDBOX (cutbox-door.mjs). By AI agents, Wed Nov 11 2026. No macro, syntax, notation, axiom, sorry.
-/
import Derived.Test.YtafaafdbfdeeoaaGreatDoorRows
import GoSem.ClaimSeven
namespace Go.Proofs.YtafaafdbfdeeoaaGreatDoor
namespace Rows

/-- THE TIED CARD OF 'glyphlaw12.DefineMakes'. -/
def defineMakesCard : Claim7 := { stood := { row := defineMakesRow, standIns := [], harness := (true, "04b7b9488d5c3fbfd54cf941ca399b3e80c5959cc9e2dbd625cb262d259af2df"), looks := false }, kinds := [], alts := [], laidByText := true, laidKinds := [.data, .pinned], laidTests := true, laidLooks := .later }
def DefineMakesCardSaid : Prop := Claim7.holds Tryz.pinned (.plain (OpenSpec.ofChange defineMakesSpec)) defineMakesCard

/-- THE TIED CARD OF 'glyphlaw12.DefineBack'. -/
def defineBackCard : Claim7 := { stood := { row := defineBackRow, standIns := [], harness := (true, "04b7b9488d5c3fbfd54cf941ca399b3e80c5959cc9e2dbd625cb262d259af2df"), looks := false }, kinds := [], alts := [], laidByText := true, laidKinds := [.data, .pinned], laidTests := true, laidLooks := .later }
def DefineBackCardSaid : Prop := Claim7.holds Tryz.pinned (.plain (OpenSpec.ofChange defineBackSpec)) defineBackCard

/-- THE TIED CARD OF 'glyphlaw12.DefineHeads'. -/
def defineHeadsCard : Claim7 := { stood := { row := defineHeadsRow, standIns := [], harness := (true, "04b7b9488d5c3fbfd54cf941ca399b3e80c5959cc9e2dbd625cb262d259af2df"), looks := false }, kinds := [], alts := [], laidByText := true, laidKinds := [.data, .pinned], laidTests := true, laidLooks := .later }
def DefineHeadsCardSaid : Prop := Claim7.holds Tryz.pinned (.plain (OpenSpec.ofChange defineHeadsSpec)) defineHeadsCard

/-- THE SECOND FORM's CARD OF 'glyphlaw12.DefineMakes'. -/
def defineMakesUptoCard : Claim7 := { stood := { row := defineMakesUptoRow, standIns := [], harness := (true, "04b7b9488d5c3fbfd54cf941ca399b3e80c5959cc9e2dbd625cb262d259af2df"), looks := false }, kinds := [], alts := [], laidByText := true, laidKinds := [.data, .pinned], laidTests := true, laidLooks := .later }
def DefineMakesUptoCardSaid : Prop := Claim7.holds Tryz.pinned (.plain (OpenSpec.upto defineMakesSpec)) defineMakesUptoCard

/-- THE SECOND FORM's CARD OF 'glyphlaw12.DefineBack'. -/
def defineBackUptoCard : Claim7 := { stood := { row := defineBackUptoRow, standIns := [], harness := (true, "04b7b9488d5c3fbfd54cf941ca399b3e80c5959cc9e2dbd625cb262d259af2df"), looks := false }, kinds := [], alts := [], laidByText := true, laidKinds := [.data, .pinned], laidTests := true, laidLooks := .later }
def DefineBackUptoCardSaid : Prop := Claim7.holds Tryz.pinned (.plain (OpenSpec.upto defineBackSpec)) defineBackUptoCard

/-- THE SECOND FORM's CARD OF 'glyphlaw12.DefineHeads'. -/
def defineHeadsUptoCard : Claim7 := { stood := { row := defineHeadsUptoRow, standIns := [], harness := (true, "04b7b9488d5c3fbfd54cf941ca399b3e80c5959cc9e2dbd625cb262d259af2df"), looks := false }, kinds := [], alts := [], laidByText := true, laidKinds := [.data, .pinned], laidTests := true, laidLooks := .later }
def DefineHeadsUptoCardSaid : Prop := Claim7.holds Tryz.pinned (.plain (OpenSpec.upto defineHeadsSpec)) defineHeadsUptoCard
end Rows
end Go.Proofs.YtafaafdbfdeeoaaGreatDoor
