/-
  DERIVED. GIVEN WITH THE SEED: THE CARDS: each row of YtflkclphchafaaaGreatDoorRows.lean that lists a variable, with what it lists TIED to the program's text (the seventh form; the later family's looks); each row that meets fmt, with fmt's text TOLD by the authors' own Lean function (tested against real Go, not proved from fmt's source: count such statements apart). THE CARD IS WHAT COUNTS. Prove the row's statement (the work); the ties are given (YtflkclphchafaaaGreatDoorTie.lean); close each card by the builder's one call (the guide's Derived/Test/ToyasCard.lean, 'card_holds'). Laid BY PROGRAM, IN A SANDBOX (cutbox-door.mjs). By AI agents, Wed Nov 11 2026. No macro, syntax, notation, axiom, sorry.
-/
import Derived.Test.YtflkclphchafaaaGreatDoorRows
import GoSem.ClaimSeven
namespace Go.Proofs.YtflkclphchafaaaGreatDoor
namespace Rows

/-- THE TIED CARD OF 'glyphlaw12.DefineMakes'. -/
def defineMakesCard : Claim7 := { stood := { row := defineMakesRow, standIns := [], harness := (true, "ebbbdd72452313bc54a13d206c07f8eed07271c4f085bebe35c09ed4d2fedbf8"), looks := false }, kinds := [], alts := [], laidByText := true, laidKinds := [.data, .pinned], laidTests := true, laidLooks := .later }
def DefineMakesCardSaid : Prop := Claim7.holds Tryz.pinned (.plain (OpenSpec.ofChange defineMakesSpec)) defineMakesCard

/-- THE TIED CARD OF 'glyphlaw12.DefineBack'. -/
def defineBackCard : Claim7 := { stood := { row := defineBackRow, standIns := [], harness := (true, "ebbbdd72452313bc54a13d206c07f8eed07271c4f085bebe35c09ed4d2fedbf8"), looks := false }, kinds := [], alts := [], laidByText := true, laidKinds := [.data, .pinned], laidTests := true, laidLooks := .later }
def DefineBackCardSaid : Prop := Claim7.holds Tryz.pinned (.plain (OpenSpec.ofChange defineBackSpec)) defineBackCard

/-- THE SECOND FORM's CARD OF 'glyphlaw12.DefineMakes'. -/
def defineMakesUptoCard : Claim7 := { stood := { row := defineMakesUptoRow, standIns := [], harness := (true, "ebbbdd72452313bc54a13d206c07f8eed07271c4f085bebe35c09ed4d2fedbf8"), looks := false }, kinds := [], alts := [], laidByText := true, laidKinds := [.data, .pinned], laidTests := true, laidLooks := .later }
def DefineMakesUptoCardSaid : Prop := Claim7.holds Tryz.pinned (.plain (OpenSpec.upto defineMakesSpec)) defineMakesUptoCard

/-- THE SECOND FORM's CARD OF 'glyphlaw12.DefineBack'. -/
def defineBackUptoCard : Claim7 := { stood := { row := defineBackUptoRow, standIns := [], harness := (true, "ebbbdd72452313bc54a13d206c07f8eed07271c4f085bebe35c09ed4d2fedbf8"), looks := false }, kinds := [], alts := [], laidByText := true, laidKinds := [.data, .pinned], laidTests := true, laidLooks := .later }
def DefineBackUptoCardSaid : Prop := Claim7.holds Tryz.pinned (.plain (OpenSpec.upto defineBackSpec)) defineBackUptoCard
end Rows
end Go.Proofs.YtflkclphchafaaaGreatDoor
