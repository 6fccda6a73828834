/-
  DERIVED. GIVEN WITH THE SEED: THE CARDS: each row of YtahfllppbfnpfaaGreatDoorRows.lean that lists a variable, with what it lists TIED to the program's text (the seventh form; the later family's looks); each row that meets fmt, with fmt's text TOLD by the authors' own Lean function (tested against real Go, not proved from fmt's source: count such statements apart). THE CARD IS WHAT COUNTS. Prove the row's statement (the work); the ties are given (YtahfllppbfnpfaaGreatDoorTie.lean); close each card by the builder's one call (the guide's Derived/Test/ToyasCard.lean, 'card_holds'). Laid BY PROGRAM, IN A SANDBOX (cutbox-door.mjs). By AI agents, Wed Nov 11 2026. No macro, syntax, notation, axiom, sorry.
-/
import Derived.Test.YtahfllppbfnpfaaGreatDoorRows
import GoSem.ClaimSeven
namespace Go.Proofs.YtahfllppbfnpfaaGreatDoor
namespace Rows

/-- THE TIED CARD OF 'glyphtop.TopNumerals'. -/
def topNumeralsCard : Claim7 := { stood := { row := topNumeralsRow, standIns := [], harness := (true, "c3ed5390480b4a2493d6cd6ebbe2a2dabc48790f71ce3041d9dab76192ef6a03"), looks := false }, kinds := [], alts := [], laidByText := true, laidKinds := [.data, .data, .data], laidTests := true, laidLooks := .later }
def TopNumeralsCardSaid : Prop := Claim7.holds Tryz.pinned (.plain (OpenSpec.ofChange topNumeralsSpec)) topNumeralsCard

/-- THE SECOND FORM's CARD OF 'glyphtop.TopNumerals'. -/
def topNumeralsUptoCard : Claim7 := { stood := { row := topNumeralsUptoRow, standIns := [], harness := (true, "c3ed5390480b4a2493d6cd6ebbe2a2dabc48790f71ce3041d9dab76192ef6a03"), looks := false }, kinds := [], alts := [], laidByText := true, laidKinds := [.data, .data, .data], laidTests := true, laidLooks := .later }
def TopNumeralsUptoCardSaid : Prop := Claim7.holds Tryz.pinned (.plain (OpenSpec.upto topNumeralsSpec)) topNumeralsUptoCard
end Rows
end Go.Proofs.YtahfllppbfnpfaaGreatDoor
