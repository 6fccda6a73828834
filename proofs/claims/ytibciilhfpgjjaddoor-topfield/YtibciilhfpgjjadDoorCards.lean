/-
  DERIVED. GIVEN WITH THE SEED: THE CARDS: each row of YtibciilhfpgjjadDoorRows.lean that lists a variable, with what it lists TIED to the program's text (the seventh form; the later family's looks); each row that meets fmt, with fmt's text TOLD by the authors' own Lean function (tested against real Go, not proved from fmt's source: count such statements apart). THE CARD IS WHAT COUNTS. Prove the row's statement (the work); the ties are given (YtibciilhfpgjjadDoorTie.lean); close each card by the builder's one call (the guide's Derived/Test/ToyasCard.lean, 'card_holds'). Laid BY PROGRAM, IN A SANDBOX (cutbox-door.mjs). By AI agents, Wed Nov 11 2026. No macro, syntax, notation, axiom, sorry.
-/
import Derived.Test.YtibciilhfpgjjadDoorRows
import GoSem.ClaimSeven
namespace Go.Proofs.YtibciilhfpgjjadDoor
namespace Rows

/-- THE TIED CARD OF 'glyphlaw02.RatResidues'. -/
def ratResiduesCard : Claim7 := { stood := { row := ratResiduesRow, standIns := [], harness := (true, "cea922485fbf10b531a96f688af667e46ed87d9f16a527ef435b78c1f3161495"), looks := false }, kinds := [], alts := [], laidByText := true, laidKinds := [.data, .data, .data], laidTests := true, laidLooks := .later }
def RatResiduesCardSaid : Prop := Claim7.holds Tryd.pinned (.plain (OpenSpec.ofChange ratResiduesSpec)) ratResiduesCard

/-- THE TIED CARD OF 'glyphlaw02.RatOrders'. -/
def ratOrdersCard : Claim7 := { stood := { row := ratOrdersRow, standIns := [], harness := (true, "cea922485fbf10b531a96f688af667e46ed87d9f16a527ef435b78c1f3161495"), looks := false }, kinds := [], alts := [], laidByText := true, laidKinds := [.data, .data, .data], laidTests := true, laidLooks := .later }
def RatOrdersCardSaid : Prop := Claim7.holds Tryd.pinned (.plain (OpenSpec.ofChange ratOrdersSpec)) ratOrdersCard

/-- THE TIED CARD OF 'glyphlaw02.RatPowers'. -/
def ratPowersCard : Claim7 := { stood := { row := ratPowersRow, standIns := [], harness := (true, "cea922485fbf10b531a96f688af667e46ed87d9f16a527ef435b78c1f3161495"), looks := false }, kinds := [], alts := [], laidByText := true, laidKinds := [.data, .data, .data], laidTests := true, laidLooks := .later }
def RatPowersCardSaid : Prop := Claim7.holds Tryd.pinned (.plain (OpenSpec.ofChange ratPowersSpec)) ratPowersCard

/-- THE TIED CARD OF 'glyphlaw02.RatPascal'. -/
def ratPascalCard : Claim7 := { stood := { row := ratPascalRow, standIns := [], harness := (true, "cea922485fbf10b531a96f688af667e46ed87d9f16a527ef435b78c1f3161495"), looks := false }, kinds := [], alts := [], laidByText := true, laidKinds := [.data, .data, .data], laidTests := true, laidLooks := .later }
def RatPascalCardSaid : Prop := Claim7.holds Tryd.pinned (.plain (OpenSpec.ofChange ratPascalSpec)) ratPascalCard

/-- THE TIED CARD OF 'glyphtop.TopField'. -/
def topFieldCard : Claim7 := { stood := { row := topFieldRow, standIns := [], harness := (true, "cea922485fbf10b531a96f688af667e46ed87d9f16a527ef435b78c1f3161495"), looks := false }, kinds := [], alts := [], laidByText := true, laidKinds := [.data, .data, .data], laidTests := true, laidLooks := .later }
def TopFieldCardSaid : Prop := Claim7.holds Tryd.pinned (.plain (OpenSpec.ofChange topFieldSpec)) topFieldCard

/-- THE SECOND FORM's CARD OF 'glyphlaw02.RatResidues'. -/
def ratResiduesUptoCard : Claim7 := { stood := { row := ratResiduesUptoRow, standIns := [], harness := (true, "cea922485fbf10b531a96f688af667e46ed87d9f16a527ef435b78c1f3161495"), looks := false }, kinds := [], alts := [], laidByText := true, laidKinds := [.data, .data, .data], laidTests := true, laidLooks := .later }
def RatResiduesUptoCardSaid : Prop := Claim7.holds Tryd.pinned (.plain (OpenSpec.upto ratResiduesSpec)) ratResiduesUptoCard

/-- THE SECOND FORM's CARD OF 'glyphlaw02.RatOrders'. -/
def ratOrdersUptoCard : Claim7 := { stood := { row := ratOrdersUptoRow, standIns := [], harness := (true, "cea922485fbf10b531a96f688af667e46ed87d9f16a527ef435b78c1f3161495"), looks := false }, kinds := [], alts := [], laidByText := true, laidKinds := [.data, .data, .data], laidTests := true, laidLooks := .later }
def RatOrdersUptoCardSaid : Prop := Claim7.holds Tryd.pinned (.plain (OpenSpec.upto ratOrdersSpec)) ratOrdersUptoCard

/-- THE SECOND FORM's CARD OF 'glyphlaw02.RatPowers'. -/
def ratPowersUptoCard : Claim7 := { stood := { row := ratPowersUptoRow, standIns := [], harness := (true, "cea922485fbf10b531a96f688af667e46ed87d9f16a527ef435b78c1f3161495"), looks := false }, kinds := [], alts := [], laidByText := true, laidKinds := [.data, .data, .data], laidTests := true, laidLooks := .later }
def RatPowersUptoCardSaid : Prop := Claim7.holds Tryd.pinned (.plain (OpenSpec.upto ratPowersSpec)) ratPowersUptoCard

/-- THE SECOND FORM's CARD OF 'glyphlaw02.RatPascal'. -/
def ratPascalUptoCard : Claim7 := { stood := { row := ratPascalUptoRow, standIns := [], harness := (true, "cea922485fbf10b531a96f688af667e46ed87d9f16a527ef435b78c1f3161495"), looks := false }, kinds := [], alts := [], laidByText := true, laidKinds := [.data, .data, .data], laidTests := true, laidLooks := .later }
def RatPascalUptoCardSaid : Prop := Claim7.holds Tryd.pinned (.plain (OpenSpec.upto ratPascalSpec)) ratPascalUptoCard

/-- THE SECOND FORM's CARD OF 'glyphtop.TopField'. -/
def topFieldUptoCard : Claim7 := { stood := { row := topFieldUptoRow, standIns := [], harness := (true, "cea922485fbf10b531a96f688af667e46ed87d9f16a527ef435b78c1f3161495"), looks := false }, kinds := [], alts := [], laidByText := true, laidKinds := [.data, .data, .data], laidTests := true, laidLooks := .later }
def TopFieldUptoCardSaid : Prop := Claim7.holds Tryd.pinned (.plain (OpenSpec.upto topFieldSpec)) topFieldUptoCard
end Rows
end Go.Proofs.YtibciilhfpgjjadDoor
