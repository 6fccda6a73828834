/-
  DERIVED. GIVEN WITH THE SEED: THE CARDS: each row of YtekmalpmcbjpeaaDoorRows.lean that lists a variable, with what it lists TIED to the program's text (the seventh form; the later family's looks); each row that meets fmt, with fmt's text TOLD by the authors' own Lean function (tested against real Go, not proved from fmt's source: count such statements apart). THE CARD IS WHAT COUNTS. Prove the row's statement (the work); the ties are given (YtekmalpmcbjpeaaDoorTie.lean); close each card by the builder's one call (the guide's Derived/Test/ToyasCard.lean, 'card_holds'). Laid BY PROGRAM, IN A SANDBOX (cutbox-door.mjs). By AI agents, Wed Nov 11 2026. No macro, syntax, notation, axiom, sorry.
-/
import Derived.Test.YtekmalpmcbjpeaaDoorRows
import GoSem.ClaimSeven
namespace Go.Proofs.YtekmalpmcbjpeaaDoor
namespace Rows

/-- THE TIED CARD OF 'glyphlaw02.RatBack'. -/
def ratBackCard : Claim7 := { stood := { row := ratBackRow, standIns := [], harness := (true, "c09451f0d25a8301da4810c6f4a818b1bd32a1461f20064657f18df299c65d8e"), looks := false }, kinds := [], alts := [], laidByText := true, laidKinds := [.data, .data, .data], laidTests := true, laidLooks := .later }
def RatBackCardSaid : Prop := Claim7.holds Tryd.pinned (.plain (OpenSpec.ofChange ratBackSpec)) ratBackCard

/-- THE TIED CARD OF 'glyphlaw02.RatResidues'. -/
def ratResiduesCard : Claim7 := { stood := { row := ratResiduesRow, standIns := [], harness := (true, "c09451f0d25a8301da4810c6f4a818b1bd32a1461f20064657f18df299c65d8e"), looks := false }, kinds := [], alts := [], laidByText := true, laidKinds := [.data, .data, .data], laidTests := true, laidLooks := .later }
def RatResiduesCardSaid : Prop := Claim7.holds Tryd.pinned (.plain (OpenSpec.ofChange ratResiduesSpec)) ratResiduesCard

/-- THE TIED CARD OF 'glyphlaw02.RatOrders'. -/
def ratOrdersCard : Claim7 := { stood := { row := ratOrdersRow, standIns := [], harness := (true, "c09451f0d25a8301da4810c6f4a818b1bd32a1461f20064657f18df299c65d8e"), looks := false }, kinds := [], alts := [], laidByText := true, laidKinds := [.data, .data, .data], laidTests := true, laidLooks := .later }
def RatOrdersCardSaid : Prop := Claim7.holds Tryd.pinned (.plain (OpenSpec.ofChange ratOrdersSpec)) ratOrdersCard

/-- THE TIED CARD OF 'glyphlaw02.RatPowers'. -/
def ratPowersCard : Claim7 := { stood := { row := ratPowersRow, standIns := [], harness := (true, "c09451f0d25a8301da4810c6f4a818b1bd32a1461f20064657f18df299c65d8e"), looks := false }, kinds := [], alts := [], laidByText := true, laidKinds := [.data, .data, .data], laidTests := true, laidLooks := .later }
def RatPowersCardSaid : Prop := Claim7.holds Tryd.pinned (.plain (OpenSpec.ofChange ratPowersSpec)) ratPowersCard

/-- THE TIED CARD OF 'glyphlaw02.RatPascal'. -/
def ratPascalCard : Claim7 := { stood := { row := ratPascalRow, standIns := [], harness := (true, "c09451f0d25a8301da4810c6f4a818b1bd32a1461f20064657f18df299c65d8e"), looks := false }, kinds := [], alts := [], laidByText := true, laidKinds := [.data, .data, .data], laidTests := true, laidLooks := .later }
def RatPascalCardSaid : Prop := Claim7.holds Tryd.pinned (.plain (OpenSpec.ofChange ratPascalSpec)) ratPascalCard

/-- THE SECOND FORM's CARD OF 'glyphlaw02.RatBack'. -/
def ratBackUptoCard : Claim7 := { stood := { row := ratBackUptoRow, standIns := [], harness := (true, "c09451f0d25a8301da4810c6f4a818b1bd32a1461f20064657f18df299c65d8e"), looks := false }, kinds := [], alts := [], laidByText := true, laidKinds := [.data, .data, .data], laidTests := true, laidLooks := .later }
def RatBackUptoCardSaid : Prop := Claim7.holds Tryd.pinned (.plain (OpenSpec.upto ratBackSpec)) ratBackUptoCard

/-- THE SECOND FORM's CARD OF 'glyphlaw02.RatResidues'. -/
def ratResiduesUptoCard : Claim7 := { stood := { row := ratResiduesUptoRow, standIns := [], harness := (true, "c09451f0d25a8301da4810c6f4a818b1bd32a1461f20064657f18df299c65d8e"), looks := false }, kinds := [], alts := [], laidByText := true, laidKinds := [.data, .data, .data], laidTests := true, laidLooks := .later }
def RatResiduesUptoCardSaid : Prop := Claim7.holds Tryd.pinned (.plain (OpenSpec.upto ratResiduesSpec)) ratResiduesUptoCard

/-- THE SECOND FORM's CARD OF 'glyphlaw02.RatOrders'. -/
def ratOrdersUptoCard : Claim7 := { stood := { row := ratOrdersUptoRow, standIns := [], harness := (true, "c09451f0d25a8301da4810c6f4a818b1bd32a1461f20064657f18df299c65d8e"), looks := false }, kinds := [], alts := [], laidByText := true, laidKinds := [.data, .data, .data], laidTests := true, laidLooks := .later }
def RatOrdersUptoCardSaid : Prop := Claim7.holds Tryd.pinned (.plain (OpenSpec.upto ratOrdersSpec)) ratOrdersUptoCard

/-- THE SECOND FORM's CARD OF 'glyphlaw02.RatPowers'. -/
def ratPowersUptoCard : Claim7 := { stood := { row := ratPowersUptoRow, standIns := [], harness := (true, "c09451f0d25a8301da4810c6f4a818b1bd32a1461f20064657f18df299c65d8e"), looks := false }, kinds := [], alts := [], laidByText := true, laidKinds := [.data, .data, .data], laidTests := true, laidLooks := .later }
def RatPowersUptoCardSaid : Prop := Claim7.holds Tryd.pinned (.plain (OpenSpec.upto ratPowersSpec)) ratPowersUptoCard

/-- THE SECOND FORM's CARD OF 'glyphlaw02.RatPascal'. -/
def ratPascalUptoCard : Claim7 := { stood := { row := ratPascalUptoRow, standIns := [], harness := (true, "c09451f0d25a8301da4810c6f4a818b1bd32a1461f20064657f18df299c65d8e"), looks := false }, kinds := [], alts := [], laidByText := true, laidKinds := [.data, .data, .data], laidTests := true, laidLooks := .later }
def RatPascalUptoCardSaid : Prop := Claim7.holds Tryd.pinned (.plain (OpenSpec.upto ratPascalSpec)) ratPascalUptoCard
end Rows
end Go.Proofs.YtekmalpmcbjpeaaDoor
