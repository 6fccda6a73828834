/-
  DERIVED. GIVEN WITH THE SEED: THE CARDS: each row of YtimfnalpmmkndaaGreatDoorRows.lean that lists a variable, with what it lists TIED to the program's text (the seventh form; the later family's looks); each row that meets fmt, with fmt's text TOLD by the authors' own Lean function (tested against real Go, not proved from fmt's source: count such statements apart). THE CARD IS WHAT COUNTS. Prove the row's statement (the work); the ties are given (YtimfnalpmmkndaaGreatDoorTie.lean); close each card by the builder's one call (the guide's Derived/Test/ToyasCard.lean, 'card_holds'). Laid BY PROGRAM, IN A SANDBOX (cutbox-door.mjs). By AI agents, Wed Nov 11 2026. No macro, syntax, notation, axiom, sorry.
-/
import Derived.Test.YtimfnalpmmkndaaGreatDoorRows
import GoSem.ClaimSeven
namespace Go.Proofs.YtimfnalpmmkndaaGreatDoor
namespace Rows

/-- THE TIED CARD OF 'glyphlaw11.NamesAre'. -/
def namesAreCard : Claim7 := { stood := { row := namesAreRow, standIns := [], harness := (true, "850fe61532f2b3012a942799564036fd13cec7552dfd5bd18660c5e2c7794063"), looks := false }, kinds := [], alts := [], laidByText := true, laidKinds := [.data, .pinned], laidTests := true, laidLooks := .later }
def NamesAreCardSaid : Prop := Claim7.holds Tryz.pinned (.plain (OpenSpec.ofChange namesAreSpec)) namesAreCard

/-- THE TIED CARD OF 'glyphlaw11.NamesBack'. -/
def namesBackCard : Claim7 := { stood := { row := namesBackRow, standIns := [], harness := (true, "850fe61532f2b3012a942799564036fd13cec7552dfd5bd18660c5e2c7794063"), looks := false }, kinds := [], alts := [], laidByText := true, laidKinds := [.data, .pinned], laidTests := true, laidLooks := .later }
def NamesBackCardSaid : Prop := Claim7.holds Tryz.pinned (.plain (OpenSpec.ofChange namesBackSpec)) namesBackCard

/-- THE TIED CARD OF 'glyphlaw11.NamesApart'. -/
def namesApartCard : Claim7 := { stood := { row := namesApartRow, standIns := [], harness := (true, "850fe61532f2b3012a942799564036fd13cec7552dfd5bd18660c5e2c7794063"), looks := false }, kinds := [], alts := [], laidByText := true, laidKinds := [.data, .pinned], laidTests := true, laidLooks := .later }
def NamesApartCardSaid : Prop := Claim7.holds Tryz.pinned (.plain (OpenSpec.ofChange namesApartSpec)) namesApartCard

/-- THE TIED CARD OF 'glyphlaw11.NamesErased'. -/
def namesErasedCard : Claim7 := { stood := { row := namesErasedRow, standIns := [], harness := (true, "850fe61532f2b3012a942799564036fd13cec7552dfd5bd18660c5e2c7794063"), looks := false }, kinds := [], alts := [], laidByText := true, laidKinds := [.data, .pinned], laidTests := true, laidLooks := .later }
def NamesErasedCardSaid : Prop := Claim7.holds Tryz.pinned (.plain (OpenSpec.ofChange namesErasedSpec)) namesErasedCard

/-- THE TIED CARD OF 'glyphtop.TopLocals'. -/
def topLocalsCard : Claim7 := { stood := { row := topLocalsRow, standIns := [], harness := (true, "850fe61532f2b3012a942799564036fd13cec7552dfd5bd18660c5e2c7794063"), looks := false }, kinds := [], alts := [], laidByText := true, laidKinds := [.data, .pinned], laidTests := true, laidLooks := .later }
def TopLocalsCardSaid : Prop := Claim7.holds Tryz.pinned (.plain (OpenSpec.ofChange topLocalsSpec)) topLocalsCard

/-- THE SECOND FORM's CARD OF 'glyphlaw11.NamesAre'. -/
def namesAreUptoCard : Claim7 := { stood := { row := namesAreUptoRow, standIns := [], harness := (true, "850fe61532f2b3012a942799564036fd13cec7552dfd5bd18660c5e2c7794063"), looks := false }, kinds := [], alts := [], laidByText := true, laidKinds := [.data, .pinned], laidTests := true, laidLooks := .later }
def NamesAreUptoCardSaid : Prop := Claim7.holds Tryz.pinned (.plain (OpenSpec.upto namesAreSpec)) namesAreUptoCard

/-- THE SECOND FORM's CARD OF 'glyphlaw11.NamesBack'. -/
def namesBackUptoCard : Claim7 := { stood := { row := namesBackUptoRow, standIns := [], harness := (true, "850fe61532f2b3012a942799564036fd13cec7552dfd5bd18660c5e2c7794063"), looks := false }, kinds := [], alts := [], laidByText := true, laidKinds := [.data, .pinned], laidTests := true, laidLooks := .later }
def NamesBackUptoCardSaid : Prop := Claim7.holds Tryz.pinned (.plain (OpenSpec.upto namesBackSpec)) namesBackUptoCard

/-- THE SECOND FORM's CARD OF 'glyphlaw11.NamesApart'. -/
def namesApartUptoCard : Claim7 := { stood := { row := namesApartUptoRow, standIns := [], harness := (true, "850fe61532f2b3012a942799564036fd13cec7552dfd5bd18660c5e2c7794063"), looks := false }, kinds := [], alts := [], laidByText := true, laidKinds := [.data, .pinned], laidTests := true, laidLooks := .later }
def NamesApartUptoCardSaid : Prop := Claim7.holds Tryz.pinned (.plain (OpenSpec.upto namesApartSpec)) namesApartUptoCard

/-- THE SECOND FORM's CARD OF 'glyphlaw11.NamesErased'. -/
def namesErasedUptoCard : Claim7 := { stood := { row := namesErasedUptoRow, standIns := [], harness := (true, "850fe61532f2b3012a942799564036fd13cec7552dfd5bd18660c5e2c7794063"), looks := false }, kinds := [], alts := [], laidByText := true, laidKinds := [.data, .pinned], laidTests := true, laidLooks := .later }
def NamesErasedUptoCardSaid : Prop := Claim7.holds Tryz.pinned (.plain (OpenSpec.upto namesErasedSpec)) namesErasedUptoCard

/-- THE SECOND FORM's CARD OF 'glyphtop.TopLocals'. -/
def topLocalsUptoCard : Claim7 := { stood := { row := topLocalsUptoRow, standIns := [], harness := (true, "850fe61532f2b3012a942799564036fd13cec7552dfd5bd18660c5e2c7794063"), looks := false }, kinds := [], alts := [], laidByText := true, laidKinds := [.data, .pinned], laidTests := true, laidLooks := .later }
def TopLocalsUptoCardSaid : Prop := Claim7.holds Tryz.pinned (.plain (OpenSpec.upto topLocalsSpec)) topLocalsUptoCard
end Rows
end Go.Proofs.YtimfnalpmmkndaaGreatDoor
