/-
  DERIVED. GIVEN WITH THE SEED: THE CARDS: each row of YtadkbcehhdcfaaaDoorRows.lean that lists a variable, with what it lists TIED to the program's text (the seventh form; the later family's looks); each row that meets fmt, with fmt's text TOLD by the authors' own Lean function (tested against real Go, not proved from fmt's source: count such statements apart). THE CARD IS WHAT COUNTS. Prove the row's statement (the work); the ties are given (YtadkbcehhdcfaaaDoorTie.lean); close each card by the builder's one call (the guide's Derived/Test/ToyasCard.lean, 'card_holds'). Laid BY PROGRAM, IN A SANDBOX (cutbox-door.mjs). By AI agents, Wed Nov 11 2026. No macro, syntax, notation, axiom, sorry.
-/
import Derived.Test.YtadkbcehhdcfaaaDoorRows
import GoSem.ClaimSeven
namespace Go.Proofs.YtadkbcehhdcfaaaDoor
namespace Rows

/-- THE TIED CARD OF 'glyphlaw14.ReportTexts'. -/
def reportTextsCard : Claim7 := { stood := { row := reportTextsRow, standIns := [], harness := (true, "537d1adba8dd28f81c2d9a4dfb236043193eaed209379e14eb77eb22979e32d6"), looks := false }, kinds := [], alts := [], laidByText := true, laidKinds := [.data, .data, .data, .data, .data, .pinned], laidTests := true, laidLooks := .later }
def ReportTextsCardSaid : Prop := Claim7.holds Tryd.pinned (.plain (OpenSpec.ofChange reportTextsSpec)) reportTextsCard

/-- THE TIED CARD OF 'glyphlaw14.ReportLines'. -/
def reportLinesCard : Claim7 := { stood := { row := reportLinesRow, standIns := [], harness := (true, "537d1adba8dd28f81c2d9a4dfb236043193eaed209379e14eb77eb22979e32d6"), looks := false }, kinds := [], alts := [], laidByText := true, laidKinds := [.data, .data, .data, .data, .data, .pinned], laidTests := true, laidLooks := .later }
def ReportLinesCardSaid : Prop := Claim7.holds Tryd.pinned (.plain (OpenSpec.ofChange reportLinesSpec)) reportLinesCard

/-- THE TIED CARD OF 'glyphlaw14.ReportOutcomes'. -/
def reportOutcomesCard : Claim7 := { stood := { row := reportOutcomesRow, standIns := [], harness := (true, "537d1adba8dd28f81c2d9a4dfb236043193eaed209379e14eb77eb22979e32d6"), looks := false }, kinds := [], alts := [], laidByText := true, laidKinds := [.data, .data, .data, .data, .data, .pinned], laidTests := true, laidLooks := .later }
def ReportOutcomesCardSaid : Prop := Claim7.holds Tryd.pinned (.plain (OpenSpec.ofChange reportOutcomesSpec)) reportOutcomesCard

/-- THE TIED CARD OF 'glyphlaw14.ReportBack'. -/
def reportBackCard : Claim7 := { stood := { row := reportBackRow, standIns := [], harness := (true, "537d1adba8dd28f81c2d9a4dfb236043193eaed209379e14eb77eb22979e32d6"), looks := false }, kinds := [], alts := [], laidByText := true, laidKinds := [.data, .data, .data, .data, .data, .pinned], laidTests := true, laidLooks := .later }
def ReportBackCardSaid : Prop := Claim7.holds Tryd.pinned (.plain (OpenSpec.ofChange reportBackSpec)) reportBackCard

/-- THE TIED CARD OF 'glyphlaw14.ReportCarets'. -/
def reportCaretsCard : Claim7 := { stood := { row := reportCaretsRow, standIns := [], harness := (true, "537d1adba8dd28f81c2d9a4dfb236043193eaed209379e14eb77eb22979e32d6"), looks := false }, kinds := [], alts := [], laidByText := true, laidKinds := [.data, .data, .data, .data, .data, .pinned], laidTests := true, laidLooks := .later }
def ReportCaretsCardSaid : Prop := Claim7.holds Tryd.pinned (.plain (OpenSpec.ofChange reportCaretsSpec)) reportCaretsCard

/-- THE SECOND FORM's CARD OF 'glyphlaw14.ReportTexts'. -/
def reportTextsUptoCard : Claim7 := { stood := { row := reportTextsUptoRow, standIns := [], harness := (true, "537d1adba8dd28f81c2d9a4dfb236043193eaed209379e14eb77eb22979e32d6"), looks := false }, kinds := [], alts := [], laidByText := true, laidKinds := [.data, .data, .data, .data, .data, .pinned], laidTests := true, laidLooks := .later }
def ReportTextsUptoCardSaid : Prop := Claim7.holds Tryd.pinned (.plain (OpenSpec.upto reportTextsSpec)) reportTextsUptoCard

/-- THE SECOND FORM's CARD OF 'glyphlaw14.ReportLines'. -/
def reportLinesUptoCard : Claim7 := { stood := { row := reportLinesUptoRow, standIns := [], harness := (true, "537d1adba8dd28f81c2d9a4dfb236043193eaed209379e14eb77eb22979e32d6"), looks := false }, kinds := [], alts := [], laidByText := true, laidKinds := [.data, .data, .data, .data, .data, .pinned], laidTests := true, laidLooks := .later }
def ReportLinesUptoCardSaid : Prop := Claim7.holds Tryd.pinned (.plain (OpenSpec.upto reportLinesSpec)) reportLinesUptoCard

/-- THE SECOND FORM's CARD OF 'glyphlaw14.ReportOutcomes'. -/
def reportOutcomesUptoCard : Claim7 := { stood := { row := reportOutcomesUptoRow, standIns := [], harness := (true, "537d1adba8dd28f81c2d9a4dfb236043193eaed209379e14eb77eb22979e32d6"), looks := false }, kinds := [], alts := [], laidByText := true, laidKinds := [.data, .data, .data, .data, .data, .pinned], laidTests := true, laidLooks := .later }
def ReportOutcomesUptoCardSaid : Prop := Claim7.holds Tryd.pinned (.plain (OpenSpec.upto reportOutcomesSpec)) reportOutcomesUptoCard

/-- THE SECOND FORM's CARD OF 'glyphlaw14.ReportBack'. -/
def reportBackUptoCard : Claim7 := { stood := { row := reportBackUptoRow, standIns := [], harness := (true, "537d1adba8dd28f81c2d9a4dfb236043193eaed209379e14eb77eb22979e32d6"), looks := false }, kinds := [], alts := [], laidByText := true, laidKinds := [.data, .data, .data, .data, .data, .pinned], laidTests := true, laidLooks := .later }
def ReportBackUptoCardSaid : Prop := Claim7.holds Tryd.pinned (.plain (OpenSpec.upto reportBackSpec)) reportBackUptoCard

/-- THE SECOND FORM's CARD OF 'glyphlaw14.ReportCarets'. -/
def reportCaretsUptoCard : Claim7 := { stood := { row := reportCaretsUptoRow, standIns := [], harness := (true, "537d1adba8dd28f81c2d9a4dfb236043193eaed209379e14eb77eb22979e32d6"), looks := false }, kinds := [], alts := [], laidByText := true, laidKinds := [.data, .data, .data, .data, .data, .pinned], laidTests := true, laidLooks := .later }
def ReportCaretsUptoCardSaid : Prop := Claim7.holds Tryd.pinned (.plain (OpenSpec.upto reportCaretsSpec)) reportCaretsUptoCard
end Rows
end Go.Proofs.YtadkbcehhdcfaaaDoor
