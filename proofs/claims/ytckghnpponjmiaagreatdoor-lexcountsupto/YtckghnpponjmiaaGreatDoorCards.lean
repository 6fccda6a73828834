/-
  DERIVED. GIVEN WITH THE SEED: THE CARDS: each row of YtckghnpponjmiaaGreatDoorRows.lean that lists a variable, with what it lists TIED to the program's text (the seventh form; the later family's looks); each row that meets fmt, with fmt's text TOLD by the authors' own Lean function (tested against real Go, not proved from fmt's source: count such statements apart). THE CARD IS WHAT COUNTS. Prove the row's statement (the work); the ties are given (YtckghnpponjmiaaGreatDoorTie.lean); close each card by the builder's one call (the guide's Derived/Test/ToyasCard.lean, 'card_holds'). Laid BY PROGRAM, IN A SANDBOX (cutbox-door.mjs). By AI agents, Wed Nov 11 2026. No macro, syntax, notation, axiom, sorry.
-/
import Derived.Test.YtckghnpponjmiaaGreatDoorRows
import GoSem.ClaimSeven
namespace Go.Proofs.YtckghnpponjmiaaGreatDoor
namespace Rows

/-- THE TIED CARD OF 'glyphlaw04.LexCounts'. -/
def lexCountsCard : Claim7 := { stood := { row := lexCountsRow, standIns := [], harness := (true, "d04d19108d7b92a5f6e29bda6261f934605ea35116dbfadacd26730ee639ed6c"), looks := false }, kinds := [], alts := [], laidByText := true, laidKinds := [.data, .pinned], laidTests := true, laidLooks := .later }
def LexCountsCardSaid : Prop := Claim7.holds Tryz.pinned (.plain (OpenSpec.ofChange lexCountsSpec)) lexCountsCard

/-- THE SECOND FORM's CARD OF 'glyphlaw04.LexCounts'. -/
def lexCountsUptoCard : Claim7 := { stood := { row := lexCountsUptoRow, standIns := [], harness := (true, "d04d19108d7b92a5f6e29bda6261f934605ea35116dbfadacd26730ee639ed6c"), looks := false }, kinds := [], alts := [], laidByText := true, laidKinds := [.data, .pinned], laidTests := true, laidLooks := .later }
def LexCountsUptoCardSaid : Prop := Claim7.holds Tryz.pinned (.plain (OpenSpec.upto lexCountsSpec)) lexCountsUptoCard
end Rows
end Go.Proofs.YtckghnpponjmiaaGreatDoor
