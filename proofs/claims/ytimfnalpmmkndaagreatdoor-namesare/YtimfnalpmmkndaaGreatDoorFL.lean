/- From a statement's row to its walk, where the tables of characters are listed: what they hold, a world for the witness. -/
import Derived.Test.YtimfnalpmmkndaaGreatDoorCards
import Derived.Test.YtimfnalpmmkndaaGreatDoorTie
import Derived.Test.YtimfnalpmmkndaaGreatDoorJ2
import Derived.Test.YtimfnalpmmkndaaGreatDoorShelf
import Derived.WalkKit
import Derived.ProofKit
import Derived.OpenShut
import Derived.Deep.DeepHandedRow
import Derived.Lib.LaidU8T
namespace Go.Proofs.YtimfnalpmmkndaaGreatDoor
set_option linter.unusedVariables false
set_option linter.unusedSimpArgs false
open Go.ChangeShapes Go.WideShapes Go.ChangeAt Go.RowKit

theorem own : ownKnob Tryz.prog.godebug = none := by kernel_rfl
def cellsOfLit : DataW Unit → List Value
 | .agg l => l.flatMap fun | .lit (.int k n) => [Value.int k n] | .agg m => m.map (fun | .lit (.int k n) => Value.int k n | _ => Value.bool false) | _ => [Value.bool false]
 | _ => []
def relaid (b : Nat) (cs : Array Value) (w : World) : World :=
 { w with heap := w.heap.modify b fun
     | .cells _ t frozen => .cells cs t frozen
     | o => o }
/-- The two tables laid. -/
def relaid2 (w : World) : World := relaid 0 (cellsOfLit Rows.laid_unicode_utf8_first).toArray (relaid 1 (cellsOfLit Rows.laid_unicode_utf8_acceptRanges).toArray w)

theorem laid_met (os : Os) (args : Array Value) : laidMet Tryz.prog [("unicode/utf8.acceptRanges", Rows.laid_unicode_utf8_acceptRanges), ("unicode/utf8.first", Rows.laid_unicode_utf8_first)] (((relaid2 (World.holding Tryz.prog os ⟨#[], #[], []⟩))).forCall (fun _ _ => 0) ⟨#[], args, []⟩).memory :=
 laidMet_of_run' 8 (by kernel_rfl) (by kernel_rfl)

/-- What a row's list gives of the two tables. -/
theorem tabs {W : World} (h : laidMetH Tryz.prog [("unicode/utf8.acceptRanges", Rows.laid_unicode_utf8_acceptRanges), ("unicode/utf8.first", Rows.laid_unicode_utf8_first)] W) : Lib.Utf8Tabs 0 1 W := by
 obtain ⟨ps, h1, _⟩ := h
 have e1 : (Rows.laid_unicode_utf8_acceptRanges : DataW Unit) = Lib.acceptData := by kernel_rfl
 have e2 : (Rows.laid_unicode_utf8_first : DataW Unit) = Lib.firstData := by kernel_rfl
 rw [e1, e2] at h1
 exact utf8Tabs_of_readsT (ρ := Tryz.lays260_ren) (U8Types.of260 Tryz.lays260) ⟨by kernel_rfl, by kernel_rfl, by kernel_rfl, by kernel_rfl, by kernel_rfl, by kernel_rfl, by kernel_rfl⟩ (Lib.LaidVars_reads h1 _ _ (.tail _ (.head _))) (Lib.LaidVars_reads h1 _ _ (.head _))
end Go.Proofs.YtimfnalpmmkndaaGreatDoor
