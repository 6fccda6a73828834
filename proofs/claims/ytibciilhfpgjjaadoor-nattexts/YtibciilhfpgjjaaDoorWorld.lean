/- A world for the witness: the settled one, the listed tables holding what their initialisers lay. -/
import Derived.Test.YtibciilhfpgjjaaDoorFrame
namespace Go.Proofs.YtibciilhfpgjjaaDoor
set_option linter.unusedVariables false
set_option linter.unusedSimpArgs false
open Go.RowKit

def cellsOfData : DataW Unit → Array Value
  | .agg l => (l.map fun | .lit (.int k n) => Value.int k n | _ => Value.bool false).toArray
  | _ => #[]
def relaid (b : Nat) (cs : Array Value) (w : World) : World :=
  { w with heap := w.heap.modify b fun
      | .cells _ t frozen => .cells cs t frozen
      | o => o }
/-- The three tables laid. -/
def relaid3 (w : World) : World := relaid 0 (cellsOfData Rows.laid_internal_strconv_uint64pow10) (relaid 2 (cellsOfData Rows.laid_math_bits_deBruijn32tab) (relaid 3 (cellsOfData Rows.laid_math_bits_deBruijn64tab) w))

theorem laid_met (os : Os) (args : Array Value) : laidMet Tryd.prog [("math/bits.deBruijn32tab", Rows.laid_math_bits_deBruijn32tab), ("math/bits.deBruijn64tab", Rows.laid_math_bits_deBruijn64tab), ("internal/strconv.uint64pow10", Rows.laid_internal_strconv_uint64pow10)] (((relaid3 (World.holding Tryd.prog os ⟨#[], #[], []⟩))).forCall (fun _ _ => 0) ⟨#[], args, []⟩).memory :=
  laidMet_of_run' 8 (by kernel_rfl) (by kernel_rfl)
end Go.Proofs.YtibciilhfpgjjaaDoor
