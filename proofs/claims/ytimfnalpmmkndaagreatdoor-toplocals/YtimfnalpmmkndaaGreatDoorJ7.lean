/- The document's answers of layer 1: Trim, Of, Right, Same. -/
import Derived.Test.YtimfnalpmmkndaaGreatDoorJ2
import Derived.Test.YtimfnalpmmkndaaGreatDoorJ3
import Derived.Test.YtimfnalpmmkndaaGreatDoorJ5
import Derived.Deep.RegionHeld3
namespace Go.Proofs.YtimfnalpmmkndaaGreatDoor
set_option linter.unusedVariables false
set_option linter.unusedSimpArgs false
open Go.RowKit
def sh (A : Int) (j : Nat) : Int := A / p2 j
end Go.Proofs.YtimfnalpmmkndaaGreatDoor
