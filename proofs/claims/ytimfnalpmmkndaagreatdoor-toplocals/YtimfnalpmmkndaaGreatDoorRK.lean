/- rat.powerOf. -/
import Derived.Test.YtimfnalpmmkndaaGreatDoorKZ
import Derived.Test.YtimfnalpmmkndaaGreatDoorJ5
import Derived.Test.YtimfnalpmmkndaaGreatDoorJ1
import Derived.Test.YtimfnalpmmkndaaGreatDoorJ8
import Derived.Laws.AppendOwnNone
namespace Go.Proofs.YtimfnalpmmkndaaGreatDoor
set_option linter.unusedVariables false
set_option linter.unusedSimpArgs false
open Go.RowKit

end Go.Proofs.YtimfnalpmmkndaaGreatDoor

/- Plain facts on how many sets of k things n things have. -/
namespace Go.Proofs.YtimfnalpmmkndaaGreatDoor
set_option linter.unusedVariables false
set_option linter.unusedSimpArgs false

end Go.Proofs.YtimfnalpmmkndaaGreatDoor

/- rat.choose. -/
namespace Go.Proofs.YtimfnalpmmkndaaGreatDoor
set_option linter.unusedVariables false
set_option linter.unusedSimpArgs false
open Go.RowKit
section
variable {w : World} {a1 a2 a3 a4 : Option Addr} {c1 c2 c3 c4 : Nat} {xn xd yn yd : List Int}
end
end Go.Proofs.YtimfnalpmmkndaaGreatDoor

/- The document's numbers copied, turned, and without their sign. -/
namespace Go.Proofs.YtimfnalpmmkndaaGreatDoor
set_option linter.unusedVariables false
set_option linter.unusedSimpArgs false
open Go.RowKit

section
variable {w : World} {b : Bool} {a1 a2 : Option Addr} {c1 c2 : Nat} {ns ds : List Int}
end
end Go.Proofs.YtimfnalpmmkndaaGreatDoor

/- The document's Copy. -/
namespace Go.Proofs.YtimfnalpmmkndaaGreatDoor
set_option linter.unusedVariables false
set_option linter.unusedSimpArgs false
open Go.RowKit

section
variable {w : World} {b : Bool} {a1 a2 : Option Addr} {c1 c2 : Nat} {ns ds : List Int}
end
end Go.Proofs.YtimfnalpmmkndaaGreatDoor
