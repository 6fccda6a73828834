/- array.measuredItem at a character. -/
import Derived.Test.YthfmicokddcglaaGreatDoorKZ
namespace Go.Proofs.YthfmicokddcglaaGreatDoor
set_option linter.unusedVariables false
set_option linter.unusedSimpArgs false
open Go.RowKit

section
variable {D : Nat → Prop} {f : Nat} {w : World} {a1 a2 a3 : Option Addr} {c1 c2 c3 : Nat} {t : Tr}
end
end Go.Proofs.YthfmicokddcglaaGreatDoor
