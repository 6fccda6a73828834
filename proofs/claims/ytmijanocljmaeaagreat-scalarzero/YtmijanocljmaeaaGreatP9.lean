/- rat.Add of one number: the number itself, in limbs of its own; scalar.same. -/
import Derived.Test.YtmijanocljmaeaaGreatJ4
import Derived.Test.YtmijanocljmaeaaGreatP6
namespace Go.Proofs.YtmijanocljmaeaaGreat
set_option linter.unusedVariables false
set_option linter.unusedSimpArgs false
open Go.RowKit

section
variable {B Lb : Nat} {w : World} {bx : Bool} {a1 a2 : Option Addr} {c1 c2 : Nat} {xn xd : List Int}
end
end Go.Proofs.YtmijanocljmaeaaGreat

/- The greater of two numbers. -/
namespace Go.Proofs.YtmijanocljmaeaaGreat
set_option linter.unusedVariables false
set_option linter.unusedSimpArgs false
open Go.RowKit

section
variable {w : World} {bx cy : Bool} {a1 a2 a3 a4 : Option Addr} {xn xd yn yd : List Int} {c1 c2 c3 c4 : Nat}
end
end Go.Proofs.YtmijanocljmaeaaGreat

/- The lesser of two numbers. -/
namespace Go.Proofs.YtmijanocljmaeaaGreat
set_option linter.unusedVariables false
set_option linter.unusedSimpArgs false
open Go.RowKit

section
variable {w : World} {bx cy : Bool} {a1 a2 a3 a4 : Option Addr} {xn xd yn yd : List Int} {c1 c2 c3 c4 : Nat}
end
end Go.Proofs.YtmijanocljmaeaaGreat
