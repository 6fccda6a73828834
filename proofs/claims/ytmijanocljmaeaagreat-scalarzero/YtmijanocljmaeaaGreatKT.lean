/- ref01.Same of any two lists. -/
import Derived.Test.YtmijanocljmaeaaGreatKC
namespace Go.Proofs.YtmijanocljmaeaaGreat
set_option linter.unusedVariables false
set_option linter.unusedSimpArgs false
open Go.RowKit

end Go.Proofs.YtmijanocljmaeaaGreat

/- The document's ToInt. -/
namespace Go.Proofs.YtmijanocljmaeaaGreat
set_option linter.unusedVariables false
set_option linter.unusedSimpArgs false
open Go.RowKit

section
variable {w : World} {b : Bool} {a1 a2 : Option Addr} {c1 c2 : Nat} {ns ds : List Int}
end
end Go.Proofs.YtmijanocljmaeaaGreat

/- The walk over RatInts: whole numbers are told as ints. -/
namespace Go.Proofs.YtmijanocljmaeaaGreat
set_option linter.unusedVariables false
set_option linter.unusedSimpArgs false
open Go.RowKit

end Go.Proofs.YtmijanocljmaeaaGreat

/- The document's signed: a below or not, and b, together. -/
namespace Go.Proofs.YtmijanocljmaeaaGreat
set_option linter.unusedVariables false
set_option linter.unusedSimpArgs false
open Go.RowKit

section
variable {w : World} {b u : Bool} {a1 a2 : Option Addr} {c1 c2 : Nat} {xs ys : List Int}
end
end Go.Proofs.YtmijanocljmaeaaGreat

/- The document's Compare. -/
namespace Go.Proofs.YtmijanocljmaeaaGreat
set_option linter.unusedVariables false
set_option linter.unusedSimpArgs false
open Go.RowKit

section
variable {w : World} {bx cy : Bool} {a1 a2 a3 a4 : Option Addr} {c1 c2 c3 c4 : Nat} {xn xd yn yd : List Int}
end
end Go.Proofs.YtmijanocljmaeaaGreat

/- rat.allRight of three. -/
namespace Go.Proofs.YtmijanocljmaeaaGreat
set_option linter.unusedVariables false
set_option linter.unusedSimpArgs false
open Go.RowKit

section
variable {Lb : Nat}
variable {w : World} {bt bx cy : Bool} {a1 a2 a3 a4 a5 a6 : Option Addr} {c1 c2 c3 c4 c5 c6 : Nat} {tn td xn xd yn yd : List Int}
end
end Go.Proofs.YtmijanocljmaeaaGreat

/- rat.greater. -/
namespace Go.Proofs.YtmijanocljmaeaaGreat
set_option linter.unusedVariables false
set_option linter.unusedSimpArgs false
open Go.RowKit

section
variable {w : World} {bt bx cy : Bool} {a1 a2 a3 a4 a5 a6 : Option Addr} {c1 c2 c3 c4 c5 c6 : Nat} {tn td xn xd yn yd : List Int}
end
end Go.Proofs.YtmijanocljmaeaaGreat

/- rat.within. -/
namespace Go.Proofs.YtmijanocljmaeaaGreat
set_option linter.unusedVariables false
set_option linter.unusedSimpArgs false
open Go.RowKit

section
variable {w : World} {bt bx cy : Bool} {a1 a2 a3 a4 a5 a6 : Option Addr} {c1 c2 c3 c4 c5 c6 : Nat} {tn td xn xd yn yd : List Int}
end
end Go.Proofs.YtmijanocljmaeaaGreat

/- rat.Tolerant. -/
namespace Go.Proofs.YtmijanocljmaeaaGreat
set_option linter.unusedVariables false
set_option linter.unusedSimpArgs false
open Go.RowKit

section
variable {w : World} {bt bx cy : Bool} {a1 a2 a3 a4 a5 a6 : Option Addr} {c1 c2 c3 c4 c5 c6 : Nat} {tn td xn xd yn yd : List Int}
end
end Go.Proofs.YtmijanocljmaeaaGreat

/- Comparing turned round, by a tolerance too. -/
namespace Go.Proofs.YtmijanocljmaeaaGreat
set_option linter.unusedVariables false
set_option linter.unusedSimpArgs false
open Go.RowKit

end Go.Proofs.YtmijanocljmaeaaGreat
