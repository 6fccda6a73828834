/- Plain facts on texts: where a mark stands, what a macron is, byte by byte and character by character. -/
import Derived.Lib.RuneCount
import Derived.Laws.RangeAny
import Derived.Test.YtmijanocljmaeaaGreatJ3
import Derived.Lib.OthersKept
import Derived.Test.YtmijanocljmaeaaGreatJ1
import Derived.Test.YtmijanocljmaeaaGreatJ4
import Derived.Test.YtmijanocljmaeaaGreatJ2
namespace Go.Proofs.YtmijanocljmaeaaGreat
set_option linter.unusedVariables false
set_option linter.unusedSimpArgs false

/-- Does a text begin with a macron? -/
def isMac (l : List UInt8) : Bool := match l with | a :: b :: _ => a.toNat == 194 && b.toNat == 175 | _ => false
end Go.Proofs.YtmijanocljmaeaaGreat

/- Where a number's text is cut: plain facts. -/
namespace Go.Proofs.YtmijanocljmaeaaGreat
set_option linter.unusedVariables false
set_option linter.unusedSimpArgs false

/-- Where a number's digits begin. -/
def st (l : List UInt8) : Nat := if isMac l = true then 2 else 0
end Go.Proofs.YtmijanocljmaeaaGreat

/- rat.tooLong: has a text more than 700 characters? -/
namespace Go.Proofs.YtmijanocljmaeaaGreat
set_option linter.unusedVariables false
set_option linter.unusedSimpArgs false
open Go.RowKit

end Go.Proofs.YtmijanocljmaeaaGreat

/- rat.cut: a number's text in its parts. -/
namespace Go.Proofs.YtmijanocljmaeaaGreat
set_option linter.unusedVariables false
set_option linter.unusedSimpArgs false
open Go.RowKit

section
variable {w : World} {B ty : Nat} {x y z u : Value}
end

end Go.Proofs.YtmijanocljmaeaaGreat

/- (*running).timesLimb: the number becomes f times as great, and more is added. -/
namespace Go.Proofs.YtmijanocljmaeaaGreat
set_option linter.unusedVariables false
set_option linter.unusedSimpArgs false
open Go.RowKit

end Go.Proofs.YtmijanocljmaeaaGreat

/- nat.Parse: the number that digits say. -/
namespace Go.Proofs.YtmijanocljmaeaaGreat
set_option linter.unusedVariables false
set_option linter.unusedSimpArgs false
open Go.RowKit

end Go.Proofs.YtmijanocljmaeaaGreat

/- nat.tooGreat and nat.Power: a power, or that it has more limbs than may be. -/
namespace Go.Proofs.YtmijanocljmaeaaGreat
set_option linter.unusedVariables false
set_option linter.unusedSimpArgs false
open Go.RowKit

end Go.Proofs.YtmijanocljmaeaaGreat

/- rat.Parse: a text's number. -/
namespace Go.Proofs.YtmijanocljmaeaaGreat
set_option linter.unusedVariables false
set_option linter.unusedSimpArgs false
open Go.RowKit

end Go.Proofs.YtmijanocljmaeaaGreat

/- The statements' own helper live: rat.Parse at two texts, rat.Mul, rat.Print. -/
namespace Go.Proofs.YtmijanocljmaeaaGreat
set_option linter.unusedVariables false
set_option linter.unusedSimpArgs false
open Go.RowKit

end Go.Proofs.YtmijanocljmaeaaGreat
