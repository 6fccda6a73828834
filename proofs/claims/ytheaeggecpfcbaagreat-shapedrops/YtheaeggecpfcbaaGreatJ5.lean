/- Plain facts on texts: where a mark stands, what a macron is, byte by byte and character by character. -/
import Derived.Lib.RuneCount
import Derived.Laws.RangeAny
import Derived.Test.YtheaeggecpfcbaaGreatJ3
import Derived.Lib.OthersKept
import Derived.Test.YtheaeggecpfcbaaGreatJ1
import Derived.Test.YtheaeggecpfcbaaGreatJ4
import Derived.Test.YtheaeggecpfcbaaGreatJ2
set_option linter.unusedVariables false
set_option linter.unusedSimpArgs false
namespace Go.Proofs.YtheaeggecpfcbaaGreat
section
/-- Does a text begin with a macron? -/
def isMac (l:List UInt8):Bool:=match l with | a :: b :: _=>a.toNat==194 && b.toNat==175 | _=>false
/-- Where a number's digits begin. -/
def st (l:List UInt8):Nat:=if isMac l=true then 2 else 0
end
section
open Go.RowKit
section
variable {w:World} {B ty:Nat} {x y z u:Value}
end
end
end Go.Proofs.YtheaeggecpfcbaaGreat
