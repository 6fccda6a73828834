/- ShapeTurns' drawn regions, 3 to 5. -/
import Derived.Test.YtheaeggecpfcbaaGreatHA
set_option linter.unusedVariables false
set_option linter.unusedSimpArgs false
namespace Go.Proofs.YtheaeggecpfcbaaGreat
open Go.RowKit
section
variable {v:World} {x1 x2:Option Addr} {ln y1 lk y2 kk F:Nat} {U:Tr} {n:Int}
end
section
variable {v:World} {x1 x2:Option Addr} {ln y1 lk y2 kk F:Nat} {U:Tr} {n:Int}
end
section
variable {v:World} {x1 x2:Option Addr} {ln y1 lk y2 kk F:Nat} {U:Tr} {n m:Int}
end
end Go.Proofs.YtheaeggecpfcbaaGreat
