/- The document's Right, Depth and Cells. -/
import Derived.Test.YtheaeggecpfcbaaGreatR2
import Derived.Test.YtheaeggecpfcbaaGreatR3
set_option linter.unusedVariables false
set_option linter.unusedSimpArgs false
namespace Go.Proofs.YtheaeggecpfcbaaGreat
open Go.RowKit
section
variable {D:Nat→Prop} {f:Nat} {W:World} {x1:Option Addr} {n1 y1:Nat} {x2:Option Addr} {n2 y2:Nat} {t:Tr}
end
end Go.Proofs.YtheaeggecpfcbaaGreat
