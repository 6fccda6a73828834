/- ShapeTurns' walk. -/
import Derived.Test.YtheaeggecpfcbaaGreatHB
import Derived.Test.YtheaeggecpfcbaaGreatM4
import Derived.Test.YtheaeggecpfcbaaGreatR4
set_option linter.unusedVariables false
set_option linter.unusedSimpArgs false
namespace Go.Proofs.YtheaeggecpfcbaaGreat
open Go.RowKit
def Live6OK:Prop:=∀ w:World,Calls Tryz.prog 9 #[] w fun e w'=>e=.returned (.bool true)∧Below w.heap.size w w'
end Go.Proofs.YtheaeggecpfcbaaGreat
