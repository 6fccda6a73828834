/- The document's measure of any array. -/
import Derived.Test.YtheaeggecpfcbaaGreatR1
set_option linter.unusedVariables false
set_option linter.unusedSimpArgs false
namespace Go.Proofs.YtheaeggecpfcbaaGreat
end Go.Proofs.YtheaeggecpfcbaaGreat
