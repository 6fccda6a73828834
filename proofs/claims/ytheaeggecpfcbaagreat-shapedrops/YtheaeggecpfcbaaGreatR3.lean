/- Both ways of measuring an array are the same. -/
import Derived.Test.YtheaeggecpfcbaaGreatK9
import Derived.Test.YtheaeggecpfcbaaGreatR1
set_option linter.unusedVariables false
set_option linter.unusedSimpArgs false
namespace Go.Proofs.YtheaeggecpfcbaaGreat
end Go.Proofs.YtheaeggecpfcbaaGreat
