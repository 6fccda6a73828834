/- The document's Size, IsSimple, IsChar, noNum. -/
import Derived.Test.YtheaeggecpfcbaaGreatK8
import Derived.Test.YtheaeggecpfcbaaGreatJ6
set_option linter.unusedVariables false
set_option linter.unusedSimpArgs false
namespace Go.Proofs.YtheaeggecpfcbaaGreat
open Go.RowKit
section
variable {D:Nat→Prop} {w:World} {a:Option Addr} {c:Nat} {sh:List Int}
end
section
variable {M:Tr→Int→Option (Int×Int)} {t:Tr} {rest:Int}
end
end Go.Proofs.YtheaeggecpfcbaaGreat
