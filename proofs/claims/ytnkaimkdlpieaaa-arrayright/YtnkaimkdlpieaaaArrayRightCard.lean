/- Proved: of every array, right or not, array.Right, Depth, Cells and IsSimple tell what the document says, and a copy of it stays as it is: ArrayRight answers true. No condition. -/
import Derived.Test.YtnkaimkdlpieaaaLArrayRight
import Derived.Test.YtnkaimkdlpieaaaK13
namespace Go.Proofs.Ytnkaimkdlpieaaa
set_option linter.unusedVariables false
set_option linter.unusedSimpArgs false
open Go.RowKit
theorem arrayRight_card : Rows.ArrayRightSaid := arrayRight.said live3_ok (fun _ _ _ _ _ _ _ _ _ _ hR hD h hS => arrayRight_false live3_ok hR hD h hS)
end Go.Proofs.Ytnkaimkdlpieaaa
