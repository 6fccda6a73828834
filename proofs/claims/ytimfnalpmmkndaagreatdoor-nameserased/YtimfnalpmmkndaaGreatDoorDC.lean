/- define.Header; isOfTokens. -/
import Derived.Test.YtimfnalpmmkndaaGreatDoorDB
import Derived.Test.YtimfnalpmmkndaaGreatDoorLA
import Derived.Test.YtimfnalpmmkndaaGreatDoorShelf
import Derived.Shelf.Strings.SlTrimAscii
namespace Go.Proofs.YtimfnalpmmkndaaGreatDoor
set_option linter.unusedVariables false
set_option linter.unusedSimpArgs false
open Go.RowKit Go.Shelf

end Go.Proofs.YtimfnalpmmkndaaGreatDoor

/- define.labelled, isOfTokens. -/
namespace Go.Proofs.YtimfnalpmmkndaaGreatDoor
set_option linter.unusedVariables false
set_option linter.unusedSimpArgs false
open Go.RowKit Go.Shelf

end Go.Proofs.YtimfnalpmmkndaaGreatDoor

/- What define.Make tells: the mathematics. -/
namespace Go.Proofs.YtimfnalpmmkndaaGreatDoor
set_option linter.unusedVariables false
set_option linter.unusedSimpArgs false
open Go.RowKit

end Go.Proofs.YtimfnalpmmkndaaGreatDoor
