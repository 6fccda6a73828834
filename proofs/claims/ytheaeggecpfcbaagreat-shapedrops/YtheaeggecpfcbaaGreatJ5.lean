/- Plain facts on texts: where a mark stands, what a macron is, byte by byte and character by character. -/
import Derived.Lib.RuneCount
import Derived.Laws.RangeAny
import Derived.Test.YtheaeggecpfcbaaGreatJ3
import Derived.Lib.OthersKept
import Derived.Test.YtheaeggecpfcbaaGreatJ1
import Derived.Test.YtheaeggecpfcbaaGreatJ4
import Derived.Test.YtheaeggecpfcbaaGreatJ2
set_option linter.unusedVariables false
set_option linter.unusedSimpArgs false
namespace Go.Proofs.YtheaeggecpfcbaaGreat
section
/-- Does a text begin with a macron? -/
def isMac (l:List UInt8):Bool:=match l with | a :: b :: _=>a.toNat==194 && b.toNat==175 | _=>false
/-- Where a number's digits begin. -/
def st (l:List UInt8):Nat:=if isMac l=true then 2 else 0
end
section
open Go.RowKit
section
variable {w:World} {B ty:Nat} {x y z u:Value}
end
theorem can_len_pw {zs:List Int} (h:can zs) (M:Nat):(zs.length≤M↔val zs<pw M):=by
 constructor
 · intro hl
   have h1:=(val_bound h.1).2;have h2:=pw_mono hl;omega
 · intro hv
   by_cases hl:zs.length≤M
   · exact hl
   · have h1:=can_low h (by omega)
     have h2:=pw_mono (j:=M) (k:=zs.length - 1) (by omega);omega
end
end Go.Proofs.YtheaeggecpfcbaaGreat
