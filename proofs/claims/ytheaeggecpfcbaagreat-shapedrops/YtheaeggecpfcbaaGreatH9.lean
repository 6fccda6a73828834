/- Shapes that have items; what is turned along the first axis. -/
import Derived.Test.YtheaeggecpfcbaaGreatH5
import Derived.Test.YtheaeggecpfcbaaGreatH6
import Derived.Test.YtheaeggecpfcbaaGreatH7
import Derived.Deep.RegionHeld3
import Derived.Test.YtheaeggecpfcbaaGreatH8
import Derived.Test.YtheaeggecpfcbaaGreatK12
set_option linter.unusedVariables false
set_option linter.unusedSimpArgs false
namespace Go.Proofs.YtheaeggecpfcbaaGreat
open Go.RowKit
theorem OwZ.weaken {b b':Nat} {w:World} {v:Value} {xs:List Int} (h:OwZ b w v xs) (hb:b'≤b):OwZ b' w v xs:=by
 obtain ⟨h1,h2 | ⟨g,cap,cur,hv,hg,r⟩⟩:=h
 · exact ⟨h1,Or.inl h2⟩
 · exact ⟨h1,Or.inr ⟨g,cap,cur,hv,by omega,r⟩⟩
section
variable {D:Nat→Prop} {w:World} {ra:Option Addr} {rc nb:Nat} {l:List Int} {n:Int}
end
/-- A scalar that is a whole number, for certain. -/
def IntScal (s:Tr) (n:Int):Prop:=s.ns=[]∧(measF 16 s).isSome=true∧∀ m ok,IntOf s m ok→m=n∧ok=true
end Go.Proofs.YtheaeggecpfcbaaGreat
