/- Comparisons: a 1 or a 0. -/
import Derived.Test.YtmijanocljmaeaaGreatKS4
import Derived.Test.YtmijanocljmaeaaGreatKT
import Derived.Test.YtmijanocljmaeaaGreatM1
import Derived.Test.YtmijanocljmaeaaGreatP6
import Derived.Test.YtmijanocljmaeaaGreatP5
set_option linter.unusedVariables false
set_option linter.unusedSimpArgs false
namespace Go.Proofs.YtmijanocljmaeaaGreat
open Go.RowKit
section
variable {kf:Nat} {Rb:Int→Bool} {w:World} {bt bx cy:Bool} {a1 a2 a3 a4 a5 a6:Option Addr} {tn td xn xd yn yd:List Int} {c1 c2 c3 c4 c5 c6:Nat} {v:World} {bh b0:Nat}
end
section
variable {kf:Nat} {Rb:Int→Bool} {w:World} {bt bx cy:Bool} {a1 a2 a3 a4 a5 a6:Option Addr} {tn td xn xd yn yd:List Int} {c1 c2 c3 c4 c5 c6:Nat} {bh b0:Nat}
end
theorem one_right9:RightP false [] [(1:Int)]:=⟨by simp,by simp,can_nil,can_one,by simp,by simp,by rw [one_val];exact gI_one_right _⟩
end Go.Proofs.YtmijanocljmaeaaGreat
