/- scalar.logical's functions, of bits. -/
import Derived.Test.YtmijanocljmaeaaGreatM1
import Derived.Test.YtmijanocljmaeaaGreatKS3
import Derived.Test.YtmijanocljmaeaaGreatKS1
namespace Go.Proofs.YtmijanocljmaeaaGreat
set_option linter.unusedVariables false
set_option linter.unusedSimpArgs false
open Go.RowKit

theorem enterB {f : FuncId} {fn : Func} (hf : Tryz.prog.funcs[f]? = some fn) (hn : (fn.name == "runtime.NumGoroutine") = false) (hb : fn.body.isNone = false) (args : Array Value) (w : World) : Sem.run Tryz.prog (callFunc f args) w = .ok (.enter f args) w := by
 have h1 : fn.name ≠ "runtime.NumGoroutine" := by simpa using hn
 have h2 : fn.body ≠ none := fun h => by rw [h] at hb; cases hb
 simp [callFunc, hf, h1, h2]
section
variable {kf : Nat} {op : Bool → Bool → Bool} {w : World} {h k : Bool} {a1 a2 a3 a4 : Option Addr} {c1 c2 c3 c4 : Nat} {v : World} {bh : Nat}
end
section
variable {kf : Nat} {op : Bool → Bool → Bool} {w : World} {h k : Bool} {a1 a2 a3 a4 : Option Addr} {c1 c2 c3 c4 : Nat} {bh : Nat}
end
end Go.Proofs.YtmijanocljmaeaaGreat

/- pairing.numbers at and, or, nand, of bits. -/
namespace Go.Proofs.YtmijanocljmaeaaGreat
set_option linter.unusedVariables false
set_option linter.unusedSimpArgs false
open Go.RowKit

section
variable {w : World} {h k : Bool} {a1 a2 a3 a4 : Option Addr} {c1 c2 c3 c4 : Nat} {p q bh kf : Nat} {op : Bool → Bool → Bool} {F : Value} {cc kk gl : Int}
end
end Go.Proofs.YtmijanocljmaeaaGreat

/- pairing.numbers at and, or, nand, of bits. -/
namespace Go.Proofs.YtmijanocljmaeaaGreat
set_option linter.unusedVariables false
set_option linter.unusedSimpArgs false
open Go.RowKit

section
variable {w : World} {h k : Bool} {a1 a2 a3 a4 : Option Addr} {c1 c2 c3 c4 : Nat} {p q bh kf : Nat} {op : Bool → Bool → Bool} {F : Value} {cc kk gl : Int}
end
end Go.Proofs.YtmijanocljmaeaaGreat

/- pairing.numbers at and, or, nand, of bits. -/
namespace Go.Proofs.YtmijanocljmaeaaGreat
set_option linter.unusedVariables false
set_option linter.unusedSimpArgs false
open Go.RowKit

section
variable {w : World} {h k : Bool} {a1 a2 a3 a4 : Option Addr} {c1 c2 c3 c4 : Nat} {p q bh kf : Nat} {op : Bool → Bool → Bool} {F : Value} {cc kk gl : Int}
end
end Go.Proofs.YtmijanocljmaeaaGreat
