/- scalar.logical's functions, of bits. -/
import Derived.Test.YtmijanocljmaeaaGreatM1
import Derived.Test.YtmijanocljmaeaaGreatKS3
import Derived.Test.YtmijanocljmaeaaGreatKS1
set_option maxRecDepth 100000
set_option maxHeartbeats 16000000
set_option linter.unusedVariables false
set_option linter.unusedSimpArgs false
namespace Go.Proofs.YtmijanocljmaeaaGreat
open Go.RowKit
/-- What a function of two truths tells. -/
def HoldB (kf:Nat) (op:Bool→Bool→Bool):Prop:=(∀ a b w,Calls Tryz.prog kf #[.bool a,.bool b] w fun e w'=>e=.returned (.bool (op a b))∧w'=w)∧∀ args w,Sem.run Tryz.prog (callFunc kf args) w=.ok (.enter kf args) w
theorem enterB {f:FuncId} {fn:Func} (hf:Tryz.prog.funcs[f]? = some fn) (hn:(fn.name == "runtime.NumGoroutine")=false) (hb:fn.body.isNone=false) (args:Array Value) (w:World):Sem.run Tryz.prog (callFunc f args) w=.ok (.enter f args) w:=by
 have h1:fn.name ≠ "runtime.NumGoroutine" := by simpa using hn
 have h2:fn.body≠none:=fun h=>by rw [h] at hb;cases hb
 simp [callFunc,hf,h1,h2]
theorem holdB_10:HoldB 95 (fun a b=>a && b):=by
 refine ⟨?_,enterB Tryz.func95 (by kernel_rfl) (by kernel_rfl)⟩;intro a b w
 cases a <;> cases b
 all_goals
  go_enter Tryz.func95,Tryz.ntmps95;go_wp2
  go_ret
  exact ⟨rfl,rfl⟩
theorem holdB_11:HoldB 96 (fun a b=>a || b):=by
 refine ⟨?_,enterB Tryz.func96 (by kernel_rfl) (by kernel_rfl)⟩;intro a b w
 cases a <;> cases b
 all_goals
  go_enter Tryz.func96,Tryz.ntmps96;go_wp2
  go_ret
  exact ⟨rfl,rfl⟩
theorem holdB_12:HoldB 97 (fun a b => !(a && b)):=by
 refine ⟨?_,enterB Tryz.func97 (by kernel_rfl) (by kernel_rfl)⟩;intro a b w
 cases a <;> cases b
 all_goals
  go_enter Tryz.func97,Tryz.ntmps97;go_wp2
  go_ret
  exact ⟨rfl,rfl⟩
section
variable {kf:Nat} {op:Bool→Bool→Bool} {w:World} {h k:Bool} {a1 a2 a3 a4:Option Addr} {c1 c2 c3 c4:Nat} {v:World} {bh:Nat}
end
section
variable {kf:Nat} {op:Bool→Bool→Bool} {w:World} {h k:Bool} {a1 a2 a3 a4:Option Addr} {c1 c2 c3 c4:Nat} {bh:Nat}
end
/-- And, or, nand. -/
def LogG (gl:Int):Prop:=gl=8743∨gl=8744∨gl=9074
section
variable {w:World} {h k:Bool} {a1 a2 a3 a4:Option Addr} {c1 c2 c3 c4:Nat} {p q bh kf:Nat} {op:Bool→Bool→Bool} {F:Value} {cc kk gl:Int}
end
section
variable {w:World} {h k:Bool} {a1 a2 a3 a4:Option Addr} {c1 c2 c3 c4:Nat} {p q bh kf:Nat} {op:Bool→Bool→Bool} {F:Value} {cc kk gl:Int}
end
section
variable {w:World} {h k:Bool} {a1 a2 a3 a4:Option Addr} {c1 c2 c3 c4:Nat} {p q bh kf:Nat} {op:Bool→Bool→Bool} {F:Value} {cc kk gl:Int}
end
end Go.Proofs.YtmijanocljmaeaaGreat
