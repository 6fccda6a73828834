/- ScalarTurns' drawn regions, 2 and 3. -/
import Derived.Test.YtmijanocljmaeaaGreatKS4
import Derived.Test.YtmijanocljmaeaaGreatKS3
set_option linter.unusedVariables false
set_option linter.unusedSimpArgs false
namespace Go.Proofs.YtmijanocljmaeaaGreat
open Go.RowKit
/-- An array that was told, or no array where there is an error. -/
def OutR (Z:Nat) (W:World) (er:Int) (U:Tr) (x5:Option Addr) (n5 y5:Nat) (b3:Option Addr) (m d3:Nat):Prop:=(er=0→ArV 16 (Fr Z W.heap.size) W (.slice x5 n5 y5) (.slice b3 m d3) U)∧(er≠0→x5=none∧n5=0∧y5=0∧b3=none∧m=0∧d3=0)
theorem OutR.imp {Z Z':Nat} {W W':World} {er:Int} {U:Tr} {x5:Option Addr} {n5 y5:Nat} {b3:Option Addr} {m d3:Nat} (h:OutR Z W er U x5 n5 y5 b3 m d3) (hz:Z'≤Z) (hs:W.heap.size≤W'.heap.size) (hb:Agree (Fr Z W.heap.size) W W'):OutR Z' W' er U x5 n5 y5 b3 m d3:=
 ⟨fun e=>ArV.imp (fun q hq=>⟨Nat.le_trans hz hq.1,Nat.lt_of_lt_of_le hq.2 hs⟩) hb 16 16 _ _ _ (Nat.le_refl _) (h.1 e),h.2⟩
section
variable {v:World} {x1 x2 x3 x4:Option Addr} {n1 y1 n2 y2 n3 y3 n4 y4 kk:Nat} {U:Tr} {er gl:Int}
end
section
variable {v:World} {x1 x2 x3 x4:Option Addr} {n1 y1 n2 y2 n3 y3 n4 y4 kk:Nat} {U:Tr} {er gl:Int}
end
end Go.Proofs.YtmijanocljmaeaaGreat
