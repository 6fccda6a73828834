/- The eight functions that are the same both ways round, through any two arrays. -/
import Derived.Test.YtmijanocljmaeaaGreatP5
import Derived.Test.YtmijanocljmaeaaGreatP6
import Derived.Test.YtmijanocljmaeaaGreatP7
import Derived.Test.YtmijanocljmaeaaGreatP8
import Derived.Test.YtmijanocljmaeaaGreatP9
set_option linter.unusedVariables false
set_option linter.unusedSimpArgs false
namespace Go.Proofs.YtmijanocljmaeaaGreat
open Go.RowKit
/-- A function of two numbers, through any two arrays, without tolerance: the same both ways round. -/
structure TurnOK (d:Dy):Prop where
 comm:CommD d
 call:∀ {D:Nat→Prop} {f:Nat} {w:World} {io pp:Int} {ea:Option Addr} {ec:Nat} {x1 x2 x3 x4:Option Addr} {n1 y1 n2 y2 n3 y3 n4 y4:Nat} {t s:Tr},D5In D f w false none ea [] [1] 0 ec x1 x2 x3 x4 n1 y1 n2 y2 n3 y3 n4 y4 t s →
  Calls Tryz.prog 7 #[.agg #[.int .i64 io,.bool false,.slice none ([]:List Int).length 0,.slice ea ([1]:List Int).length ec,.int .i64 pp],.int .i32 d.gl,.agg #[.slice x1 n1 y1,.slice x2 n2 y2],.agg #[.slice x3 n3 y3,.slice x4 n4 y4]] w fun e w'=>WhR w.heap.size 15 (dyadS d t s) e w'∧Below w.heap.size w w'
theorem turn_plus:TurnOK plusD where
 comm:=⟨fun _ _=>rfl,fun x y _ _=>by
  show ratOp _ _=ratOp _ _;rw [Int.add_comm,Int.mul_comm (val x.ds) (val y.ds)]⟩
 call:=fun hI=>dyadic5_any (kf:=77) (capf:=fun _=>#[]) (fun _=>rfl) (un_plain (Or.inl rfl) rfl) ⟨by decide,by decide⟩ hI (fun _ _ _ _ _ p v _ _=>doOK_plus p v)
theorem turn_times:TurnOK timesD where
 comm:=⟨fun _ _=>rfl,fun x y _ _=>by
  show ratOp _ _=ratOp _ _;rw [Int.mul_comm (sg x.b (val x.ns)),Int.mul_comm (val x.ds) (val y.ds)]⟩
 call:=fun hI=>dyadic5_any (kf:=80) (capf:=fun _=>#[]) (fun _=>rfl) (un_plain (Or.inr (Or.inl rfl)) rfl) ⟨by decide,by decide⟩ hI (fun _ _ _ _ _ p v _ _=>doOK_times p v)
end Go.Proofs.YtmijanocljmaeaaGreat
