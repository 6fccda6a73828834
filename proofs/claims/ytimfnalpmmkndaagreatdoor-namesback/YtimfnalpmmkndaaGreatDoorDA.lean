/- What a header says, by its tokens: the mathematics. -/
import Derived.Test.YtimfnalpmmkndaaGreatDoorLC
import Derived.Test.YtimfnalpmmkndaaGreatDoorSA
import Derived.Deep.RegionHeld3
set_option linter.unusedVariables false
set_option linter.unusedSimpArgs false
namespace Go.Proofs.YtimfnalpmmkndaaGreatDoor
open Go.RowKit
abbrev Tk:=Int×ByteArray×Nat×Int
theorem tx_isD (x y:ByteArray) (L:List UInt8) (h:y.data.toList=L):(x.toList==L)=decide (x=y)∧(x.toList=L↔x=y):=by
 have e:x.toList=L↔x=y:=by
  rw [ByteArray.toList_eq,← h];exact ⟨fun e=>ByteArray.ext (Array.toList_inj.mp e),fun e=>by rw [e]⟩
 refine ⟨?_,e⟩;by_cases hx:x=y
 · rw [decide_eq_true hx,beq_iff_eq];exact e.2 hx
 · rw [decide_eq_false hx,beq_eq_false_iff_ne];exact fun h'=>hx (e.1 h')
theorem row_monoS {W:World} {base base' e size n:Nat} {v:Value} {xs:List Value} (h:W.ownsRow base e size v n xs) (hb:base'≤base):W.ownsRow base' e size v n xs:=by
 obtain ⟨h1,h | ⟨g,cap,cur,hv,hg,r⟩⟩:=h
 · exact ⟨h1,Or.inl h⟩
 · exact ⟨h1,Or.inr ⟨g,cap,cur,hv,Nat.le_trans hb hg,r⟩⟩
abbrev fnV (nm rs lf rt:ByteArray) (ls lb at' li:Value) (br:Bool):Array Value:=#[.string nm,.string rs,.string lf,.string rt,ls,lb,at',li,.bool br]
end Go.Proofs.YtimfnalpmmkndaaGreatDoor
