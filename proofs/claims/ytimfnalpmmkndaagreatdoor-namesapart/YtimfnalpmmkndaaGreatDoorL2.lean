/- The characters of a number's text. -/
import Derived.Test.YtimfnalpmmkndaaGreatDoorL1
import Derived.Test.YtimfnalpmmkndaaGreatDoorKX
import Derived.Shelf.Abstract
import Derived.Shelf.RegionOpen
import Derived.OwnWalkIn
import Derived.TacticsInMore
import Derived.LoopNIn
import Derived.LoopIn
import Derived.Maps.AppendAt
set_option linter.unusedVariables false
set_option linter.unusedSimpArgs false
namespace Go.Proofs.YtimfnalpmmkndaaGreatDoor
section
open Go.RowKit Go.Shelf
attribute [local go_sem] Oper.semAt_some
end
section
open Go.RowKit Go.Shelf
attribute [local go_sem] Oper.semAt_some
theorem row_form {W:World} {base e size n:Nat} {v:Value} {xs:List Value} (h:W.ownsRow base e size v (n+1) xs):∃ g cap,v=.slice (some ⟨g,0,none⟩) (n+1) cap:=by
 obtain ⟨_,h | ⟨g,cap,cur,rfl,_⟩⟩:=h
 · omega
 · exact ⟨g,cap,rfl⟩
end
section
open Go.RowKit Go.Shelf
attribute [local go_sem] Oper.semAt_some
def chCells (c:Int):List Value:=[.int .u8 2,.bool false,.slice none 0 0,.slice none 0 0,.int .i32 c,.slice none 0 0]
end
section
open Go.RowKit Go.Shelf
attribute [local go_sem] Oper.semAt_some
theorem info_item:(Tryz.prog.info? 113).map (fun i=>(i.zero,i.size,i.bytes))=some (some (.agg #[.int .u8 0,.bool false,.slice none 0 0,.slice none 0 0,.int .i32 0,.slice none 0 0]),6,96):=by kernel_rfl
theorem row_mono {W:World} {base base' e size n:Nat} {v:Value} {xs:List Value} (h:W.ownsRow base e size v n xs) (hb:base'≤base):W.ownsRow base' e size v n xs:=by
 obtain ⟨h1,h | ⟨g,cap,cur,h2,h3,h4⟩⟩:=h
 · exact ⟨h1,.inl h⟩
 · exact ⟨h1,.inr ⟨g,cap,cur,h2,Nat.le_trans hb h3,h4⟩⟩
end
section
open Go.RowKit
def lt (c:Int):Bool:=(decide (65≤c) && decide (c≤90)) || (decide (97≤c) && decide (c≤122))
def bn (c:Int):Bool:=lt c || decide (c=95) || decide (c=8710)
def inm (c:Int):Bool:=bn c || dg c
def cutText (cs:List Int) (i j:Nat):ByteArray:=runesBytes ((cs.drop i).take (j - i))
section
variable {w:World} {cs:List Int} {b off cap:Nat}
end
end
section
open Go.RowKit Go.Shelf
section
variable {w:World} {cs:List Int} {b off cap:Nat}
end
def qscan (cs:List Int):Nat→Nat→List Int→Option (List Int×Nat)
 | 0,_,_=>none
 | f+1,i,acc=>if i<cs.length then
     if cs.getD i 0=39 then
      if i+1=cs.length∨¬ cs.getD (i+1) 0=39 then some (acc,i+1) else qscan cs f (i+2) (acc++[39])
     else qscan cs f (i+1) (acc++[cs.getD i 0])
  else none
section
variable {w:World} {cs:List Int} {b off cap:Nat}
end
end
end Go.Proofs.YtimfnalpmmkndaaGreatDoor
