/- From a statement's row to its walk: a slice of texts among the arguments; the tables of characters laid for the witness. -/
import Derived.Test.YtimfnalpmmkndaaGreatDoorCards
import Derived.Test.YtimfnalpmmkndaaGreatDoorTie
import Derived.Test.YtimfnalpmmkndaaGreatDoorSA
import Derived.WalkKit
import Derived.ProofKit
import Derived.OpenShut
import Derived.Deep.DeepHandedRow
import Derived.SliceStrings
set_option linter.unusedVariables false
set_option linter.unusedSimpArgs false
namespace Go.Proofs.YtimfnalpmmkndaaGreatDoor
open Go.ChangeShapes Go.WideShapes Go.ChangeAt Go.RowKit
theorem own:ownKnob Tryz.prog.godebug=none:=by kernel_rfl
theorem laidOut:laidOutB Tryz.prog=true:=by kernel_rfl
theorem cellsStr:Tryz.prog.cellsOf 9=1:=by kernel_rfl
def cellsOfLit:DataW Unit→List Value
 | .agg l=>l.flatMap fun | .lit (.int k n)=>[Value.int k n] | .agg m=>m.map (fun | .lit (.int k n)=>Value.int k n | _=>Value.bool false) | _=>[Value.bool false]
 | _=>[]
def relaid (b:Nat) (cs:Array Value) (w:World):World:=
 { w with heap:=w.heap.modify b fun
     | .cells _ t frozen=>.cells cs t frozen
     | o=>o }
def relaid2 (w:World):World:=relaid 0 (cellsOfLit Rows.laid_unicode_utf8_first).toArray (relaid 1 (cellsOfLit Rows.laid_unicode_utf8_acceptRanges).toArray w)
theorem laid_met (os:Os) (args:Array Value):laidMet Tryz.prog [("unicode/utf8.acceptRanges",Rows.laid_unicode_utf8_acceptRanges),("unicode/utf8.first",Rows.laid_unicode_utf8_first)] (((relaid2 (World.holding Tryz.prog os ⟨#[],#[],[]⟩))).forCall (fun _ _=>0) ⟨#[],args,[]⟩).memory:=
 laidMet_of_run' 8 (by kernel_rfl) (by kernel_rfl)
theorem lt_of_cellF {w:World} {b off:Nat} {v:Value} (h:w.cell? ⟨b,off,none⟩=some v):b<w.heap.size:=by
 rcases Nat.lt_or_ge b w.heap.size with h' | h'
 · exact h'
 · simp [World.cell?,Array.getElem?_eq_none h'] at h
end Go.Proofs.YtimfnalpmmkndaaGreatDoor
