/- From a statement's row to its walk: a slice of texts among the arguments; the tables of characters laid for the witness. -/
import Derived.Test.YtimfnalpmmkndaaGreatDoorCards
import Derived.Test.YtimfnalpmmkndaaGreatDoorTie
import Derived.Test.YtimfnalpmmkndaaGreatDoorSA
import Derived.WalkKit
import Derived.ProofKit
import Derived.OpenShut
import Derived.Deep.DeepHandedRow
import Derived.SliceStrings
namespace Go.Proofs.YtimfnalpmmkndaaGreatDoor
set_option linter.unusedVariables false
set_option linter.unusedSimpArgs false
open Go.ChangeShapes Go.WideShapes Go.ChangeAt Go.RowKit

theorem own : ownKnob Tryz.prog.godebug = none := by kernel_rfl
theorem laidOut : laidOutB Tryz.prog = true := by kernel_rfl
theorem cellsStr : Tryz.prog.cellsOf 9 = 1 := by kernel_rfl

def cellsOfLit : DataW Unit → List Value
 | .agg l => l.flatMap fun | .lit (.int k n) => [Value.int k n] | .agg m => m.map (fun | .lit (.int k n) => Value.int k n | _ => Value.bool false) | _ => [Value.bool false]
 | _ => []
def relaid (b : Nat) (cs : Array Value) (w : World) : World :=
 { w with heap := w.heap.modify b fun
     | .cells _ t frozen => .cells cs t frozen
     | o => o }
def relaid2 (w : World) : World := relaid 0 (cellsOfLit Rows.laid_unicode_utf8_first).toArray (relaid 1 (cellsOfLit Rows.laid_unicode_utf8_acceptRanges).toArray w)

theorem laid_met (os : Os) (args : Array Value) : laidMet Tryz.prog [("unicode/utf8.acceptRanges", Rows.laid_unicode_utf8_acceptRanges), ("unicode/utf8.first", Rows.laid_unicode_utf8_first)] (((relaid2 (World.holding Tryz.prog os ⟨#[], #[], []⟩))).forCall (fun _ _ => 0) ⟨#[], args, []⟩).memory :=
 laidMet_of_run' 8 (by kernel_rfl) (by kernel_rfl)

theorem lt_of_cellF {w : World} {b off : Nat} {v : Value} (h : w.cell? ⟨b, off, none⟩ = some v) : b < w.heap.size := by
 rcases Nat.lt_or_ge b w.heap.size with h' | h'
 · exact h'
 · simp [World.cell?, Array.getElem?_eq_none h'] at h
set_option maxRecDepth 100000 in
theorem strs_rd {H : Type} {enc : TypeId × Value → H} {W : World} {base : Nat} {v : Value} {d : DataW H} {p : List MemPlace} (hval : Value.okWide Tryz.prog W .any base 25 v) (h : DataW.Trod enc Tryz.prog W 0 (fun _ => true) true 25 v d p) :
    ∃ a ss c, v = .slice a ss.length c ∧ RdS W.heap.size W (.slice a ss.length c) ss ∧ ∀ x ∈ ss, x.size ≤ 9223372036854775807 := by
 obtain ⟨a0, len, cap, rfl⟩ := okWide_slice Tryz.underlying25 hval
 obtain ⟨fuel, hf⟩ := h
 rcases open_strings Tryz.underlying25 Tryz.underlying9 cellsStr hf with ⟨hcs, hx⟩ | ⟨a, len', cap', zs, hcs, _, hl, hm, hz, hx, hcell, hwz⟩
 · simp [Value.cells] at hcs
   obtain ⟨rfl, rfl, rfl⟩ := hcs
   exact ⟨none, [], 0, rfl, RdS.nil _ _, fun x hx => by cases hx⟩
 · simp [Value.cells] at hcs
   obtain ⟨rfl, rfl, rfl⟩ := hcs
   simp only [if_true] at hz
   have hlen : (zs.take len).length = len := by simp; omega
   refine ⟨some a, zs.take len, cap, by rw [hlen], ⟨some a, cap, rfl, by omega, by unfold maxLen at hm; omega, (fun e => by cases e), ?_⟩, fun x hx => by have := hwz x (List.mem_of_mem_take hx); unfold maxLen at this; omega⟩
   by_cases h0 : len = 0
   · exact Or.inl (List.eq_nil_of_length_eq_zero (by omega))
   · obtain ⟨b, off, spot⟩ := a
     have hspot : spot = none := by simpa [Addr.add] using World.cell?_spot (hcell 0 (by omega))
     subst hspot
     have hc0 := hcell 0 (by omega)
     rw [Lib.add_plain] at hc0
     refine Or.inr ⟨b, off, rfl, lt_of_cellF hc0, fun j hj => ?_⟩
     rw [hlen] at hj
     have := hcell j (by omega)
     rw [Lib.add_plain] at this
     rw [this]
     have : (zs.take len).getD j noT = zs.getD j ByteArray.empty := by
      simp only [List.getD_eq_getElem?_getD, List.getElem?_take, if_pos hj]
      rw [List.getElem?_eq_getElem (by omega)]
      rfl
     rw [this]
end Go.Proofs.YtimfnalpmmkndaaGreatDoor
