/- The document's numbers: one, Right, Make; the statements' helper same. -/
import Derived.Test.YtimfnalpmmkndaaGreatDoorJ6
import Derived.Test.YtimfnalpmmkndaaGreatDoorJ5
import Derived.Test.YtimfnalpmmkndaaGreatDoorJ7
namespace Go.Proofs.YtimfnalpmmkndaaGreatDoor
set_option linter.unusedVariables false
set_option linter.unusedSimpArgs false
open Go.RowKit
def MakeSpec (N D : Int) (b : Bool) (ns ds : List Int) (err : Int) : Prop :=
 (D = 0 ∧ err = 22 ∧ b = false ∧ ns = [] ∧ ds = []) ∨ (0 < D ∧ err = 8 ∧ b = false ∧ ns = [] ∧ ds = [] ∧ Big N D) ∨ (0 < D ∧ err = 0 ∧ RightP b ns ds ∧ sg b (val ns) * D = N * val ds)
theorem MakeSpec.unique {N D : Int} {b c : Bool} {ns ds ms es : List Int} {e f : Int} (h : MakeSpec N D b ns ds e) (k : MakeSpec N D c ms es f) : c = b ∧ ms = ns ∧ es = ds ∧ f = e := by
 rcases h with ⟨hD, rfl, rfl, rfl, rfl⟩ | ⟨hD, rfl, rfl, rfl, rfl, hb⟩ | ⟨hD, rfl, hr, hv⟩ <;> rcases k with ⟨kD, rfl, rfl, rfl, rfl⟩ | ⟨kD, rfl, rfl, rfl, rfl, kb⟩ | ⟨kD, rfl, kr, kv⟩
 · exact ⟨rfl, rfl, rfl, rfl⟩
 · omega
 · omega
 · omega
 · exact ⟨rfl, rfl, rfl, rfl⟩
 · exact absurd hb (not_big kr kv kD)
 · omega
 · exact absurd kb (not_big hr hv hD)
 · obtain ⟨rfl, rfl, rfl⟩ := right_is hr hv hD kr kv
   exact ⟨rfl, rfl, rfl, rfl⟩
def RAns (w : World) (b : Bool) (ns ds : List Int) (err : Int) (e : Ending) (w' : World) : Prop :=
 Below w.heap.size w w' ∧ ∃ a1 c1 a2 c2, e = .returned (.tuple #[.agg #[.bool b, .slice a1 ns.length c1, .slice a2 ds.length c2], .int .i64 err]) ∧ Rd w'.heap.size w' (.slice a1 ns.length c1) ns ∧ Rd w'.heap.size w' (.slice a2 ds.length c2) ds
theorem RMakes.spec {w w' : World} {N D : Int} {e : Ending} (h : RMakes w N D e w') (hD : 0 < D) : ∃ b ns ds err, Hid (MakeSpec N D b ns ds err) ∧ RAns w b ns ds err e w' := by
 obtain ⟨hb, ⟨rfl, hbig⟩ | ⟨b, ns, ds, a1, c1, a2, c2, rfl, on, od, hr, hv⟩⟩ := h
 · exact ⟨false, [], [], 8, Or.inr (Or.inl ⟨hD, rfl, rfl, rfl, rfl, hbig⟩), hb, none, 0, none, 0, rfl, nil_rd _, nil_rd _⟩
 · exact ⟨b, ns, ds, 0, Or.inr (Or.inr ⟨hD, rfl, hr, hv⟩), hb, a1, c1, a2, c2, rfl, on.rd, od.rd⟩
section
variable {w : World} {b : Bool} {a1 a2 a3 a4 : Option Addr} {c1 c2 c3 c4 : Nat} {xs ys ns ds : List Int}
end
end Go.Proofs.YtimfnalpmmkndaaGreatDoor
