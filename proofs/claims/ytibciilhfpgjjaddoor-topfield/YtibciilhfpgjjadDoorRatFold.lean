/- rat.fold of two numbers. -/
import Derived.Test.YtibciilhfpgjjadDoorRatAll
import Derived.Test.YtibciilhfpgjjadDoorRatSign
namespace Go.Proofs.YtibciilhfpgjjadDoor
set_option linter.unusedVariables false
set_option linter.unusedSimpArgs false
open Go.RowKit

/-- What a reckoning with two numbers answers: where P does not hold, ErrForm; else it is too great, or a right number that is N by D. -/
def Out (w' : World) (k : Nat) (P : Prop) (N D : Int) (b : Bool) (x1 : Option Addr) (n y1 : Nat) (x2 : Option Addr) (m y2 : Nat) (err : Int) : Prop :=
  (¬ P ∧ err = 22 ∧ b = false ∧ x1 = none ∧ n = 0 ∧ y1 = 0 ∧ x2 = none ∧ m = 0 ∧ y2 = 0) ∨ (P ∧ err = 8 ∧ b = false ∧ x1 = none ∧ n = 0 ∧ y1 = 0 ∧ x2 = none ∧ m = 0 ∧ y2 = 0 ∧ Big N D) ∨
    (P ∧ err = 0 ∧ ∃ ns ds, n = ns.length ∧ m = ds.length ∧ Own k w' (.slice x1 n y1) ns ∧ Own k w' (.slice x2 m y2) ds ∧ RightP b ns ds ∧ sg b (val ns) * D = N * val ds)
def Gives (w : World) (P : Prop) (N D : Int) (e : Ending) (w' : World) : Prop :=
  Below w.heap.size w w' ∧ ∃ b x1 n y1 x2 m y2 err, e = .returned (.tuple #[.agg #[.bool b, .slice x1 n y1, .slice x2 m y2], .int .i64 err]) ∧ Hid (Out w' w.heap.size P N D b x1 n y1 x2 m y2 err)

theorem Out.turn {w1 w2 : World} {k j : Nat} {P : Prop} {N D err : Int} {b : Bool} {x1 x2 : Option Addr} {n m y1 y2 : Nat} (h : Out w1 k P N D b x1 n y1 x2 m y2 err) (hO : ∀ v xs, Own k w1 v xs → Own j w2 v xs) : Out w2 j P N D b x1 n y1 x2 m y2 err := by
  rcases h with h | h | ⟨hp, he, ns, ds, h2, h3, on, od, h4⟩
  · exact Or.inl h
  · exact Or.inr (Or.inl h)
  · exact Or.inr (Or.inr ⟨hp, he, ns, ds, h2, h3, hO _ _ on, hO _ _ od, h4⟩)

end Go.Proofs.YtibciilhfpgjjadDoor
