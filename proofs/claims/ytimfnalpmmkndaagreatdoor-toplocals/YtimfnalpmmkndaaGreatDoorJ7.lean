/- The document's answers of layer 1: Trim, Of, Right, Same. -/
import Derived.Test.YtimfnalpmmkndaaGreatDoorJ2
import Derived.Test.YtimfnalpmmkndaaGreatDoorJ3
import Derived.Test.YtimfnalpmmkndaaGreatDoorJ5
import Derived.Deep.RegionHeld3
namespace Go.Proofs.YtimfnalpmmkndaaGreatDoor
set_option linter.unusedVariables false
set_option linter.unusedSimpArgs false
open Go.RowKit

end Go.Proofs.YtimfnalpmmkndaaGreatDoor

/- The document's Compare, Right, Bits; nat.Right; the statements' helpers own and kept. -/
namespace Go.Proofs.YtimfnalpmmkndaaGreatDoor
set_option linter.unusedVariables false
set_option linter.unusedSimpArgs false
open Go.RowKit

end Go.Proofs.YtimfnalpmmkndaaGreatDoor

/- nat.Right, nat.Small and the document's Right, Small, Bits; the statements' helpers own and kept. -/
namespace Go.Proofs.YtimfnalpmmkndaaGreatDoor
set_option linter.unusedVariables false
set_option linter.unusedSimpArgs false
open Go.RowKit


end Go.Proofs.YtimfnalpmmkndaaGreatDoor

/- nat.word, nat.Small. -/
namespace Go.Proofs.YtimfnalpmmkndaaGreatDoor
set_option linter.unusedVariables false
set_option linter.unusedSimpArgs false
open Go.RowKit

end Go.Proofs.YtimfnalpmmkndaaGreatDoor

/- nat.word, nat.Small and the document's Small; the statements' helpers own and kept. -/
namespace Go.Proofs.YtimfnalpmmkndaaGreatDoor
set_option linter.unusedVariables false
set_option linter.unusedSimpArgs false
open Go.RowKit

end Go.Proofs.YtimfnalpmmkndaaGreatDoor

/- The statements' helpers own (limbs with room behind them) and kept. -/
namespace Go.Proofs.YtimfnalpmmkndaaGreatDoor
set_option linter.unusedVariables false
set_option linter.unusedSimpArgs false
open Go.RowKit

/-- Limbs of the call's own with 77 and 78 behind them. -/
def Roomy (base : Nat) (w : World) (v : Value) (ys : List Int) : Prop := ∃ g c, v = .slice (some ⟨g, 0, none⟩) ys.length c ∧ Own base w (.slice (some ⟨g, 0, none⟩) (ys ++ [77, 78]).length c) (ys ++ [77, 78])

theorem Roomy.rd {base : Nat} {w : World} {v : Value} {ys : List Int} (h : Roomy base w v ys) : Rd w.heap.size w v ys := by
 obtain ⟨g, c, rfl, hO⟩ := h
 have h1 := (hO.take ys.length (by simp)).rd
 have e : (ys ++ [77, 78]).take ys.length = ys := by simp
 rw [e] at h1
 exact h1
theorem Roomy.below {base B : Nat} {w w' : World} {v : Value} {ys : List Int} (h : Roomy base w v ys) (hb : Below B w w') (hB : w.heap.size ≤ B) : Roomy base w' v ys := by
 obtain ⟨g, c, rfl, hO⟩ := h
 exact ⟨g, c, rfl, hO.below hb hB⟩

end Go.Proofs.YtimfnalpmmkndaaGreatDoor

/- The document's limb, Add, Minus. -/
namespace Go.Proofs.YtimfnalpmmkndaaGreatDoor
set_option linter.unusedVariables false
set_option linter.unusedSimpArgs false
open Go.RowKit

end Go.Proofs.YtimfnalpmmkndaaGreatDoor

/- The document's Minus and Mul. -/
namespace Go.Proofs.YtimfnalpmmkndaaGreatDoor
set_option linter.unusedVariables false
set_option linter.unusedSimpArgs false
open Go.RowKit

end Go.Proofs.YtimfnalpmmkndaaGreatDoor

/- The document's Mul, Sum, Product. -/
namespace Go.Proofs.YtimfnalpmmkndaaGreatDoor
set_option linter.unusedVariables false
set_option linter.unusedSimpArgs false
open Go.RowKit

theorem Own.drewN {base : Nat} {w : World} {v : Value} {xs : List Int} (h : Own base w v xs) (n : Nat) : Own base (w.drewN n) v xs := h

end Go.Proofs.YtimfnalpmmkndaaGreatDoor

/- The document's Sum and Product; sums and products of none. -/
namespace Go.Proofs.YtimfnalpmmkndaaGreatDoor
set_option linter.unusedVariables false
set_option linter.unusedSimpArgs false
open Go.RowKit

theorem Many.below {w w' : World} {Lb k : Nat} {vs : List Value} {xss : List (List Int)} (h : Many w Lb k vs xss) (hb : Below w.heap.size w w') : Many w' Lb k vs xss where
 lv := h.lv
 lx := h.lx
 lt := Nat.lt_of_lt_of_le h.lt hb.size
 cell := fun j hj => (hb.cell h.lt).trans (h.cell j hj)
 rd := fun j hj => ((h.rd j hj).below hb).mono hb.size

end Go.Proofs.YtimfnalpmmkndaaGreatDoor

/- Plain facts on doubling, halving and dividing limbs bit by bit. -/
namespace Go.Proofs.YtimfnalpmmkndaaGreatDoor
set_option linter.unusedVariables false
set_option linter.unusedSimpArgs false
open Go.RowKit

/-- The number without its j lowest bits. -/
def sh (A : Int) (j : Nat) : Int := A / p2 j
theorem ref_div_unique (A B q r q' r' : Int) (h : A = q * B + r) (h0 : 0 ≤ r) (h1 : r < B) (h' : A = q' * B + r') (h0' : 0 ≤ r') (h1' : r' < B) : q = q' ∧ r = r' := by
 have e : ∀ q r : Int, A = q * B + r → 0 ≤ r → r < B → r = A % B ∧ q = A / B := by
  intro q r h h0 h1
  rw [h]
  constructor
  · rw [Int.add_comm, Int.add_mul_emod_self_right, Int.emod_eq_of_lt h0 h1]
  · rw [Int.add_comm, Int.add_mul_ediv_right _ _ (by omega), Int.ediv_eq_zero_of_lt h0 h1]; omega
 obtain ⟨a1, a2⟩ := e q r h h0 h1
 obtain ⟨b1, b2⟩ := e q' r' h' h0' h1'
 exact ⟨a2.trans b2.symm, a1.trans b1.symm⟩

end Go.Proofs.YtimfnalpmmkndaaGreatDoor

/- The document's Power. -/
namespace Go.Proofs.YtimfnalpmmkndaaGreatDoor
set_option linter.unusedVariables false
set_option linter.unusedSimpArgs false
open Go.RowKit

/-- What a power with a limit answers: nothing where it has more limbs, else its limbs. -/
def PowersTo (w : World) (V : Int) (M : Nat) (e : Ending) (w' : World) : Prop :=
 Below w.heap.size w w' ∧ (pw M ≤ V → e = .returned (.tuple #[.slice none 0 0, .bool false])) ∧
  (V < pw M → ∃ zs a c, can zs ∧ val zs = V ∧ e = .returned (.tuple #[.slice a zs.length c, .bool true]) ∧ Own w.heap.size w' (.slice a zs.length c) zs)

theorem PowersTo.yes {w w' : World} {V : Int} {M : Nat} {zs : List Int} {a : Option Addr} {c : Nat} (hb : Below w.heap.size w w') (hz : can zs) (hv : val zs = V) (hl : zs.length ≤ M) (ho : Own w.heap.size w' (.slice a zs.length c) zs) :
    PowersTo w V M (.returned (.tuple #[.slice a zs.length c, .bool true])) w' :=
 ⟨hb, fun h => by have := (can_len_pw hz M).1 hl; omega, fun _ => ⟨zs, a, c, hz, hv, rfl, ho⟩⟩

theorem PowersTo.no {w w' : World} {V : Int} {M : Nat} (hb : Below w.heap.size w w') (hv : pw M ≤ V) : PowersTo w V M (.returned (.tuple #[.slice none 0 0, .bool false])) w' :=
 ⟨hb, fun _ => rfl, fun h => by omega⟩

end Go.Proofs.YtimfnalpmmkndaaGreatDoor

/- The document's twice, bit and DivMod. -/
namespace Go.Proofs.YtimfnalpmmkndaaGreatDoor
set_option linter.unusedVariables false
set_option linter.unusedSimpArgs false
open Go.RowKit

end Go.Proofs.YtimfnalpmmkndaaGreatDoor

/- The document's DivMod. -/
namespace Go.Proofs.YtimfnalpmmkndaaGreatDoor
set_option linter.unusedVariables false
set_option linter.unusedSimpArgs false
open Go.RowKit

end Go.Proofs.YtimfnalpmmkndaaGreatDoor

/- The document's half. -/
namespace Go.Proofs.YtimfnalpmmkndaaGreatDoor
set_option linter.unusedVariables false
set_option linter.unusedSimpArgs false
open Go.RowKit

end Go.Proofs.YtimfnalpmmkndaaGreatDoor

/- The document's greatest common divisor. -/
namespace Go.Proofs.YtimfnalpmmkndaaGreatDoor
set_option linter.unusedVariables false
set_option linter.unusedSimpArgs false
open Go.RowKit

end Go.Proofs.YtimfnalpmmkndaaGreatDoor

/- The document's Gcd; both divisions in one form. -/
namespace Go.Proofs.YtimfnalpmmkndaaGreatDoor
set_option linter.unusedVariables false
set_option linter.unusedSimpArgs false
open Go.RowKit

def DivSpec (A B : Int) (qs rs : List Int) (b : Bool) : Prop := (B = 0 ∧ qs = [] ∧ rs = [] ∧ b = false) ∨ (0 < B ∧ b = true ∧ can qs ∧ can rs ∧ A = val qs * B + val rs ∧ val rs < B)

theorem DivSpec.unique {A B : Int} {q r q' r' : List Int} {b b' : Bool} (h : DivSpec A B q r b) (h' : DivSpec A B q' r' b') : q = q' ∧ r = r' ∧ b = b' := by
 rcases h with ⟨e, rfl, rfl, rfl⟩ | ⟨h0, rfl, cq, cr, hv, hl⟩
 · rcases h' with ⟨_, rfl, rfl, rfl⟩ | ⟨h0, _⟩
   · exact ⟨rfl, rfl, rfl⟩
   · omega
 · rcases h' with ⟨e, _⟩ | ⟨_, rfl, cq', cr', hv', hl'⟩
   · omega
   · obtain ⟨e1, e2⟩ := ref_div_unique A B _ _ _ _ hv (val_bound cr.1).1 hl hv' (val_bound cr'.1).1 hl'
     exact ⟨can_inj cq cq' e1, can_inj cr cr' e2, rfl⟩

end Go.Proofs.YtimfnalpmmkndaaGreatDoor
