/- Scalar functions of bits: what is 0 or 1. -/
import Derived.Test.YtmijanocljmaeaaGreatKS1
import Derived.Test.YtmijanocljmaeaaGreatK12
import Derived.Test.YtmijanocljmaeaaGreatKS3
namespace Go.Proofs.YtmijanocljmaeaaGreat
set_option linter.unusedVariables false
set_option linter.unusedSimpArgs false
open Go.RowKit

/-- A bit as a whole number. -/
def bitI (h : Bool) : Int := if h then 1 else 0
/-- Its limbs. -/
def bitL (h : Bool) : List Int := if h then [1] else []
/-- A number that is a bit, by itself. -/
def BitN (base : Nat) (h : Bool) (e : Ending) (w' : World) : Prop := ∃ b z1 ns u1 z2 ds u2, e = .returned (.agg #[.bool b, .slice z1 ns.length u1, .slice z2 ds.length u2]) ∧ Own base w' (.slice z1 ns.length u1) ns ∧ Own base w' (.slice z2 ds.length u2) ds ∧ Hid (numT b ns ds = wholeT (bitI h))
set_option maxRecDepth 100000 in
set_option maxHeartbeats 16000000 in
theorem truth_bit (h : Bool) (w : World) : Calls Tryz.prog 75 #[.bool h] w fun e w' => BitN w.heap.size h e w' ∧ Below w.heap.size w w' := by
 have R := boxA_new w #[.bool false, .slice none 0 0, .slice none 0 0] 33
 have g := below_alloc w (.cells #[.bool false, .slice none 0 0, .slice none 0 0] 33)
 have lR := R.lt
 have sz : (w.alloc (.cells #[.bool false, .slice none 0 0, .slice none 0 0] 33)).heap.size = w.heap.size + 1 := by simp
 cases h
 all_goals
  go_enter Tryz.func75, Tryz.ntmps75
  go_wp2_with fail
  generalize hA : w.alloc (.cells #[.bool false, .slice none 0 0, .slice none 0 0] 33) = v at *
  clear hA
  refine (ofInt_any _ (by omega) (by omega) v).mono ?_
  rintro e w1 ⟨k1, b, ns, ds, z1, u1, z2, u2, hw, rfl, ho1, ho2⟩
  have R1 := R.below k1 lR
  have r0 := R1.cell 0 rfl
  have r1 := R1.cell 1 rfl
  have r2 := R1.cell 2 rfl
  have f0 := R1.frozen 0
  have f1 := R1.frozen 1
  have f2 := R1.frozen 2
  have R3 := ((R1.put 0 (.bool b)).put 1 (.slice z1 ns.length u1)).put 2 (.slice z2 ds.length u2)
  have q0 := R3.cell 0 rfl
  have q1 := R3.cell 1 rfl
  have q2 := R3.cell 2 rfl
  go_wp2
  refine bodyPost_ret (v := .agg #[.bool b, .slice z1 ns.length u1, .slice z2 ds.length u2]) (by simp [results, Tryz.results75, go_sem, q0, q1, q2]) rfl ?_
  exact ⟨⟨b, z1, ns, u1, z2, ds, u2, rfl, (ho1.set3 (by omega) _ _ _).mono (by omega), (ho2.set3 (by omega) _ _ _).mono (by omega), wholeIs_eq (by decide) (by decide) hw.out⟩, Below.set3 (g.trans (k1.mono g.size)) (Nat.le_refl _) _ _ _⟩
section
variable {w : World} {h : Bool} {p : Nat} {a1 a2 : Option Addr} {c1 c2 : Nat}
end
end Go.Proofs.YtmijanocljmaeaaGreat

/- Rows of truths, and the two rows of bits that ScalarLogic makes of them. -/
namespace Go.Proofs.YtmijanocljmaeaaGreat
set_option linter.unusedVariables false
set_option linter.unusedSimpArgs false
open Go.RowKit

/-- Items that are bits. -/
def Bits (q : List Bool) (l : List Tr) : Prop := l = q.map (fun h => numT false (bitL h) [1])
end Go.Proofs.YtmijanocljmaeaaGreat
