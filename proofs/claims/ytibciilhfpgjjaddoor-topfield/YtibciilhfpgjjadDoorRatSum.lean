/- rat.sum: of two whole numbers with signs; rat.times, rat.plus, rat.by. -/
import Derived.Test.YtibciilhfpgjjadDoorRatMake
import Derived.Test.YtibciilhfpgjjadDoorLess
namespace Go.Proofs.YtibciilhfpgjjadDoor
set_option linter.unusedVariables false
set_option linter.unusedSimpArgs false
open Go.RowKit

/-- What rat.sum answers: limbs of S with their sign. -/
def Sums (w : World) (S : Int) (L : Nat) (e : Ending) (w' : World) : Prop :=
  Below w.heap.size w w' ∧ ∃ b zs a c, e = .returned (.tuple #[.bool b, .slice a zs.length c]) ∧ Own w.heap.size w' (.slice a zs.length c) zs ∧ can zs ∧ sg b (val zs) = S ∧ zs.length ≤ L

theorem sg_same (b : Bool) (x y : Int) : sg b (x + y) = sg b x + sg b y := by unfold sg; split <;> omega
theorem sg_diff (b : Bool) (x y : Int) : sg b (x - y) = sg b x + sg (!b) y := by unfold sg; cases b <;> simp <;> omega
theorem sg_diff' (b : Bool) (x y : Int) : sg (!b) (y - x) = sg b x + sg (!b) y := by unfold sg; cases b <;> simp <;> omega

set_option maxRecDepth 100000 in
set_option maxHeartbeats 3200000 in
theorem sum_rat {B1 B2 : Nat} {w : World} {bx cy : Bool} {a1 a2 : Option Addr} {c1 c2 : Nat} {xs ys : List Int} (L : Nat) (S : Int) (h1 : Rd B1 w (.slice a1 xs.length c1) xs) (b1 : B1 ≤ w.heap.size) (h2 : Rd B2 w (.slice a2 ys.length c2) ys) (b2 : B2 ≤ w.heap.size) (n1 : xs.length ≤ L) (n2 : ys.length ≤ L) (hL : L ≤ 1000) (hS : S = sg bx (val xs) + sg cy (val ys)) :
    Calls Tryd.prog 54 #[.bool bx, .slice a1 xs.length c1, .bool cy, .slice a2 ys.length c2] w fun e w' => Sums w S (2 * L + 2) e w' := by
  have HS : Hid (S = sg bx (val xs) + sg cy (val ys)) := hS
  clear hS
  go_enter Tryd.func54, Tryd.ntmps54
  by_cases hb : bx = cy
  · subst hb
    have hbb : (bx == bx) = true := by simp
    go_wp2_with fail
    refine (sum2 h1 h2 b1 b2 (by omega) (by omega)).mono ?_
    rintro e wa ⟨zs, cz, vz, lz, a3, c3, rfl, o3, ba⟩
    have HV : Hid (sg bx (val zs) = S) := by unfold Hid; rw [vz, sg_same, HS.out]
    clear vz
    go_wp2
    go_ret2
    exact ⟨ba, bx, zs, a3, c3, rfl, o3, cz, HV.out, by omega⟩
  · have hc : cy = !bx := by cases bx <;> cases cy <;> simp_all
    subst hc
    have hbb : (bx == !bx) = false := by cases bx <;> rfl
    clear hb
    go_wp2_with fail
    refine (minus_any h1 b1 h2 b2 (by omega)).mono ?_
    rintro e wa ⟨⟨ba, hmin⟩, hmin0⟩
    have sa := ba.size
    by_cases hlt : val xs - val ys < 0
    · rw [if_pos hlt] at hmin
      subst hmin
      have HLT : Hid (val xs < val ys) := by unfold Hid; omega
      clear hlt
      go_wp2_with fail
      refine (minus_any (h2.below (ba.mono b2)) (by omega) (h1.below (ba.mono b1)) (by omega) (by omega)).mono ?_
      rintro e wb ⟨⟨bb, _⟩, hmin2⟩
      obtain ⟨zs, a3, c3, lz, cz, vz, rfl, o3⟩ := hmin2 (by have := HLT.out; omega)
      have HV : Hid (sg (!bx) (val zs) = S) := by unfold Hid; rw [vz, sg_diff', HS.out]
      clear vz hmin2
      go_wp2
      go_ret2
      exact ⟨ba.trans (bb.mono sa), !bx, zs, a3, c3, rfl, o3.mono sa, cz, HV.out, by omega⟩
    · rw [if_neg hlt] at hmin
      clear hmin
      obtain ⟨zs, a3, c3, hzl, cz, vz, rfl, o3⟩ := hmin0 (by omega)
      have HV : Hid (sg bx (val zs) = S) := by unfold Hid; rw [vz, sg_diff, HS.out]
      clear vz hlt
      go_wp2
      go_ret2
      exact ⟨ba, bx, zs, a3, c3, rfl, o3, cz, HV.out, by omega⟩
theorem sg_neq (b c : Bool) (x y : Int) : sg (b != c) (x * y) = sg b x * sg c y := by unfold sg; cases b <;> cases c <;> simp [Int.neg_mul, Int.mul_neg]

theorem right_pos {b : Bool} {ns ds : List Int} (h : RightP b ns ds) : 0 < val ds ∧ 0 ≤ val ns := by
  have h1 := can_low h.2.2.2.1 h.2.2.2.2.2.1
  have h2 := pw_pos (ds.length - 1)
  exact ⟨by omega, (val_bound h.2.2.1.1).1⟩

end Go.Proofs.YtibciilhfpgjjadDoor
