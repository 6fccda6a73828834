/- nat.Right (for the seats without layer 1's laws). -/
import Derived.Test.YtibciilhfpgjjadDoorLists
namespace Go.Proofs.YtibciilhfpgjjadDoor
set_option linter.unusedVariables false
set_option linter.unusedSimpArgs false
open Go.RowKit

/-- Are limbs right? -/
def rightB (xs : List Int) : Bool := decide ((tr xs).length = xs.length)

set_option maxHeartbeats 400000 in
theorem right_any {B : Nat} {w : World} {v : Value} {xs : List Int} (h : Rd B w v xs) :
    Calls Tryd.prog 21 #[v] w fun e w' => e = .returned (.bool (rightB xs)) ∧ w = w' := by
  have m := meant_rd h
  have hle := tr_length_le xs
  rw [← tr_length] at m
  obtain ⟨_, a, c, rfl, hc, hb, _, _⟩ := h
  have m' : Says1 Tryd.prog 44 (.slice a xs.length c) w (.slice a (tr xs).length c) := m
  clear m
  have hr : rightB xs = decide ((tr xs).length = xs.length) := rfl
  rw [hr]
  generalize (tr xs).length = k at *
  generalize xs.length = n at *
  by_cases hk : k = n
  · have hkb : (((k : Nat) : Int) == ((n : Nat) : Int)) = true := by simp; omega
    go_enter Tryd.func21, Tryd.ntmps21
    go_wp2_with fail
    refine (m').mono ?_
    rintro e w' ⟨rfl, rfl⟩
    go_wp2
    go_ret
    exact ⟨ret_bool (by simp [hk]), rfl⟩
  · have hkb : (((k : Nat) : Int) == ((n : Nat) : Int)) = false := by simp; omega
    go_enter Tryd.func21, Tryd.ntmps21
    go_wp2_with fail
    refine (m').mono ?_
    rintro e w' ⟨rfl, rfl⟩
    go_wp2
    go_ret
    exact ⟨ret_bool (by simp [hk]), rfl⟩
end Go.Proofs.YtibciilhfpgjjadDoor
