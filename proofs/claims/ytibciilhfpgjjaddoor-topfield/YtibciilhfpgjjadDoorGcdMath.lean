/- Plain facts on greatest common divisors (for the seats without layer 1's laws). -/
import Derived.Test.YtibciilhfpgjjadDoorGcds
namespace Go.Proofs.YtibciilhfpgjjadDoor
set_option linter.unusedVariables false
set_option linter.unusedSimpArgs false
open Go.RowKit

theorem gI_dvd (x y : Int) (hx : 0 ≤ x) (hy : 0 ≤ y) : (∃ k, x = k * gI x y ∧ 0 ≤ k) ∧ ∃ k, y = k * gI x y ∧ 0 ≤ k := by
  unfold gI
  obtain ⟨a, ha⟩ := Nat.gcd_dvd_left x.toNat y.toNat
  obtain ⟨b, hb⟩ := Nat.gcd_dvd_right x.toNat y.toNat
  refine ⟨⟨a, ?_, by omega⟩, ⟨b, ?_, by omega⟩⟩
  · rw [← Int.natCast_mul, Nat.mul_comm, ← ha]; omega
  · rw [← Int.natCast_mul, Nat.mul_comm, ← hb]; omega

theorem gI_pos (x y : Int) (hx : 0 ≤ x) (hy : 0 < y) : 0 < gI x y := by
  unfold gI
  have := Nat.gcd_pos_of_pos_right x.toNat (show 0 < y.toNat by omega)
  omega

theorem rest_zero (x q g s k : Int) (h : x = q * g + s) (h0 : 0 ≤ s) (h1 : s < g) (hk : x = k * g) : s = 0 := by
  have e : (q * g + s) % g = s := by rw [Int.add_comm, Int.add_mul_emod_self_right, Int.emod_eq_of_lt h0 h1]
  rw [← h, hk, Int.mul_emod_left] at e
  exact e.symm

theorem gI_rest (x y p t : Int) (hx : 0 ≤ x) (hy : 0 < y) (hp : 0 ≤ p) (ht : 0 ≤ t) (h1 : x = p * gI x y) (h2 : y = t * gI x y) : gI p t = 1 := by
  have hg := gI_pos x y hx hy
  obtain ⟨a, rfl⟩ := Int.eq_ofNat_of_zero_le hp
  obtain ⟨b, rfl⟩ := Int.eq_ofNat_of_zero_le ht
  obtain ⟨g, eg⟩ := Int.eq_ofNat_of_zero_le (Int.le_of_lt hg)
  rw [eg] at h1 h2 hg
  have e1 : x.toNat = a * g := by rw [h1, ← Int.natCast_mul]; exact Int.toNat_natCast _
  have e2 : y.toNat = b * g := by rw [h2, ← Int.natCast_mul]; exact Int.toNat_natCast _
  have e3 : Nat.gcd x.toNat y.toNat = g := by unfold gI at eg; omega
  rw [e1, e2, Nat.gcd_mul_right] at e3
  have e4 : Nat.gcd a b = 1 := by
    have : Nat.gcd a b * g = 1 * g := by rw [e3, Nat.one_mul]
    exact Nat.eq_of_mul_eq_mul_right (by omega) this
  unfold gI
  simp only [Int.toNat_natCast, e4]
  rfl

theorem can_val_zero {xs : List Int} (h : can xs) (h0 : val xs = 0) : xs = [] := List.eq_nil_of_length_eq_zero ((can_zero h).2 h0)
end Go.Proofs.YtibciilhfpgjjadDoor
