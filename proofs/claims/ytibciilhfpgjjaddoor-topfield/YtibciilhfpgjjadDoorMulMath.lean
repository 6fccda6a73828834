/- Plain facts on the school way to multiply limbs. No program is named. -/
import Derived.Test.YtibciilhfpgjjadDoorMath
namespace Go.Proofs.YtibciilhfpgjjadDoor
set_option linter.unusedVariables false
set_option linter.unusedSimpArgs false

theorem mul_bound {x y : Int} (hx : 0 ≤ x ∧ x < 4294967296) (hy : 0 ≤ y ∧ y < 4294967296) : 0 ≤ x * y ∧ x * y ≤ 18446744065119617025 := by
  refine ⟨Int.mul_nonneg hx.1 hy.1, ?_⟩
  have h1 : x * y ≤ 4294967295 * y := Int.mul_le_mul_of_nonneg_right (by omega) hy.1
  omega

theorem mul_step (zs ys : List Int) (i j : Nat) (x c V t : Int) (hj : j < ys.length) (hij : i + j < zs.length) (h : val zs + c * pw (i + j) = V + x * val (ys.take j) * pw i)
    (ht : t = x * ys.getD j 0 + zs.getD (i + j) 0 + c) : val (zs.set (i + j) (t % 4294967296)) + t / 4294967296 * pw (i + (j + 1)) = V + x * val (ys.take (j + 1)) * pw i := by
  have hd : 4294967296 * (t / 4294967296) + t % 4294967296 = t := Int.mul_ediv_add_emod t 4294967296
  rw [val_set _ _ _ hij, val_take_succ ys j hj, ← Nat.add_assoc, pw_succ, pw_add] at *
  generalize t / 4294967296 = q at *
  generalize t % 4294967296 = r at *
  have key := congrArg (fun u => u * (pw i * pw j)) (hd.trans ht)
  simp only [Int.add_mul, Int.mul_add, Int.sub_mul, Int.mul_assoc, Int.mul_comm, Int.mul_left_comm] at *
  omega

theorem mul_round (zs xs ys : List Int) (i : Nat) (c V : Int) (hi : i < xs.length) (hl : i + ys.length < zs.length) (h0 : zs.getD (i + ys.length) 0 = 0)
    (h : val zs + c * pw (i + ys.length) = V + xs.getD i 0 * val (ys.take ys.length) * pw i) (hV : V = val (xs.take i) * val ys) :
    val (zs.set (i + ys.length) c) = val (xs.take (i + 1)) * val ys := by
  rw [val_set _ _ _ hl, h0, val_take_succ xs i hi, Int.add_mul]
  rw [List.take_length] at h
  rw [hV] at h
  simp only [Int.sub_zero, Int.mul_assoc, Int.mul_comm, Int.mul_left_comm] at *
  omega

theorem zeros_set (zs : List Int) (m k : Nat) (v : Int) (h : ∀ j, m ≤ j → zs.getD j 0 = 0) (hk : k < m) : ∀ j, m ≤ j → (zs.set k v).getD j 0 = 0 := by
  intro j hj
  rw [getD_set, if_neg (by omega)]
  exact h j hj

end Go.Proofs.YtibciilhfpgjjadDoor
