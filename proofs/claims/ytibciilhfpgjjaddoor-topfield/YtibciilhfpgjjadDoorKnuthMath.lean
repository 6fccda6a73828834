/- Plain facts on long division: limbs in a window of a row, guesses of a quotient's limb, shifts. No program is named. -/
import Derived.Test.YtibciilhfpgjjadDoorMulMath
namespace Go.Proofs.YtibciilhfpgjjadDoor
set_option linter.unusedVariables false
set_option linter.unusedSimpArgs false

theorem win_getD (A U C : List Int) (j i : Nat) (hA : A.length = j) (hi : i < U.length) : (A ++ U ++ C).getD (j + i) 0 = U.getD i 0 := by
  subst hA
  simp only [List.getD, List.append_assoc]
  rw [List.getElem?_append_right (by omega), show A.length + i - A.length = i by omega, List.getElem?_append_left hi]

theorem win_set (A U C : List Int) (j i : Nat) (z : Int) (hA : A.length = j) (hi : i < U.length) : (A ++ U ++ C).set (j + i) z = A ++ U.set i z ++ C := by
  subst hA
  rw [List.append_assoc, List.set_append_right _ _ (by omega), show A.length + i - A.length = i by omega, List.set_append_left _ _ hi, List.append_assoc]

/-- One step of: u less f times b. -/
theorem take_step (us ys : List Int) (i : Nat) (f c b V p t z b' : Int) (hi : i < us.length) (hy : i < ys.length) (h : val us - (c + b) * pw i = V - f * val (ys.take i)) (hp : p = ys.getD i 0 * f + c)
    (ht : us.getD i 0 - p % 4294967296 - b = z - b' * 4294967296) :
    val (us.set i z) - (p / 4294967296 + b') * pw (i + 1) = V - f * val (ys.take (i + 1)) := by
  have hd : 4294967296 * (p / 4294967296) + p % 4294967296 = p := Int.mul_ediv_add_emod p 4294967296
  rw [val_set _ _ _ hi, val_take_succ ys i hy, pw_succ]
  generalize p / 4294967296 = q at *
  generalize p % 4294967296 = r at *
  have k1 := congrArg (fun u => u * pw i) (hd.trans hp)
  have k2 := congrArg (fun u => u * pw i) ht
  simp only [Int.add_mul, Int.sub_mul, Int.mul_add, Int.mul_assoc, Int.mul_comm, Int.mul_left_comm] at *
  omega

theorem take_end (us : List Int) (n : Nat) (c b V z β : Int) (hn : n < us.length) (h : val us - (c + b) * pw n = V) (ht : us.getD n 0 - c - b = z - β * 4294967296) :
    val (us.set n z) - β * pw (n + 1) = V := by
  rw [val_set _ _ _ hn, pw_succ]
  have k2 := congrArg (fun u => u * pw n) ht
  simp only [Int.add_mul, Int.sub_mul, Int.mul_add, Int.mul_assoc, Int.mul_comm, Int.mul_left_comm] at *
  omega

/-- One step of: u and b together. -/
theorem back_step (us ys : List Int) (i : Nat) (c V t : Int) (hi : i < us.length) (hy : i < ys.length) (h : val us + c * pw i = V + val (ys.take i)) (ht : t = us.getD i 0 + ys.getD i 0 + c) :
    val (us.set i (t % 4294967296)) + t / 4294967296 * pw (i + 1) = V + val (ys.take (i + 1)) := by
  have hd : 4294967296 * (t / 4294967296) + t % 4294967296 = t := Int.mul_ediv_add_emod t 4294967296
  rw [val_set _ _ _ hi, val_take_succ ys i hy, pw_succ]
  generalize t / 4294967296 = q at *
  generalize t % 4294967296 = r at *
  have k1 := congrArg (fun u => u * pw i) (hd.trans ht)
  simp only [Int.add_mul, Int.sub_mul, Int.mul_add, Int.mul_assoc, Int.mul_comm, Int.mul_left_comm] at *
  omega

theorem back_end (us : List Int) (n : Nat) (c V t : Int) (hn : n < us.length) (h : val us + c * pw n = V) (ht : t = us.getD n 0 + c) :
    val (us.set n (t % 4294967296)) + t / 4294967296 * pw (n + 1) = V := by
  have hd : 4294967296 * (t / 4294967296) + t % 4294967296 = t := Int.mul_ediv_add_emod t 4294967296
  rw [val_set _ _ _ hn, pw_succ]
  generalize t / 4294967296 = q at *
  generalize t % 4294967296 = r at *
  have k1 := congrArg (fun u => u * pw n) (hd.trans ht)
  simp only [Int.add_mul, Int.sub_mul, Int.mul_add, Int.mul_assoc, Int.mul_comm, Int.mul_left_comm] at *
  omega

/-- A guess from the top limbs: b = d P + l, u = t P + k, both rests below P. Q is the quotient. -/
theorem guess_low (u b d l t k P Q g : Int) (hP : 0 < P) (hb : b = d * P + l) (hl : 0 ≤ l) (hu : u = t * P + k) (hk : k < P) (hQ : Q * b ≤ u) (hQ0 : 0 ≤ Q) (hg : t < g * d) (hd : 0 < d) : Q < g := by
  have h1 : Q * d * P ≤ u := by
    have : Q * b = Q * d * P + Q * l := by rw [hb, Int.mul_add, Int.mul_assoc]
    have : 0 ≤ Q * l := Int.mul_nonneg hQ0 hl
    omega
  have h2 : Q * d < t + 1 := by
    have h3 : Q * d * P < (t + 1) * P := by rw [Int.add_mul, Int.one_mul]; omega
    exact Int.lt_of_mul_lt_mul_right h3 (Int.le_of_lt hP)
  exact Int.lt_of_mul_lt_mul_right (show Q * d < g * d by omega) (Int.le_of_lt hd)

theorem guess_high (u b d l t k P Q g : Int) (hP : 0 < P) (hb : b = d * P + l) (hl : 0 ≤ l) (hlP : l < P) (hu : u = t * P + k) (hk : 0 ≤ k) (hQ : u < (Q + 1) * b) (hg : g * d ≤ t) (hg1 : g ≤ 4294967295) (hg0 : 0 ≤ g) (hd : 4294967296 ≤ d) : g ≤ Q + 1 := by
  have hbp : 0 < b := by
    have : 0 < d * P := Int.mul_pos (by omega) hP
    omega
  have h1 : g * d * P ≤ t * P := Int.mul_le_mul_of_nonneg_right hg (Int.le_of_lt hP)
  have h2 : g * l ≤ 4294967295 * P := Int.mul_le_mul hg1 (Int.le_of_lt hlP) hl (by omega)
  have h3 : 4294967296 * P ≤ d * P := Int.mul_le_mul_of_nonneg_right hd (Int.le_of_lt hP)
  have e1 : (g - 1) * b = g * d * P + g * l - (d * P + l) := by rw [Int.sub_mul, Int.one_mul, hb, Int.mul_add, Int.mul_assoc]
  have h4 : (g - 1) * b < (Q + 1) * b := by omega
  have h5 : g - 1 < Q + 1 := Int.lt_of_mul_lt_mul_right h4 (Int.le_of_lt hbp)
  omega

end Go.Proofs.YtibciilhfpgjjadDoor
