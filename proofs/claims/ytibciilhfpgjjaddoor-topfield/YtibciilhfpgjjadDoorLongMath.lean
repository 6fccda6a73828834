/- Plain facts on long division: one limb of the quotient after the other. -/
import Derived.Test.YtibciilhfpgjjadDoorShift
import Derived.Test.YtibciilhfpgjjadDoorBits
namespace Go.Proofs.YtibciilhfpgjjadDoor
set_option linter.unusedVariables false
set_option linter.unusedSimpArgs false

theorem can_len_le2 {xs ys : List Int} (hx : can xs) (hy : can ys) (h : val ys ≤ val xs) : ys.length ≤ xs.length := by
  by_cases hl : ys.length ≤ xs.length
  · exact hl
  · have := can_len_lt hx hy (by omega); omega

theorem win_split (vs : List Int) (i n L : Nat) (hl : vs.length = L) (hi : i + n + 1 ≤ L) : ∃ A U C, vs = A ++ U ++ C ∧ A.length = i ∧ U.length = n + 1 := by
  refine ⟨vs.take i, (vs.drop i).take (n + 1), (vs.drop i).drop (n + 1), ?_, by simp; omega, by simp; omega⟩
  rw [List.append_assoc, List.take_append_drop, List.take_append_drop]

theorem win_val (A U C : List Int) : val (A ++ U ++ C) = val A + pw A.length * (val U + pw U.length * val C) := by
  rw [List.append_assoc, val_append, val_append]

theorem win_drop (A U C : List Int) (i : Nat) (h : A.length = i) : (A ++ U ++ C).drop i = U ++ C := by
  subst h; rw [List.append_assoc, List.drop_left]

theorem win_top (A U C : List Int) (i n : Nat) (b : Int) (hA : A.length = i) (hU : U.length = n + 1) (hl : lim (A ++ U ++ C)) (hb : val ((A ++ U ++ C).drop (i + 1)) < b) (hp : b ≤ pw n) : val C = 0 ∧ val U < 4294967296 * b := by
  have lU : lim U := (lim_append.1 (lim_append.1 hl).1).2
  have lC : lim C := (lim_append.1 hl).2
  cases U with
  | nil => simp at hU
  | cons x V =>
    have e : (A ++ x :: V ++ C).drop (i + 1) = V ++ C := by
      rw [← List.drop_drop, win_drop A (x :: V) C i hA]; rfl
    rw [e, val_append] at hb
    have lV : V.length = n := by simpa using hU
    rw [lV] at hb
    rw [lim_cons] at lU
    have hV := (val_bound lU.2).1
    have hC := (val_bound lC).1
    have hz : val C = 0 := by
      by_cases h : val C = 0
      · exact h
      · have : pw n * 1 ≤ pw n * val C := Int.mul_le_mul_of_nonneg_left (by omega) (Int.le_of_lt (pw_pos n))
        omega
    refine ⟨hz, ?_⟩
    rw [hz] at hb
    simp only [val]
    omega

theorem long_next (A U U' C : List Int) (i : Nat) (b V0 : Int) (qs : List Int) (hA : A.length = i) (hU : U'.length = U.length) (hC : val C = 0) (hb : 0 < b) (hv : val U' = val U % b) (hq : i < qs.length) (hq0 : qs.getD i 0 = 0)
    (h : V0 = val (A ++ U ++ C) + val qs * b) :
    V0 = val (A ++ U' ++ C) + val (qs.set i (val U / b)) * b ∧ val ((A ++ U' ++ C).drop i) < b := by
  have hd : b * (val U / b) + val U % b = val U := Int.mul_ediv_add_emod _ _
  constructor
  · rw [h, win_val, win_val, hC, hv, val_set _ _ _ hq, hq0, hA]
    generalize val U / b = q at *
    generalize val U % b = r at *
    rw [← hd]
    simp only [Int.add_mul, Int.sub_mul, Int.mul_add, Int.mul_assoc, Int.mul_comm, Int.mul_left_comm, Int.sub_zero, Int.mul_zero, Int.add_zero]
    omega
  · rw [win_drop A U' C i hA, val_append, hC, hv]
    have := Int.emod_lt_of_pos (val U) hb
    simp; exact this

/-- The divisor's top limb, shifted. -/
theorem top_shift (t : Int) (b s : Nat) (h : isBits t b) (h0 : ¬ t = 0) (hb : b ≤ 32) (hs : s = 32 - b) : 2147483648 ≤ t * 2 ^ s ∧ (t + 1) * 2 ^ s ≤ 4294967296 := by
  rcases h with ⟨h, _⟩ | ⟨h1, h2, h3⟩
  · exact absurd h h0
  · have e : (2 : Int) ^ s = p2 s := rfl
    rw [e]
    have hp := p2_pos s
    have a1 : p2 (b - 1) * p2 s ≤ t * p2 s := Int.mul_le_mul_of_nonneg_right h2 (Int.le_of_lt hp)
    have a2 : (t + 1) * p2 s ≤ p2 b * p2 s := Int.mul_le_mul_of_nonneg_right (by omega) (Int.le_of_lt hp)
    rw [← p2_add] at a1 a2
    have e1 : b - 1 + s = 31 := by omega
    have e2 : b + s = 32 := by omega
    rw [e1] at a1
    rw [e2] at a2
    have k1 : p2 31 = 2147483648 := by decide
    have k2 : p2 32 = 4294967296 := by decide
    omega

/-- The divisor, shifted: its limbs but the last, which is 0. -/
theorem shifted_divisor (ys zs : List Int) (m : Nat) (c : Int) (hc : 0 < c) (ly : lim ys) (lz : lim zs) (hy : ys.length = m + 2) (hz : zs.length = m + 2 + 1) (hv : val zs = val ys * c) (h1 : 2147483648 ≤ ys.getD (m + 1) 0 * c) (h2 : (ys.getD (m + 1) 0 + 1) * c ≤ 4294967296) :
    val (zs.take (m + 2)) = val ys * c ∧ 2147483648 ≤ (zs.take (m + 2)).getD (m + 1) 0 := by
  have e : ys = ys.take (m + 1 + 1) := by rw [List.take_of_length_le (by omega)]
  have ez : zs = zs.take (m + 2 + 1) := by rw [List.take_of_length_le (by omega)]
  have v1 := val_take_succ ys (m + 1) (by omega)
  rw [← e] at v1
  have v2 := val_take_succ zs (m + 2) (by omega)
  rw [← ez] at v2
  have v3 := val_take_succ zs (m + 1) (by omega)
  have b1 := val_bound (lim_take ly (m + 1))
  have b3 := val_bound (lim_take lz (m + 1))
  have l1 : (ys.take (m + 1)).length = m + 1 := by simp; omega
  have l3 : (zs.take (m + 1)).length = m + 1 := by simp; omega
  rw [l1] at b1
  rw [l3] at b3
  have bz := lim_getD lz (m + 2)
  have bt := (val_bound (lim_take lz (m + 2))).1
  have hp := pw_pos (m + 1)
  have ep : pw (m + 2) = 4294967296 * pw (m + 1) := pw_succ (m + 1)
  -- the whole is below pw (m + 2)
  have u1 : val ys * c < pw (m + 2) := by
    have a1 : val ys < (ys.getD (m + 1) 0 + 1) * pw (m + 1) := by rw [Int.add_mul, Int.one_mul]; omega
    have a2 : val ys * c < (ys.getD (m + 1) 0 + 1) * pw (m + 1) * c := Int.mul_lt_mul_of_pos_right a1 hc
    have a3 : (ys.getD (m + 1) 0 + 1) * c * pw (m + 1) ≤ 4294967296 * pw (m + 1) := Int.mul_le_mul_of_nonneg_right h2 (Int.le_of_lt hp)
    rw [Int.mul_right_comm] at a2
    omega
  have z0 : zs.getD (m + 2) 0 = 0 := by
    by_cases h : zs.getD (m + 2) 0 = 0
    · exact h
    · have : 1 * pw (m + 2) ≤ zs.getD (m + 2) 0 * pw (m + 2) := Int.mul_le_mul_of_nonneg_right (by omega) (Int.le_of_lt (pw_pos _))
      omega
  rw [z0] at v2
  have hval : val (zs.take (m + 2)) = val ys * c := by omega
  refine ⟨hval, ?_⟩
  have eg : (zs.take (m + 2)).getD (m + 1) 0 = zs.getD (m + 1) 0 := by simp only [List.getD, List.getElem?_take]; rw [if_pos (by omega)]
  rw [eg]
  -- from below
  have d1 : (2147483648 : Int) * pw (m + 1) ≤ val ys * c := by
    have a1 : ys.getD (m + 1) 0 * pw (m + 1) ≤ val ys := by omega
    have a2 : ys.getD (m + 1) 0 * pw (m + 1) * c ≤ val ys * c := Int.mul_le_mul_of_nonneg_right a1 (Int.le_of_lt hc)
    have a3 : 2147483648 * pw (m + 1) ≤ ys.getD (m + 1) 0 * c * pw (m + 1) := Int.mul_le_mul_of_nonneg_right h1 (Int.le_of_lt hp)
    rw [Int.mul_right_comm] at a2
    omega
  have v3' : val (zs.take (m + 2)) = val (zs.take (m + 1)) + zs.getD (m + 1) 0 * pw (m + 1) := v3
  have d2 : 2147483648 * pw (m + 1) < (zs.getD (m + 1) 0 + 1) * pw (m + 1) := by rw [Int.add_mul, Int.one_mul]; omega
  have := Int.lt_of_mul_lt_mul_right d2 (Int.le_of_lt hp)
  omega

/-- Ahead of the first limb: the top of the shifted dividend is below the shifted divisor. -/
theorem long_start (xs ys vs : List Int) (n L : Nat) (c : Int) (hc : 0 < c) (lx : lim xs) (lv : lim vs) (cy : can ys) (hx : xs.length = L) (hy : ys.length = n) (hn : 0 < n) (hnL : n ≤ L) (hv : vs.length = L + 1) (hval : val vs = val xs * c) :
    val (vs.drop (L + 1 - n)) < val ys * c := by
  have h1 := val_split vs (L + 1 - n) (by omega)
  have h2 := (val_bound (lim_take lv (L + 1 - n))).1
  have h3 := (val_bound lx).2
  rw [hx] at h3
  have h4 := can_low cy (by omega)
  rw [hy] at h4
  have hp := pw_pos (L + 1 - n)
  have e : pw L = pw (L + 1 - n) * pw (n - 1) := by rw [← pw_add]; congr 1; omega
  have h5 : val xs * c < pw L * c := Int.mul_lt_mul_of_pos_right h3 hc
  have h6 : pw (n - 1) * c ≤ val ys * c := Int.mul_le_mul_of_nonneg_right h4 (Int.le_of_lt hc)
  have h7 : pw (L + 1 - n) * val (vs.drop (L + 1 - n)) < pw (L + 1 - n) * (pw (n - 1) * c) := by
    rw [← Int.mul_assoc, ← e]; omega
  have := Int.lt_of_mul_lt_mul_left h7 (Int.le_of_lt hp)
  omega

theorem long_end (X Y V q c : Int) (hc : 0 < c) (h : X * c = V + q * (Y * c)) : V / c = X - q * Y ∧ (V < Y * c → X - q * Y < Y) := by
  have e : V = (X - q * Y) * c := by rw [Int.sub_mul, Int.mul_assoc]; omega
  refine ⟨by rw [e]; exact Int.mul_ediv_cancel _ (by omega), fun h1 => ?_⟩
  rw [e] at h1
  exact Int.lt_of_mul_lt_mul_right h1 (Int.le_of_lt hc)
end Go.Proofs.YtibciilhfpgjjadDoor
