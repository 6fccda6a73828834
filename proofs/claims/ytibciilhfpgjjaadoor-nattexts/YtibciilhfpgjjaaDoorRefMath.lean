/- Plain facts on doubling, halving and dividing limbs bit by bit. -/
import Derived.Test.YtibciilhfpgjjaaDoorGcds
import Derived.Test.YtibciilhfpgjjaaDoorRef9
namespace Go.Proofs.YtibciilhfpgjjaaDoor
set_option linter.unusedVariables false
set_option linter.unusedSimpArgs false
open Go.RowKit

theorem bits_or_u32_nat' (a b : Nat) (ha : a < 4294967296) (hb : b < 4294967296) : bits .or .u32 (a : Int) (b : Int) = ((a ||| b : Nat) : Int) := by
  have hx : a ||| b < 2 ^ 32 := Nat.or_lt_two_pow (by omega) (by omega)
  have h1 : (BitVec.ofInt 32 (a : Int)).toNat = a := by
    rw [BitVec.ofInt_natCast, BitVec.toNat_ofNat]; exact Nat.mod_eq_of_lt (by omega)
  have h2 : (BitVec.ofInt 32 (b : Int)).toNat = b := by
    rw [BitVec.ofInt_natCast, BitVec.toNat_ofNat]; exact Nat.mod_eq_of_lt (by omega)
  show IntKind.u32.wrap ((BitVec.ofInt 32 (a : Int) ||| BitVec.ofInt 32 (b : Int)).toNat : Int) = _
  rw [BitVec.toNat_or, h1, h2, IntKind.wrap_u32]
  omega

/-- Two times a limb, and a bit below. -/
theorem or_bit (x c : Int) (hx : 0 ≤ x ∧ x < 4294967296) (hc : 0 ≤ c ∧ c ≤ 1) : bits .or .u32 (x * 2 % 4294967296) c = x * 2 % 4294967296 + c := by
  obtain ⟨k, hk⟩ : ∃ k : Nat, x * 2 % 4294967296 = ((k * 2 : Nat) : Int) := ⟨(x % 2147483648).toNat, by omega⟩
  obtain ⟨d, rfl⟩ := Int.eq_ofNat_of_zero_le hc.1
  rw [hk, bits_or_u32_nat' _ _ (by omega) (by omega)]
  have h : k * 2 ||| d = k * 2 + d := by
    have := Nat.two_pow_add_eq_or_of_lt (i := 1) (b := d) (by omega) k
    rw [Nat.mul_comm]
    exact this.symm
  rw [h]; omega

/-- Half a limb, and a bit above. -/
theorem or_high (x c : Int) (hx : 0 ≤ x ∧ x < 4294967296) (hc : 0 ≤ c ∧ c ≤ 1) : bits .or .u32 (x / 2) (c * 2147483648) = x / 2 + c * 2147483648 := by
  obtain ⟨k, hk⟩ : ∃ k : Nat, x / 2 = (k : Int) := ⟨(x / 2).toNat, by omega⟩
  obtain ⟨d, rfl⟩ := Int.eq_ofNat_of_zero_le hc.1
  have e : ((d : Int) * 2147483648) = ((d * 2147483648 : Nat) : Int) := by omega
  rw [hk, e, bits_or_u32_nat' _ _ (by omega) (by omega)]
  have h : k ||| d * 2147483648 = k + d * 2147483648 := by
    have := Nat.two_pow_add_eq_or_of_lt (i := 31) (b := k) (by omega) d
    rw [Nat.or_comm, Nat.mul_comm, ← this]; omega
  rw [h]; omega

theorem and_one_u32 (x : Int) (h0 : 0 ≤ x) (h1 : x < 4294967296) : bits .and .u32 x 1 = x % 2 :=
  bits_mask .u32 32 (by decide) (fun n a b => by rw [IntKind.wrap_u32]; omega) 1 (by decide) x h0 (by omega)
theorem and_one_u64 (x : Int) (h0 : 0 ≤ x) (h1 : x < 4294967296) : bits .and .u64 x 1 = x % 2 :=
  bits_mask .u64 64 (by decide) (fun n a b => by rw [IntKind.wrap_u64]; omega) 1 (by decide) x h0 (by omega)

theorem twice_step (us xs : List Int) (i : Nat) (c z c' m : Int) (hl : us.length = i) (hi : i < xs.length) (h : val us + c * pw i = 2 * val (xs.take i) + m) (ht : 2 * xs.getD i 0 + c = z + c' * 4294967296) :
    val (us ++ [z]) + c' * pw (i + 1) = 2 * val (xs.take (i + 1)) + m := by
  rw [val_append, hl, val_take_succ xs i hi, pw_succ]
  simp only [val]
  have key := congrArg (fun u => u * pw i) ht
  simp only [Int.mul_zero, Int.add_zero] at *
  simp only [Int.add_mul, Int.mul_add, Int.sub_mul, Int.mul_assoc, Int.mul_comm, Int.mul_left_comm] at *
  omega

theorem half_step (us xs : List Int) (i : Nat) (z m : Int) (hl : us.length = i) (hi : i < xs.length) (h : 2 * val us + m = val (xs.take i) + xs.getD i 0 % 2 * pw i) (ht : 2 * z = xs.getD i 0 - xs.getD i 0 % 2 + xs.getD (i + 1) 0 % 2 * 4294967296) :
    2 * val (us ++ [z]) + m = val (xs.take (i + 1)) + xs.getD (i + 1) 0 % 2 * pw (i + 1) := by
  rw [val_append, hl, val_take_succ xs i hi, pw_succ]
  simp only [val]
  generalize xs.getD i 0 % 2 = r at *
  generalize xs.getD (i + 1) 0 % 2 = s at *
  generalize xs.getD i 0 = x at *
  have key := congrArg (fun u => u * pw i) ht
  simp only [Int.mul_zero, Int.add_zero] at *
  simp only [Int.add_mul, Int.mul_add, Int.sub_mul, Int.mul_assoc, Int.mul_comm, Int.mul_left_comm] at *
  omega

theorem val_mod2 (xs : List Int) : val xs % 2 = xs.getD 0 0 % 2 := by
  cases xs with
  | nil => rfl
  | cons x xs => simp only [val, List.getD_cons_zero]; omega

/-- Half of limbs. -/
theorem half_end (us xs : List Int) (h : 2 * val us + xs.getD 0 0 % 2 = val (xs.take xs.length) + xs.getD xs.length 0 % 2 * pw xs.length) : val us = val xs / 2 := by
  have e : xs.getD xs.length 0 = 0 := by simp [List.getD]
  rw [e, List.take_length, ← val_mod2] at h
  simp at h
  omega

/-- The number without its j lowest bits. -/
def sh (A : Int) (j : Nat) : Int := A / p2 j
theorem sh_zero (A : Int) : sh A 0 = A := by unfold sh p2; simp
theorem sh_bits {A : Int} {b : Nat} (h : isBits A b) : sh A b = 0 := by
  unfold sh
  rcases h with ⟨rfl, _⟩ | ⟨h1, h2, h3⟩
  · simp
  · exact Int.ediv_eq_zero_of_lt (by have := p2_pos (b - 1); omega) h3
theorem sh_succ (A : Int) (j : Nat) : sh A (j + 1) = sh A j / 2 := by
  unfold sh
  rw [p2_succ, Int.mul_comm, ← Int.ediv_ediv_of_nonneg (Int.le_of_lt (p2_pos j))]
theorem sh_step (A : Int) (j : Nat) : sh A j = 2 * sh A (j + 1) + sh A j % 2 := by rw [sh_succ]; omega
theorem sh_nonneg {A : Int} (h : 0 ≤ A) (j : Nat) : 0 ≤ sh A j := Int.ediv_nonneg h (Int.le_of_lt (p2_pos j))
theorem sh_le {A : Int} (h : 0 ≤ A) (j : Nat) : sh A j ≤ A := Int.ediv_le_self _ h

theorem sh_bit {xs : List Int} (h : lim xs) (i : Nat) (hi : i / 32 < xs.length) : sh (val xs) i % 2 = xs.getD (i / 32) 0 / 2 ^ (i % 32) % 2 := by
  have hx := lim_getD h (i / 32)
  have e1 := val_split xs (i / 32 + 1) (by omega)
  rw [val_take_succ xs _ hi, pw_succ] at e1
  have hb := val_bound (lim_take h (i / 32))
  rw [List.length_take, Nat.min_eq_left (by omega)] at hb
  have hp := pw_pos (i / 32)
  have e2 : p2 i = pw (i / 32) * 2 ^ (i % 32) := by
    rw [pw_p2]; unfold p2; rw [← Int.pow_add]; congr 1; omega
  unfold sh
  rw [e2, ← Int.ediv_ediv_of_nonneg (Int.le_of_lt hp)]
  generalize val (xs.drop (i / 32 + 1)) = D at *
  generalize xs.getD (i / 32) 0 = X at *
  generalize val (xs.take (i / 32)) = L at *
  have e3 : val xs / pw (i / 32) = X + 4294967296 * D := by
    have e4 : val xs = L + pw (i / 32) * (X + 4294967296 * D) := by
      rw [e1]; simp only [Int.add_mul, Int.mul_add, Int.mul_assoc, Int.mul_comm, Int.mul_left_comm]; omega
    rw [e4, Int.add_mul_ediv_left _ _ (by omega), Int.ediv_eq_zero_of_lt hb.1 hb.2]; omega
  rw [e3]
  have hj : i % 32 < 32 := Nat.mod_lt _ (by omega)
  generalize i % 32 = j at *
  obtain ⟨d, hd⟩ : ∃ d, 31 = j + d := ⟨31 - j, by omega⟩
  have e5 : (4294967296 : Int) = 2 ^ j * (2 * 2 ^ d) := by
    have : (2 : Int) ^ j * 2 ^ d = 2 ^ 31 := by rw [← Int.pow_add, ← hd]
    have e6 : (2 : Int) ^ j * (2 * 2 ^ d) = 2 * (2 ^ j * 2 ^ d) := by simp only [Int.mul_assoc, Int.mul_comm, Int.mul_left_comm]
    rw [e6, this]; rfl
  have hp2 : (0 : Int) < 2 ^ j := Int.pow_pos (by omega)
  rw [e5, Int.mul_assoc, Int.add_mul_ediv_left _ _ (by omega), Int.mul_assoc]
  omega

/-- One step of a division bit by bit. -/
theorem divBit_step (A B q r b : Int) (j : Nat) (h : sh A (j + 1) = q * B + r) (hb : b = sh A j % 2) :
    sh A j = (2 * q) * B + (2 * r + b) ∧ sh A j = (2 * q + 1) * B + (2 * r + b - B) := by
  have := sh_step A j
  rw [h, ← hb] at this
  rw [this]
  simp only [Int.add_mul, Int.mul_add, Int.mul_assoc]
  constructor <;> omega

theorem div_unique (A B q r q' r' : Int) (h : A = q * B + r) (h0 : 0 ≤ r) (h1 : r < B) (h' : A = q' * B + r') (h0' : 0 ≤ r') (h1' : r' < B) : q = q' ∧ r = r' := by
  have e : ∀ q r : Int, A = q * B + r → 0 ≤ r → r < B → r = A % B ∧ q = A / B := by
    intro q r h h0 h1
    rw [h]
    constructor
    · rw [Int.add_comm, Int.add_mul_emod_self_right, Int.emod_eq_of_lt h0 h1]
    · rw [Int.add_comm, Int.add_mul_ediv_right _ _ (by omega), Int.ediv_eq_zero_of_lt h0 h1]; omega
  obtain ⟨a1, a2⟩ := e q r h h0 h1
  obtain ⟨b1, b2⟩ := e q' r' h' h0' h1'
  exact ⟨a2.trans b2.symm, a1.trans b1.symm⟩

/-- The greatest divisor of two even numbers; of an even and an odd one; of a difference. -/
theorem gI_even2 (x y : Int) (hx : 0 ≤ x) (hy : 0 ≤ y) (h1 : x % 2 = 0) (h2 : y % 2 = 0) : gI x y = 2 * gI (x / 2) (y / 2) := by
  unfold gI
  have e1 : x.toNat = 2 * (x / 2).toNat := by omega
  have e2 : y.toNat = 2 * (y / 2).toNat := by omega
  rw [e1, e2, Nat.gcd_mul_left]; omega
theorem gI_even (x y : Int) (hx : 0 ≤ x) (hy : 0 ≤ y) (h1 : x % 2 = 0) (h2 : ¬ y % 2 = 0) : gI x y = gI (x / 2) y := by
  unfold gI
  have e1 : x.toNat = 2 * (x / 2).toNat := by omega
  have hc : Nat.Coprime 2 y.toNat := by
    have : y.toNat % 2 = 1 := by omega
    unfold Nat.Coprime
    rw [Nat.gcd_rec, this]
    rfl
  rw [e1, Nat.Coprime.gcd_mul_left_cancel _ hc]
theorem gI_even' (x y : Int) (hx : 0 ≤ x) (hy : 0 ≤ y) (h1 : y % 2 = 0) (h2 : ¬ x % 2 = 0) : gI x y = gI x (y / 2) := by
  rw [gI_comm, gI_even y x hy hx h1 h2, gI_comm]
theorem gI_sub (x y : Int) (hy : 0 ≤ y) (h : y ≤ x) : gI x y = gI (x - y) y := by
  unfold gI
  have e : x.toNat = (x - y).toNat + y.toNat := by omega
  rw [e, Nat.gcd_add_self_left]
theorem gI_sub' (x y : Int) (hx : 0 ≤ x) (h : x ≤ y) : gI x y = gI x (y - x) := by
  rw [gI_comm, gI_sub y x hx h, gI_comm]
theorem gI_p2 (t : Nat) (x y : Int) (hx : 0 ≤ x) (hy : 0 ≤ y) : gI (p2 t * x) (p2 t * y) = p2 t * gI x y := by
  obtain ⟨a, rfl⟩ := Int.eq_ofNat_of_zero_le hx
  obtain ⟨b, rfl⟩ := Int.eq_ofNat_of_zero_le hy
  have e : p2 t = ((2 ^ t : Nat) : Int) := by unfold p2; simp
  unfold gI
  rw [e, ← Int.natCast_mul, ← Int.natCast_mul]
  simp only [Int.toNat_natCast]
  rw [Nat.gcd_mul_left, Int.natCast_mul]
end Go.Proofs.YtibciilhfpgjjaaDoor
