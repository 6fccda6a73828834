/- Plain facts on decimal digits: what number they say; how the digits of a number lie in groups of nine. No program is named. -/
import Derived.Lib.ItoaNum
namespace Go.Proofs.YtibciilhfpgjjaaDoor
set_option linter.unusedVariables false
set_option linter.unusedSimpArgs false
open Go.Lib

/-- The number that digits say. -/
def dval (l : List UInt8) : Nat := l.foldl (fun a b => a * 10 + (b.toNat - 48)) 0
/-- Each one a digit. -/
def digs (l : List UInt8) : Prop := ∀ b ∈ l, 48 ≤ b.toNat ∧ b.toNat ≤ 57

theorem dval_from (l : List UInt8) (a : Nat) : l.foldl (fun a b => a * 10 + (b.toNat - 48)) a = a * 10 ^ l.length + dval l := by
  induction l generalizing a with
  | nil => simp [dval]
  | cons b l ih =>
    unfold dval
    simp only [List.foldl_cons, List.length_cons]
    rw [ih, ih (0 * 10 + (b.toNat - 48)), Nat.pow_succ]
    simp only [Nat.zero_mul, Nat.zero_add, Nat.add_mul, Nat.mul_assoc, Nat.mul_comm 10]
    omega
theorem dval_append (k l : List UInt8) : dval (k ++ l) = dval k * 10 ^ l.length + dval l := by
  show (k ++ l).foldl _ 0 = _
  rw [List.foldl_append, dval_from]; rfl
theorem dval_snoc (l : List UInt8) (b : UInt8) : dval (l ++ [b]) = dval l * 10 + (b.toNat - 48) := by
  rw [dval_append]; simp [dval]
theorem dval_nil : dval [] = 0 := rfl

theorem digit_toNat (d : Nat) (h : d < 10) : (UInt8.ofNat (48 + d)).toNat = 48 + d := by
  rw [UInt8.toNat_ofNat']; omega

theorem dval_decDigits (u : Nat) : dval (decDigits u) = u ∧ digs (decDigits u) ∧ 0 < (decDigits u).length := by
  induction u using Nat.strongRecOn with
  | _ u ih =>
    by_cases h : u < 10
    · rw [decDigits, dif_pos h]
      refine ⟨?_, ?_, by simp⟩
      · simp only [dval, List.foldl_cons, List.foldl_nil, digit_toNat u h]; omega
      · intro b hb
        rw [List.mem_singleton] at hb; subst hb
        rw [digit_toNat u h]; omega
    · rw [decDigits, dif_neg h]
      obtain ⟨h1, h2, h3⟩ := ih (u / 10) (by omega)
      refine ⟨?_, ?_, by simp⟩
      · rw [dval_snoc, h1, digit_toNat _ (by omega)]; omega
      · intro b hb
        rw [List.mem_append] at hb
        rcases hb with hb | hb
        · exact h2 b hb
        · rw [List.mem_singleton] at hb; subst hb
          rw [digit_toNat _ (by omega)]; omega

/-- The k lowest digits of a number. -/
def low (k g : Nat) : List UInt8 := match k with
  | 0 => []
  | k + 1 => low k (g / 10) ++ [UInt8.ofNat (48 + g % 10)]
theorem low_length (k g : Nat) : (low k g).length = k := by
  induction k generalizing g with
  | zero => rfl
  | succ k ih => simp [low, ih]
/-- A number's digits: those of its upper part, and the k lowest. -/
theorem decDigits_low (k h g : Nat) (hh : 1 ≤ h) : decDigits (h * 10 ^ k + g % 10 ^ k) = decDigits h ++ low k g := by
  induction k generalizing g with
  | zero => simp [low, Nat.mod_one]
  | succ k ih =>
    have hp : 1 ≤ 10 ^ k := Nat.one_le_pow _ _ (by decide)
    have hm : g % 10 ^ (k + 1) = 10 * (g / 10 % 10 ^ k) + g % 10 := by
      rw [Nat.pow_succ, Nat.mul_comm, Nat.mod_mul]; omega
    have e1 : (h * 10 ^ (k + 1) + g % 10 ^ (k + 1)) / 10 = h * 10 ^ k + g / 10 % 10 ^ k := by
      rw [hm, Nat.pow_succ, ← Nat.mul_assoc]; omega
    have e2 : (h * 10 ^ (k + 1) + g % 10 ^ (k + 1)) % 10 = g % 10 := by
      rw [hm, Nat.pow_succ, ← Nat.mul_assoc]; omega
    have hge : ¬ h * 10 ^ (k + 1) + g % 10 ^ (k + 1) < 10 := by
      rw [Nat.pow_succ, ← Nat.mul_assoc]
      have : 1 ≤ h * 10 ^ k := Nat.mul_le_mul hh hp
      omega
    rw [decDigits, dif_neg hge, e1, e2, ih (g / 10)]
    show _ = decDigits h ++ (low k (g / 10) ++ [_])
    rw [List.append_assoc]
theorem low_zero (k : Nat) : low k 0 = List.replicate k 48 := by
  induction k with
  | zero => rfl
  | succ k ih => simp only [low, ih, Nat.zero_div]; rw [List.replicate_succ']; rfl
/-- The k lowest digits of a number that has no more: noughts, and its digits. -/
theorem low_pad (k g : Nat) (hk : 1 ≤ k) (hg : g < 10 ^ k) : low k g = List.replicate (k - (decDigits g).length) 48 ++ decDigits g := by
  induction k generalizing g with
  | zero => omega
  | succ k ih =>
    by_cases h : g < 10
    · rw [decDigits, dif_pos h]
      simp only [low]
      rw [Nat.div_eq_of_lt h, Nat.mod_eq_of_lt h, low_zero]
      rfl
    · rw [decDigits, dif_neg h]
      simp only [low]
      have hk1 : 1 ≤ k := by
        by_cases h0 : k = 0
        · subst h0; simp at hg; omega
        · omega
      rw [ih (g / 10) hk1 (by rw [Nat.pow_succ] at hg; omega), List.append_assoc]
      congr 2
      simp
theorem decDigits_le (k g : Nat) (hk : 1 ≤ k) (hg : g < 10 ^ k) : (decDigits g).length ≤ k := by
  have h1 := low_length k g
  rw [low_pad k g hk hg, List.length_append, List.length_replicate] at h1
  omega
end Go.Proofs.YtibciilhfpgjjaaDoor
