/- nat.Bits: how many bits a number has. -/
import Derived.Test.YtibciilhfpgjjadDoorLists
namespace Go.Proofs.YtibciilhfpgjjadDoor
set_option linter.unusedVariables false
set_option linter.unusedSimpArgs false
open Go.RowKit

def p2 (k : Nat) : Int := 2 ^ k
theorem p2_add (j k : Nat) : p2 (j + k) = p2 j * p2 k := by unfold p2; rw [Int.pow_add]
theorem p2_succ (k : Nat) : p2 (k + 1) = 2 * p2 k := by unfold p2; rw [Int.pow_succ, Int.mul_comm]
theorem p2_pos (k : Nat) : 0 < p2 k := by
  induction k with
  | zero => decide
  | succ k ih => rw [p2_succ]; omega
theorem p2_mono {j k : Nat} (h : j ≤ k) : p2 j ≤ p2 k := by
  induction h with
  | refl => exact Int.le_refl _
  | step _ ih => rw [p2_succ]; have := p2_pos j; omega
theorem pw_p2 (k : Nat) : pw k = p2 (32 * k) := by
  induction k with
  | zero => rfl
  | succ k ih =>
    rw [pw_succ, ih, show 32 * (k + 1) = 32 + 32 * k by omega, p2_add]
    rfl

/-- v has b bits. -/
def isBits (v : Int) (b : Nat) : Prop := (v = 0 ∧ b = 0) ∨ (1 ≤ b ∧ p2 (b - 1) ≤ v ∧ v < p2 b)

theorem isBits_le {v u : Int} {b c : Nat} (h : isBits v b) (k : isBits u c) (hv : v ≤ u) (h0 : 0 ≤ v) : b ≤ c := by
  rcases h with ⟨_, rfl⟩ | ⟨h1, h2, h3⟩
  · omega
  · rcases k with ⟨rfl, _⟩ | ⟨k1, k2, k3⟩
    · have := p2_pos (b - 1); omega
    · by_cases hbc : b ≤ c
      · exact hbc
      · have := p2_mono (j := c) (k := b - 1) (by omega)
        omega
theorem isBits_unique {v : Int} {b c : Nat} (h : isBits v b) (k : isBits v c) (h0 : 0 ≤ v) : b = c :=
  Nat.le_antisymm (isBits_le h k (Int.le_refl _) h0) (isBits_le k h (Int.le_refl _) h0)

theorem bitLen_is (x : Nat) (h : x < 4294967296) : isBits (x : Int) (Lib.bitLen x) := by
  by_cases h0 : x = 0
  · subst h0; exact Or.inl ⟨rfl, rfl⟩
  · right
    have h64 : x < 2 ^ 64 := Nat.lt_of_lt_of_le h (by decide)
    obtain ⟨h1, h2, h3⟩ := Lib.bitLenAux_bounds 64 x h64 h0
    have e : Lib.bitLenAux 64 x = Lib.bitLen x := rfl
    rw [e] at h1 h2 h3
    refine ⟨h1, ?_, ?_⟩
    · unfold p2
      have : ((2 ^ (Lib.bitLen x - 1) : Nat) : Int) ≤ (x : Int) := by exact_mod_cast h2
      simpa using this
    · unfold p2
      have : (x : Int) < ((2 ^ Lib.bitLen x : Nat) : Int) := by exact_mod_cast h3
      simpa using this

theorem isBits_top (xs : List Int) (k t : Nat) (hl : lim xs) (hk : xs.length = k + 1) (h0 : ¬ xs.getD k 0 = 0) (ht : isBits (xs.getD k 0) t) : isBits (val xs) (32 * k + t) ∧ t ≤ 32 := by
  have e : xs = xs.take (k + 1) := by rw [← hk, List.take_length]
  have h1 : val xs = val (xs.take k) + xs.getD k 0 * pw k := by rw [← val_take_succ xs k (by omega), ← e]
  have h2 := val_bound (lim_take hl k)
  have lk : (xs.take k).length = k := by simp; omega
  rw [lk] at h2
  have h3 := lim_getD hl k
  have hp := pw_pos k
  rcases ht with ⟨h, _⟩ | ⟨ht1, ht2, ht3⟩
  · exact absurd h h0
  · constructor
    · right
      refine ⟨by omega, ?_, ?_⟩
      · have : p2 (t - 1) * pw k ≤ xs.getD k 0 * pw k := Int.mul_le_mul_of_nonneg_right ht2 (Int.le_of_lt hp)
        rw [show 32 * k + t - 1 = (t - 1) + 32 * k by omega, p2_add, ← pw_p2, h1]
        omega
      · have : (xs.getD k 0 + 1) * pw k ≤ p2 t * pw k := Int.mul_le_mul_of_nonneg_right (by omega) (Int.le_of_lt hp)
        rw [Int.add_mul, Int.one_mul] at this
        rw [show 32 * k + t = t + 32 * k by omega, p2_add, ← pw_p2, h1]
        omega
    · by_cases h : t ≤ 32
      · exact h
      · have := p2_mono (j := 32) (k := t - 1) (by omega)
        have e32 : p2 32 = 4294967296 := by decide
        omega

set_option maxHeartbeats 400000 in
theorem bits_zero (v1 : Value) (a : Option Addr) (c : Nat) (w : World) (h1 : Says1 Tryd.prog 44 v1 w (.slice a 0 c)) :
    Calls Tryd.prog 56 #[v1] w fun e w' => e = .returned (.int .i64 0) ∧ w = w' := by
  go_enter Tryd.func56, Tryd.ntmps56
  go_wp2_with fail
  refine (h1).mono ?_
  rintro e w' ⟨rfl, rfl⟩
  go_wp2
  go_ret
  exact ⟨rfl, rfl⟩

set_option maxHeartbeats 400000 in
theorem bits_some (v1 : Value) (b o c k : Nat) (t : Int) (w : World) (ht : 0 ≤ t ∧ t < 4294967296) (hk : k ≤ 17592186044415) (hc : w.cell? ⟨b, o + k, none⟩ = some (.int .u32 t)) (hb : Lib.bitLen t.toNat ≤ 32) (h1 : Says1 Tryd.prog 44 v1 w (.slice (some ⟨b, o, none⟩) (k + 1) c)) :
    Calls Tryd.prog 56 #[v1] w fun e w' => e = .returned (.int .i64 ((32 * k + Lib.bitLen t.toNat : Nat) : Int)) ∧ w = w' := by
  have hlen := Tryd.bits_Len32 t w ht.1 (by omega)
  generalize Lib.bitLen t.toNat = l at *
  have t0 : (((k : Nat) : Int) + 1 == 0) = false := by simp; omega
  go_enter Tryd.func56, Tryd.ntmps56
  go_wp2_with fail
  refine (h1).mono ?_
  rintro e w' ⟨rfl, rfl⟩
  go_wp2_with fail
  refine hlen.mono ?_
  rintro e w' ⟨rfl, hw⟩
  subst hw
  go_wp2
  go_ret
  exact ⟨ret_int (by simp), rfl⟩

/-- nat.Bits at whatever slice of limbs. -/
theorem bits_any {B : Nat} {w : World} {v : Value} {xs : List Int} (h : Rd B w v xs) (hn : xs.length ≤ 17592186044415) :
    Calls Tryd.prog 56 #[v] w fun e w' => ∃ b : Nat, e = .returned (.int .i64 b) ∧ isBits (val xs) b ∧ b ≤ 32 * xs.length ∧ w = w' := by
  have m := meant_rd h
  have t := h.meant
  have hs := tr_length_le xs
  have ct := tr_can h.lim
  rw [← tr_length] at m t
  have hv := val_tr xs
  obtain ⟨hl, a, p, e, _, _, hn2, r⟩ := t
  rw [e] at m
  generalize tr xs = us at *
  by_cases h0 : us.length = 0
  · have hz := (can_zero ct).1 h0
    rw [h0] at m
    refine (bits_zero v a p w m).mono ?_
    rintro e w' ⟨rfl, rfl⟩
    exact ⟨0, rfl, Or.inl ⟨by rw [← hv]; exact hz, rfl⟩, by omega, rfl⟩
  · obtain ⟨k, hk⟩ : ∃ k, us.length = k + 1 := ⟨us.length - 1, by omega⟩
    rcases r with r | ⟨b, o, rfl, _, hc⟩
    · exact absurd r h0
    · have hck := hc k (by omega)
      have rk := lim_getD hl k
      have hne : ¬ us.getD k 0 = 0 := by
        rcases ct.2 with h | h
        · omega
        · rw [hk] at h; simpa using h
      have hbl := bitLen_is (us.getD k 0).toNat (by omega)
      rw [Int.toNat_of_nonneg rk.1] at hbl
      have htop := isBits_top us k _ hl hk hne hbl
      rw [hk] at m
      refine (bits_some v b o p k (us.getD k 0) w rk (by omega) hck htop.2 m).mono ?_
      rintro e w' ⟨rfl, rfl⟩
      exact ⟨_, rfl, by rw [← hv]; exact htop.1, by omega, rfl⟩
end Go.Proofs.YtibciilhfpgjjadDoor
