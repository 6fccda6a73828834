/- nat.word: what at most two limbs say; nat.wordGcd: the greatest common divisor of two words. -/
import Derived.Test.YtibciilhfpgjjadDoorByAny
namespace Go.Proofs.YtibciilhfpgjjadDoor
set_option linter.unusedVariables false
set_option linter.unusedSimpArgs false
open Go.RowKit

theorem wor_zero_left (x : Int) (h : 0 ≤ x ∧ x < 18446744073709551616) : bits .or .u64 0 x = x := by
  obtain ⟨a, rfl⟩ := Int.eq_ofNat_of_zero_le h.1
  have := bits_or_u64_nat 0 a (by omega) (by omega)
  rw [Nat.zero_or] at this
  exact this
theorem wor_add_right (q v : Int) (hq : 0 ≤ q ∧ q < 4294967296) (hv : 0 ≤ v ∧ v < 4294967296) : bits .or .u64 v (q * 4294967296) = v + q * 4294967296 := by
  obtain ⟨a, rfl⟩ := Int.eq_ofNat_of_zero_le hq.1
  obtain ⟨b, rfl⟩ := Int.eq_ofNat_of_zero_le hv.1
  have e : ((a : Int) * 4294967296) = ((a * 4294967296 : Nat) : Int) := by omega
  rw [e, bits_or_u64_nat _ _ (by omega) (by omega)]
  have h : b ||| a * 4294967296 = a * 4294967296 + b := by
    have := Nat.two_pow_add_eq_or_of_lt (i := 32) (b := b) (by omega) a
    rw [Nat.mul_comm, Nat.or_comm]
    exact this.symm
  rw [h]; omega

set_option maxHeartbeats 800000 in
theorem wd_two (b o c : Nat) (x y : Int) (w : World) (hx : 0 ≤ x ∧ x < 4294967296) (hy : 0 ≤ y ∧ y < 4294967296) (k1 : w.cell? ⟨b, o, none⟩ = some (.int .u32 x)) (k2 : w.cell? ⟨b, o + 1, none⟩ = some (.int .u32 y)) :
    Calls Tryd.prog 76 #[.slice (some ⟨b, o, none⟩) 2 c] w fun e w' => e = .returned (.int .u64 (x + y * 4294967296)) ∧ w = w' := by
  have e1 := wor_zero_left x (by omega)
  have e2 := wor_add_right y x hy hx
  go_enter Tryd.func76, Tryd.ntmps76
  go_wp2
  refine wp_loop_rounds 3 ?_
  rw [rounds_succ]
  go_wp2
  rw [rounds_succ]
  go_wp2
  rw [rounds_succ]
  go_wp2
  go_ret
  exact ⟨rfl, rfl⟩

set_option maxHeartbeats 800000 in
theorem wd_one (b o c : Nat) (x : Int) (w : World) (hx : 0 ≤ x ∧ x < 4294967296) (k1 : w.cell? ⟨b, o, none⟩ = some (.int .u32 x)) :
    Calls Tryd.prog 76 #[.slice (some ⟨b, o, none⟩) 1 c] w fun e w' => e = .returned (.int .u64 x) ∧ w = w' := by
  have e1 := wor_zero_left x (by omega)
  go_enter Tryd.func76, Tryd.ntmps76
  go_wp2
  refine wp_loop_rounds 2 ?_
  rw [rounds_succ]
  go_wp2
  rw [rounds_succ]
  go_wp2
  go_ret
  exact ⟨rfl, rfl⟩
theorem wd_zero (a : Option Addr) (c : Nat) (w : World) :
    Calls Tryd.prog 76 #[.slice a 0 c] w fun e w' => e = .returned (.int .u64 0) ∧ w = w' := by
  go_enter Tryd.func76, Tryd.ntmps76
  go_wp2
  refine wp_loop_rounds 1 ?_
  rw [rounds_succ]
  go_wp2
  go_ret
  exact ⟨rfl, rfl⟩

/-- nat.word of at most two limbs: the number. -/
theorem wd_rd {B : Nat} {w : World} {v : Value} {xs : List Int} (h : Rd B w v xs) (h2 : xs.length ≤ 2) :
    Calls Tryd.prog 76 #[v] w fun e w' => e = .returned (.int .u64 (val xs)) ∧ w = w' := by
  obtain ⟨hl, a, c, rfl, _, _, _, r⟩ := h
  match xs, h2 with
  | [], _ => exact wd_zero a c w
  | [x], _ =>
    rcases r with r | ⟨b, o, rfl, _, k⟩
    · simp at r
    · have e : val [x] = x := by simp [val]
      rw [e]
      exact wd_one b o c x w (hl x (by simp)) (k 0 (by simp))
  | [x, y], _ =>
    rcases r with r | ⟨b, o, rfl, _, k⟩
    · simp at r
    · have e : val [x, y] = x + y * 4294967296 := by simp [val]; rw [Int.mul_comm]
      rw [e]
      exact wd_two b o c x y w (hl x (by simp)) (hl y (by simp)) (k 0 (by simp)) (k 1 (by simp))

/-- The greatest common divisor of numbers from 0 on. -/
def gI (a b : Int) : Int := ((Nat.gcd a.toNat b.toNat : Nat) : Int)
theorem gI_zero (x : Int) (h : 0 ≤ x) : gI x 0 = x := by unfold gI; simp; omega
theorem gI_comm (x y : Int) : gI x y = gI y x := by unfold gI; rw [Nat.gcd_comm]
theorem gI_nonneg (x y : Int) : 0 ≤ gI x y := by unfold gI; omega
theorem gI_step (x y : Int) (hx : 0 ≤ x) (hy : 0 ≤ y) : gI x y = gI y (x % y) := by
  obtain ⟨a, rfl⟩ := Int.eq_ofNat_of_zero_le hx
  obtain ⟨b, rfl⟩ := Int.eq_ofNat_of_zero_le hy
  unfold gI
  have e : ((a : Int) % (b : Int)) = ((a % b : Nat) : Int) := by simp
  rw [e]
  simp only [Int.toNat_natCast]
  rw [Nat.gcd_comm a b, Nat.gcd_rec b a, Nat.gcd_comm]
theorem gI_of (x y q r : Int) (hx : 0 ≤ x) (hy : 0 ≤ y) (h : x = q * y + r) (h0 : 0 ≤ r) (h1 : r < y) : gI x y = gI y r := by
  rw [gI_step x y hx hy]
  have : x % y = r := by rw [h, Int.add_comm, Int.add_mul_emod_self_right, Int.emod_eq_of_lt h0 h1]
  rw [this]
theorem gI_le (x y : Int) (hx : 0 ≤ x) (hy : 0 ≤ y) : gI x y ≤ x + y := by
  unfold gI
  by_cases h : x.toNat = 0
  · rw [h, Nat.gcd_zero_left]; omega
  · have := Nat.gcd_le_left y.toNat (Nat.pos_of_ne_zero h); omega

set_option maxHeartbeats 800000 in
theorem wordGcd_any {w : World} (a b : Int) (ha : 0 ≤ a ∧ a < 18446744073709551616) (hb : 0 ≤ b ∧ b < 18446744073709551616) :
    Calls Tryd.prog 75 #[.int .u64 a, .int .u64 b] w fun e w' => e = .returned (.int .u64 (gI a b)) ∧ ∃ k, w' = w.drewN k := by
  go_enter Tryd.func75, Tryd.ntmps75
  go_wp2
  go_loopw [0, 1] (fun r s wr => ∃ x y : Int, r = .int .u64 x ∧ s = .int .u64 y ∧ 0 ≤ x ∧ x < 18446744073709551616 ∧ 0 ≤ y ∧ y < 18446744073709551616 ∧ Hid (gI x y = gI a b) ∧ ∃ k, wr = w.drewN k)
    (fun _ s _ => (intOf s).toNat)
  case atStart => exact ⟨a, b, rfl, rfl, ha.1, ha.2, hb.1, hb.2, rfl, 0, rfl⟩
  case round =>
    obtain ⟨x, y, rfl, rfl, hx0, hx1, hy0, hy1, hg, k, rfl⟩ := hrel
    by_cases hz : 0 < y
    · have hyb : (y == 0) = false := by simp; omega
      have m0 : 0 ≤ x % y := Int.emod_nonneg _ (by omega)
      have m1 : x % y < y := Int.emod_lt_of_pos _ hz
      go_wp2
      go_quiet (fail)
      go_wp2
      go_roundw
      case rel => exact ⟨y, x % y, rfl, rfl, hy0, hy1, m0, by omega, by unfold Hid; rw [← gI_step x y hx0 hy0]; exact hg.out, _, World.drewN_drewN _ _ _⟩
      case measure => simp [intOf]; omega
    · obtain rfl : y = 0 := by omega
      have hgx := hg.out
      rw [gI_zero x hx0] at hgx
      have HGX : Hid (x = gI a b) := hgx
      clear hgx
      go_wp2
      go_ret
      exact ⟨ret_int HGX.out, k, rfl⟩
end Go.Proofs.YtibciilhfpgjjadDoor
