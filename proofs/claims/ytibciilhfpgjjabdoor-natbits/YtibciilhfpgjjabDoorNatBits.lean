/- The statement NatBits' walk: a product has as many bits as both together, or one less. -/
import Derived.Test.YtibciilhfpgjjabDoorBits
namespace Go.Proofs.YtibciilhfpgjjabDoor
set_option linter.unusedVariables false
set_option linter.unusedSimpArgs false
open Go.RowKit

theorem isBits_nonneg_zero {v : Int} {b : Nat} (h : isBits v b) : b = 0 ↔ v = 0 := by
  rcases h with ⟨h1, h2⟩ | ⟨h1, h2, h3⟩
  · exact ⟨fun _ => h1, fun _ => h2⟩
  · have := p2_pos (b - 1)
    exact ⟨fun h => by omega, fun h => by omega⟩

theorem isBits_mul {x y : Int} {b c n : Nat} (hb : isBits x b) (hc : isBits y c) (hn : isBits (x * y) n) (b0 : ¬ b = 0) (c0 : ¬ c = 0) : n = b + c ∨ n = b + c - 1 := by
  rcases hb with ⟨_, h⟩ | ⟨b1, b2, b3⟩
  · exact absurd h b0
  rcases hc with ⟨_, h⟩ | ⟨c1, c2, c3⟩
  · exact absurd h c0
  have px := p2_pos (b - 1)
  have py := p2_pos (c - 1)
  have lo : p2 (b - 1) * p2 (c - 1) ≤ x * y := Int.le_trans (Int.mul_le_mul_of_nonneg_right b2 (Int.le_of_lt py)) (Int.mul_le_mul_of_nonneg_left c2 (by omega))
  have hi : x * y < p2 b * p2 c := by
    have h1 : x * y ≤ p2 b * y := Int.mul_le_mul_of_nonneg_right (Int.le_of_lt b3) (by omega)
    have h2 : p2 b * y < p2 b * p2 c := Int.mul_lt_mul_of_pos_left c3 (p2_pos b)
    omega
  rw [← p2_add] at lo hi
  have pl := p2_pos (b - 1 + (c - 1))
  rcases hn with ⟨h, _⟩ | ⟨n1, n2, n3⟩
  · omega
  · have u : n ≤ b + c := by
      by_cases h : n ≤ b + c
      · exact h
      · have := p2_mono (j := b + c) (k := n - 1) (by omega); omega
    have l : b + c - 1 ≤ n := by
      by_cases h : b + c - 1 ≤ n
      · exact h
      · have := p2_mono (j := n) (k := b - 1 + (c - 1)) (by omega); omega
    omega

set_option maxRecDepth 100000 in
set_option maxHeartbeats 3200000 in
theorem natBits_walk {w : World} {v1 v2 : Value} {x1 x2 : List Int} (h1 : Rd w.heap.size w v1 x1) (h2 : Rd w.heap.size w v2 x2) (htab : Lib.TabIs Tryd.prog w "internal/strconv.uint64pow10" .u64 Lib.pow10Tab) :
    Calls Tryd.prog 5 #[v1, v2] w fun e w' => e = .returned (.bool true) ∧ Below w.heap.size w w' := by
  go_enter Tryd.func5, Tryd.ntmps5
  go_wp2_with fail
  refine (few_rd h1).mono ?_
  rintro e w' ⟨y1, p1, q1, _, l1, rfl, r1, rfl⟩
  go_wp2_with fail
  refine (few_rd h2).mono ?_
  rintro e w' ⟨y2, p2', q2, _, l2, rfl, r2, rfl⟩
  clear h1 h2
  go_wp2_with fail
  refine (prod2 r1 r2 (Nat.le_refl _) (Nat.le_refl _) (by omega) (by omega)).mono ?_
  rintro e wa ⟨za, ca, va, la, aa, qa, rfl, oa, ba⟩
  have sa := ba.size
  go_wp2_with fail
  refine (bits_any oa.rd (by omega)).mono ?_
  rintro e w' ⟨n, rfl, hn, ln, rfl⟩
  rw [va] at hn
  have HN : Hid (isBits (val y1 * val y2) n) := hn
  clear hn va
  have t1 := r1.below ba
  have t2 := r2.below ba
  have htab' := tabIs_below htab ba
  go_wp2_with fail
  refine (bits_any t1 (by omega)).mono ?_
  rintro e w' ⟨b1, rfl, hb1, lb1, rfl⟩
  have HB1 : Hid (isBits (val y1) b1) := hb1
  clear hb1
  by_cases z1 : b1 = 0
  · have n0 : n = 0 := by
      have := (isBits_nonneg_zero HB1.out).1 z1
      exact (isBits_nonneg_zero HN.out).2 (by rw [this]; simp)
    subst z1 n0
    go_wp2_with fail
    refine (live_any _ htab').mono ?_
    rintro e wb ⟨rfl, bb⟩
    go_wp2
    go_ret
    exact ⟨rfl, ba.trans (bb.mono sa)⟩
  · have z1b : (((b1 : Nat) : Int) == 0) = false := by simp; omega
    go_wp2_with fail
    refine (bits_any t2 (by omega)).mono ?_
    rintro e w' ⟨b2, rfl, hb2, lb2, rfl⟩
    have HB2 : Hid (isBits (val y2) b2) := hb2
    clear hb2
    by_cases z2 : b2 = 0
    · have n0 : n = 0 := by
        have := (isBits_nonneg_zero HB2.out).1 z2
        exact (isBits_nonneg_zero HN.out).2 (by rw [this]; simp)
      subst z2 n0
      go_wp2_with fail
      refine (live_any _ htab').mono ?_
      rintro e wb ⟨rfl, bb⟩
      go_wp2
      go_ret
      exact ⟨rfl, ba.trans (bb.mono sa)⟩
    · have z2b : (((b2 : Nat) : Int) == 0) = false := by simp; omega
      have hmul := isBits_mul HB1.out HB2.out HN.out z1 z2
      go_wp2_with fail
      refine (live_any _ htab').mono ?_
      rintro e wb ⟨rfl, bb⟩
      have bb' := ba.trans (bb.mono sa)
      go_wp2_with fail
      refine (bits_any (r1.below bb') (by omega)).mono ?_
      rintro e w' ⟨b3, rfl, hb3, _, rfl⟩
      have e3 : b3 = b1 := isBits_unique hb3 HB1.out (val_bound r1.lim).1
      subst e3
      go_wp2_with fail
      refine (bits_any (r2.below bb') (by omega)).mono ?_
      rintro e w' ⟨b4, rfl, hb4, _, rfl⟩
      have e4 : b4 = b2 := isBits_unique hb4 HB2.out (val_bound r2.lim).1
      subst e4
      by_cases hm : n = b3 + b4
      · have hmb : ((n : Int) == (b3 : Int) + (b4 : Int)) = true := by simp; omega
        go_wp2
        go_ret
        exact ⟨rfl, bb'⟩
      · have hmb : ((n : Int) == (b3 : Int) + (b4 : Int)) = false := by simp; omega
        have hmc : ((n : Int) == (b3 : Int) + (b4 : Int) - 1) = true := by simp; omega
        go_wp2_with fail
        refine (bits_any (r1.below bb') (by omega)).mono ?_
        rintro e w' ⟨b5, rfl, hb5, _, rfl⟩
        have e5 : b5 = b3 := isBits_unique hb5 HB1.out (val_bound r1.lim).1
        subst e5
        go_wp2_with fail
        refine (bits_any (r2.below bb') (by omega)).mono ?_
        rintro e w' ⟨b6, rfl, hb6, _, rfl⟩
        have e6 : b6 = b4 := isBits_unique hb6 HB2.out (val_bound r2.lim).1
        subst e6
        go_wp2
        go_ret
        exact ⟨rfl, bb'⟩
end Go.Proofs.YtibciilhfpgjjabDoor
