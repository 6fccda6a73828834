/- nat.Right, nat.Small and the document's Right, Small, Bits; the statements' helpers own and kept. -/
import Derived.Test.YtibciilhfpgjjaaDoorRef2
namespace Go.Proofs.YtibciilhfpgjjaaDoor
set_option linter.unusedVariables false
set_option linter.unusedSimpArgs false
open Go.RowKit

/-- Are limbs right? -/
def rightB (xs : List Int) : Bool := decide ((tr xs).length = xs.length)

set_option maxHeartbeats 400000 in
theorem right_any {B : Nat} {w : World} {v : Value} {xs : List Int} (h : Rd B w v xs) :
    Calls Tryd.prog 14 #[v] w fun e w' => e = .returned (.bool (rightB xs)) ∧ w = w' := by
  have m := meant_rd h
  have hle := tr_length_le xs
  rw [← tr_length] at m
  obtain ⟨_, a, c, rfl, hc, hb, _, _⟩ := h
  have m' : Says1 Tryd.prog 43 (.slice a xs.length c) w (.slice a (tr xs).length c) := m
  clear m
  have hr : rightB xs = decide ((tr xs).length = xs.length) := rfl
  rw [hr]
  generalize (tr xs).length = k at *
  generalize xs.length = n at *
  by_cases hk : k = n
  · have hkb : (((k : Nat) : Int) == ((n : Nat) : Int)) = true := by simp; omega
    go_enter Tryd.func14, Tryd.ntmps14
    go_wp2_with fail
    refine (m').mono ?_
    rintro e w' ⟨rfl, rfl⟩
    go_wp2
    go_ret
    exact ⟨ret_bool (by simp [hk]), rfl⟩
  · have hkb : (((k : Nat) : Int) == ((n : Nat) : Int)) = false := by simp; omega
    go_enter Tryd.func14, Tryd.ntmps14
    go_wp2_with fail
    refine (m').mono ?_
    rintro e w' ⟨rfl, rfl⟩
    go_wp2
    go_ret
    exact ⟨ret_bool (by simp [hk]), rfl⟩

theorem rightB_last (xs : List Int) (n : Nat) (hn : xs.length = n + 1) : rightB xs = !(xs.getD n 0 == 0) := by
  unfold rightB
  rw [tr_length, hn]
  by_cases h : xs.getD n 0 = 0
  · rw [tl_zero xs n h, h]
    have h1 := tl_le xs n
    have h2 : ¬ tl xs n = n + 1 := by omega
    simp [h2]
  · have h1 : (xs.getD n 0 == 0) = false := by simpa using h
    rw [tl_pos xs n h, h1]
    simp

set_option maxHeartbeats 400000 in
theorem refRight_any {B : Nat} {w : World} {v : Value} {xs : List Int} (h : Rd B w v xs) :
    Calls Tryd.prog 15 #[v] w fun e w' => e = .returned (.bool (rightB xs)) ∧ w = w' := by
  obtain ⟨_, a, c, rfl, hc, hb, _, r⟩ := h
  by_cases h0 : xs.length = 0
  · have e : xs = [] := List.eq_nil_of_length_eq_zero h0
    subst e
    go_enter Tryd.func15, Tryd.ntmps15
    go_wp2
    go_ret
    exact ⟨rfl, rfl⟩
  · obtain ⟨n, hn⟩ : ∃ n, xs.length = n + 1 := ⟨xs.length - 1, by omega⟩
    rcases r with r | ⟨b, o, rfl, _, k⟩
    · exact absurd r h0
    have hk := k n (by omega)
    rw [rightB_last xs n hn]
    rw [hn] at hc ⊢
    generalize xs.getD n 0 = t at *
    have t0 : (((n : Nat) : Int) + 1 == 0) = false := by simp; omega
    clear k hn h0
    by_cases ht : t = 0
    · subst ht
      go_enter Tryd.func15, Tryd.ntmps15
      go_wp2
      go_ret
      exact ⟨rfl, rfl⟩
    · have htb : (t != 0) = true := by rw [bne_iff_ne]; exact ht
      have htc : (t == 0) = false := by simpa using ht
      go_enter Tryd.func15, Tryd.ntmps15
      go_wp2
      go_ret
      exact ⟨ret_bool (by rw [htc]; rfl), rfl⟩

set_option maxHeartbeats 800000 in
theorem refBits_any {B : Nat} {w : World} {v : Value} {xs : List Int} (h : Rd B w v xs) (hn : xs.length ≤ 17592186044415) :
    Calls Tryd.prog 24 #[v] w fun e w' => ∃ b : Nat, e = .returned (.int .i64 b) ∧ isBits (val xs) b ∧ Below w.heap.size w w' := by
  have ct := tr_can h.lim
  have hle := tr_length_le xs
  have hv := val_tr xs
  go_enter Tryd.func24, Tryd.ntmps24
  go_wp2_with fail
  refine (refTrim_rd h (by omega)).mono ?_
  rintro e wa ⟨a1, q1, rfl, o1, ba⟩
  generalize tr xs = us at *
  by_cases h0 : us.length = 0
  · have hz := (can_zero ct).1 h0
    have e : us = [] := List.eq_nil_of_length_eq_zero h0
    subst e
    have HZ : Hid (val xs = 0) := by unfold Hid; rw [← hv]; rfl
    clear hz hv
    go_wp2
    go_ret
    exact ⟨0, rfl, Or.inl ⟨HZ.out, rfl⟩, ba⟩
  · obtain ⟨k, hk⟩ : ∃ k, us.length = k + 1 := ⟨us.length - 1, by omega⟩
    obtain ⟨lx, _, _, e1, _, _, _, r1⟩ := o1.rd
    rcases r1 with r1 | ⟨g1, f1, ea1, _, k1⟩
    · exact absurd r1 h0
    subst ea1
    cases e1
    have hck := k1 k (by omega)
    have rt := lim_getD lx k
    have hne : ¬ us.getD k 0 = 0 := by
      rcases ct.2 with h | h
      · omega
      · rw [hk] at h; simpa using h
    have htop := fun t => isBits_top us k t lx hk hne
    have HT : Hid (∀ t, isBits (us.getD k 0) t → isBits (val us) (32 * k + t) ∧ t ≤ 32) := htop
    have HV : Hid (val us = val xs) := hv
    have hkl : k ≤ 17592186044415 := by omega
    rw [hk]
    generalize us.getD k 0 = T at *
    clear htop hv k1 o1 hk h0 hne
    have kb : (((k : Nat) : Int) + 1 == 0) = false := by simp; omega
    go_wp2
    go_loopg [4, 5] 33 (fun gk s t wr => ∃ (c : Nat) (u : Int), Hid (gk + c = 33) ∧ c ≤ 32 ∧ s = .int .i64 ((32 * k + c : Nat) : Int) ∧ t = .int .u32 u ∧ 0 ≤ u ∧ u < 4294967296 ∧ Hid (u * p2 c ≤ T ∧ T < (u + 1) * p2 c ∧ (c = 0 ∨ p2 (c - 1) ≤ T)) ∧ wr = wa)
    case atStart => exact ⟨0, T, rfl, by omega, by go_num, rfl, rt.1, rt.2, by unfold Hid; simp [p2]; omega, rfl⟩
    case round =>
      obtain ⟨c, u, hgc, hc32, rfl, rfl, hu0, hu1, hin, rfl⟩ := hrel
      by_cases hu : u = 0
      · subst hu
        have hb : isBits T c := by
          have h1 := hin.out
          simp only [Int.zero_mul, Int.zero_add, Int.one_mul] at h1
          rcases h1.2.2 with hc | hc
          · subst hc
            exact Or.inl ⟨by simp [p2] at h1; omega, rfl⟩
          · by_cases hc0 : c = 0
            · subst hc0; exact Or.inl ⟨by simp [p2] at h1; omega, rfl⟩
            · exact Or.inr ⟨by omega, hc, h1.2.1⟩
        have HB : Hid (isBits (val xs) (32 * k + c)) := by unfold Hid; rw [← HV.out]; exact (HT.out c hb).1
        clear hb
        go_wp2
        go_ret
        exact ⟨32 * k + c, rfl, HB.out, ba⟩
      · have hpos : 0 < u := by omega
        have hcl : c < 32 := by
          by_cases h : c < 32
          · exact h
          · have hc : c = 32 := by omega
            have h1 := hin.out.1
            rw [hc, show p2 32 = 4294967296 from rfl] at h1
            have : 1 * 4294967296 ≤ u * 4294967296 := Int.mul_le_mul_of_nonneg_right (by omega) (by omega)
            omega
        go_wp2
        go_roundg (33 - (c + 1))
        case measure => have := hgc.out; omega
        case rel => exact ⟨c + 1, u / 2, by unfold Hid; omega, by omega, by go_num, by go_num, by omega, by omega, (by
          unfold Hid
          have h1 := hin.out
          have hp := p2_pos c
          rw [p2_succ]
          have hd : 2 * (u / 2) + u % 2 = u := Int.mul_ediv_add_emod u 2
          have hm0 := Int.emod_nonneg u (show (2 : Int) ≠ 0 by omega)
          have hm1 := Int.emod_lt_of_pos u (show (0 : Int) < 2 by omega)
          generalize u / 2 = q at *
          generalize u % 2 = r at *
          subst hd
          refine ⟨?_, ?_, Or.inr ?_⟩
          · have e1 : q * (2 * p2 c) = (2 * q) * p2 c := by simp only [Int.mul_assoc, Int.mul_comm, Int.mul_left_comm]
            have e2 : (2 * q) * p2 c ≤ (2 * q + r) * p2 c := Int.mul_le_mul_of_nonneg_right (by omega) (Int.le_of_lt hp)
            omega
          · have e1 : (q + 1) * (2 * p2 c) = (2 * q + 2) * p2 c := by rw [Int.add_mul, Int.add_mul]; simp only [Int.mul_assoc, Int.mul_comm, Int.mul_left_comm]; omega
            have e2 : (2 * q + r + 1) * p2 c ≤ (2 * q + 2) * p2 c := Int.mul_le_mul_of_nonneg_right (by omega) (Int.le_of_lt hp)
            omega
          · have e2 : 1 * p2 c ≤ (2 * q + r) * p2 c := Int.mul_le_mul_of_nonneg_right (by omega) (Int.le_of_lt hp)
            show p2 c ≤ T
            omega), rfl⟩
end Go.Proofs.YtibciilhfpgjjaaDoor
