/- nat.meant: limbs without the noughts at their end, in place. nat.Compare: which of two numbers is greater. -/
import Derived.Test.YtibciilhfpgjjadDoorBase
namespace Go.Proofs.YtibciilhfpgjjadDoor
set_option linter.unusedVariables false
set_option linter.unusedSimpArgs false
open Go.RowKit

set_option maxHeartbeats 400000 in
theorem meant_some (b off n cap : Nat) (xs : List Int) (w : World) (hx : xs.length = n) (hnc : n ≤ cap) (hbig : cap ≤ 9223372036854775807)
    (hc : ∀ j, j < n → w.cell? ⟨b, off + j, none⟩ = some (.int .u32 (xs.getD j 0))) :
    Calls Tryd.prog 44 #[.slice (some ⟨b, off, none⟩) n cap] w fun e w' => e = .returned (.slice (some ⟨b, off, none⟩) (tl xs n) cap) ∧ w = w' := by
  go_enter Tryd.func44, Tryd.ntmps44
  go_wp2
  go_loop [0] (fun v => ∃ k : Nat, k ≤ n ∧ v = .slice (some ⟨b, off, none⟩) k cap ∧ Hid (tl xs k = tl xs n)) (fun v => lenOf v)
  case atStart => exact ⟨n, Nat.le_refl _, rfl, rfl⟩
  case round =>
    obtain ⟨k, hk, rfl, ht⟩ := hrel
    cases k with
    | zero =>
      go_wp2
      go_ret
      exact ⟨ret_len ht.out, rfl⟩
    | succ k =>
      have hcell := hc k (by omega)
      by_cases h0 : xs.getD k 0 = 0
      · rw [h0] at hcell
        clear hc
        go_wp2
        go_round
        case rel => exact ⟨k, by omega, by go_num, by unfold Hid; rw [← ht.out, tl_zero xs k h0]⟩
        case measure => simp [lenOf]
      · have hne : (xs.getD k 0 == 0) = false := by simpa using h0
        generalize hg : xs.getD k 0 = g at *
        have HG : Hid (xs.getD k 0 = g) := hg
        clear hg hc
        go_wp2
        go_ret
        exact ⟨ret_len (by rw [← ht.out, tl_pos xs k (by rw [HG.out]; exact h0)]), rfl⟩

theorem meant_empty (a : Option Addr) (cap : Nat) (w : World) :
    Calls Tryd.prog 44 #[.slice a 0 cap] w fun e w' => e = .returned (.slice a 0 cap) ∧ w = w' := by
  go_enter Tryd.func44, Tryd.ntmps44
  go_wp2
  refine wp_loop_rounds 1 ?_
  rw [rounds_succ]
  go_wp2
  go_ret
  exact ⟨rfl, rfl⟩

/-- nat.meant at whatever slice of limbs. -/
theorem meant_rd {B : Nat} {w : World} {v : Value} {xs : List Int} (h : Rd B w v xs) :
    Calls Tryd.prog 44 #[v] w fun e w' => e = .returned (vtake v (tl xs xs.length)) ∧ w = w' := by
  obtain ⟨hl, a, cap, rfl, h1, h2, hn, h3⟩ := h
  rcases h3 with h3 | ⟨b, off, rfl, hbB, hc⟩
  · have e : xs = [] := List.eq_nil_of_length_eq_zero h3
    subst e
    exact meant_empty a cap w
  · exact meant_some b off xs.length cap xs w rfl h1 h2 hc

theorem Rd.meant {B : Nat} {w : World} {v : Value} {xs : List Int} (h : Rd B w v xs) : Rd B w (vtake v (tl xs xs.length)) (tr xs) := h.take _ (tl_le _ _)
theorem Own.meant {B : Nat} {w : World} {v : Value} {xs : List Int} (h : Own B w v xs) : Own B w (vtake v (tl xs xs.length)) (tr xs) := h.take _ (tl_le _ _)

end Go.Proofs.YtibciilhfpgjjadDoor
