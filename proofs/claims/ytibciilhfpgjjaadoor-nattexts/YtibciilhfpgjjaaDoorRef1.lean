/- The document's answers of layer 1: Trim, Of, Right, Same. -/
import Derived.Test.YtibciilhfpgjjaaDoorBits
namespace Go.Proofs.YtibciilhfpgjjaaDoor
set_option linter.unusedVariables false
set_option linter.unusedSimpArgs false
open Go.RowKit

set_option maxHeartbeats 800000 in
theorem refTrim_nz (b off n cap : Nat) (xs : List Int) (w : World) (hn : Hid (xs.length = n + 1)) (hl : lim xs) (hnc : n + 1 ≤ cap) (hbig : cap ≤ 9223372036854775807) (hsz : (n + 1) * 4 ≤ 140737488355328)
    (hc : ∀ j, j < n + 1 → w.cell? ⟨b, off + j, none⟩ = some (.int .u32 (xs.getD j 0))) :
    Calls Tryd.prog 18 #[.slice (some ⟨b, off, none⟩) (n + 1) cap] w fun e w' => Makes w e w' (tr xs) := by
  obtain ⟨i0, hi, hz0, hz1, hz2⟩ := info_parts info_u32
  go_enter Tryd.func18, Tryd.ntmps18
  go_wp2
  go_loop [3] (fun s => ∃ k : Nat, k ≤ n + 1 ∧ s = .int .i64 k ∧ Hid (tl xs k = tl xs (n + 1))) (fun s => (intOf s).toNat)
  case atStart => exact ⟨n + 1, Nat.le_refl _, by go_num, rfl⟩
  case round =>
    obtain ⟨k, hk, rfl, ht⟩ := hrel
    have fin : ∀ k, k ≤ n + 1 → tl xs k = tl xs (n + 1) → (k = 0 ∨ ¬ xs.getD (k - 1) 0 = 0) → xs.take k = tr xs := by
      intro k hk ht h
      unfold tr
      rw [hn.out, ← ht]
      rcases h with h | h
      · subst h; rfl
      · cases k with
        | zero => rfl
        | succ k => rw [tl_pos xs k (by simpa using h)]
    by_cases hend : k = 0 ∨ ¬ xs.getD (k - 1) 0 = 0
    · have htr := fin k hk ht.out hend
      have HTR : Hid (xs.take k = tr xs) := htr
      have hlen : (xs.take k).length = k := by have := hn.out; simp; omega
      have hnews : ∀ j u, ((xs.take k).map (Value.int .u32))[j]? = some u → w.cell? ((⟨b, off, none⟩ : Addr).add j) = some u := cells_news (fun j hj => by
        rw [hlen] at hj
        rw [hc j (by omega)]
        have : (xs.take k).getD j 0 = xs.getD j 0 := by simp only [List.getD, List.getElem?_take]; rw [if_pos (by omega)]
        rw [this])
      have hlu : lim (xs.take k) := lim_take hl k
      clear fin htr
      generalize hU : xs.take k = us at *
      have HL : Hid (us.length = k) := hlen
      have HC : Hid (k = 0 ∨ ¬ xs.getD (k - 1) 0 = 0) := hend
      clear hU hlen hend
      cases k with
      | zero =>
        clear hc
        have hu0 : us = [] := List.eq_nil_of_length_eq_zero HL.out
        subst hu0
        go_wp2
        go_ret
        rw [← HTR.out]
        exact Makes.of rfl ⟨lim_nil, World.ownsRow_nil _ _ _ _⟩ (Below.refl _ _)
      | succ k =>
        have hck := hc k (by omega)
        have hne : ¬ xs.getD k 0 = 0 := by
          rcases HC.out with h | h
          · omega
          · simpa using h
        have hneb : (xs.getD k 0 == 0) = false := by simpa using hne
        generalize hg : xs.getD k 0 = g at *
        clear hg hc hne
        go_wp2_with (at_builtin; refine wpList_append_own _ rfl _ _ 22 rfl w.heap.size 39 i0 (.int .u32 0) 1 4 Tryd.underlying22 hi hz0 hz1 hz2 rfl (by decide) _ _ _ rfl (World.ownsRow_nil _ _ _ _) ⟨b, off, none⟩ (k + 1) cap (us.map (Value.int .u32)) rfl (by rw [List.length_map, HL.out]; omega) hnews (ints_oneCell _ _) ?c3 ?c4 (Nat.le_refl _) ?_)
        case c3 => unfold maxLen; omega
        case c4 => omega
        intro v' w1 hown hgrow _
        go_wp2
        go_ret
        rw [← HTR.out]
        exact Makes.of rfl ⟨hlu, by rw [HL.out]; exact hown⟩ ((Below.refl _ _).grown hgrow (Nat.le_refl _) (fun k h => by cases h))
    · obtain ⟨k, rfl⟩ : ∃ j, k = j + 1 := ⟨k - 1, by omega⟩
      have h0 : xs.getD k 0 = 0 := by
        by_cases h : xs.getD k 0 = 0
        · exact h
        · exact absurd (Or.inr (by simpa using h)) hend
      have hck := hc k (by omega)
      rw [h0] at hck
      have HT0 : Hid (tl xs (k + 1) = tl xs k) := tl_zero xs k h0
      clear hc fin hend h0
      go_wp2
      go_round
      case rel => exact ⟨k, by omega, by go_num, by unfold Hid; rw [← ht.out, HT0.out]⟩
      case measure => simp [intOf]

set_option maxHeartbeats 800000 in
theorem refTrim_z (a : Option Addr) (cap : Nat) (w : World) (hcap : a = none → cap = 0) :
    Calls Tryd.prog 18 #[.slice a 0 cap] w fun e w' => Makes w e w' [] := by
  obtain ⟨i0, hi, hz0, hz1, hz2⟩ := info_parts info_u32
  cases a with
  | none =>
    have := hcap rfl
    subst this
    go_enter Tryd.func18, Tryd.ntmps18
    go_wp2
    refine wp_loop_rounds 1 ?_
    rw [rounds_succ]
    go_wp2
    go_ret
    exact Makes.of rfl ⟨lim_nil, World.ownsRow_nil _ _ _ _⟩ (Below.refl _ _)
  | some ad =>
    go_enter Tryd.func18, Tryd.ntmps18
    go_wp2
    refine wp_loop_rounds 1 ?_
    rw [rounds_succ]
    go_wp2_with (at_builtin; refine wpList_append_own _ rfl _ _ 22 rfl w.heap.size 39 i0 (.int .u32 0) 1 4 Tryd.underlying22 hi hz0 hz1 hz2 rfl (by decide) _ _ _ rfl (World.ownsRow_nil _ _ _ _) ad 0 cap [] rfl rfl (by intro j u h; simp at h) (by intro u h; cases h) ?c1 ?c2 (Nat.le_refl _) ?_)
    case c1 => unfold maxLen; omega
    case c2 => omega
    intro v' w1 hown hgrow _
    go_wp2
    go_ret
    exact Makes.of rfl ⟨lim_nil, hown⟩ ((Below.refl _ _).grown hgrow (Nat.le_refl _) (fun k h => by cases h))

/-- The document's Trim, at whatever slice of limbs. -/
theorem refTrim_rd {B : Nat} {w : World} {v : Value} {xs : List Int} (h : Rd B w v xs) (hsz : xs.length * 4 ≤ 140737488355328) :
    Calls Tryd.prog 18 #[v] w fun e w' => Makes w e w' (tr xs) := by
  obtain ⟨hl, a, cap, rfl, h1, h2, hn, h3⟩ := h
  by_cases h0 : xs.length = 0
  · have e : xs = [] := List.eq_nil_of_length_eq_zero h0
    subst e
    exact refTrim_z a cap w hn
  · obtain ⟨n, hn1⟩ : ∃ n, xs.length = n + 1 := ⟨xs.length - 1, by omega⟩
    rcases h3 with h3 | ⟨b, off, rfl, _, hc⟩
    · exact absurd h3 h0
    · rw [hn1] at hc h1 ⊢
      exact refTrim_nz b off n cap xs w hn1 hl h1 h2 (by omega) hc

set_option maxHeartbeats 400000 in
theorem refOf_any (n : Int) (h0 : 0 ≤ n) (h1 : n < 18446744073709551616) (w : World) :
    Calls Tryd.prog 20 #[.int .u64 n] w fun e w' => Makes w e w' (tr [n % 4294967296, n / 4294967296]) := by
  go_enter Tryd.func20, Tryd.ntmps20
  go_wp2_with fail
  refine (refTrim_rd (rd_two w (n % 4294967296) (n / 4294967296) (by omega) (by omega)) (by simp)).mono ?_
  intro e w' hm
  obtain ⟨a, c, rfl, ho, hb⟩ := hm.alloc
  go_wp2
  go_ret
  exact ⟨a, c, rfl, ho, hb⟩

set_option maxHeartbeats 800000 in
theorem same_walk (b1 o1 c1 b2 o2 c2 n : Nat) (xs : List Int) (w : World) (hb : n ≤ 9223372036854775807)
    (k1 : ∀ j, j < n → w.cell? ⟨b1, o1 + j, none⟩ = some (.int .u32 (xs.getD j 0)))
    (k2 : ∀ j, j < n → w.cell? ⟨b2, o2 + j, none⟩ = some (.int .u32 (xs.getD j 0))) :
    Calls Tryd.prog 16 #[.slice (some ⟨b1, o1, none⟩) n c1, .slice (some ⟨b2, o2, none⟩) n c2] w fun e w' => e = .returned (.bool true) ∧ ∃ q, w' = w.drewN q := by
  have K1 : Hid (∀ j, j < n → w.cell? ⟨b1, o1 + j, none⟩ = some (.int .u32 (xs.getD j 0))) := k1
  have K2 : Hid (∀ j, j < n → w.cell? ⟨b2, o2 + j, none⟩ = some (.int .u32 (xs.getD j 0))) := k2
  clear k1 k2
  go_enter Tryd.func16, Tryd.ntmps16
  go_wp2
  go_loopw [5] (fun s wr => (∃ q, wr = w.drewN q) ∧ ∃ j : Nat, j ≤ n ∧ s = .int .i64 j) (fun s _ => n - (intOf s).toNat)
  case atStart => exact ⟨⟨0, rfl⟩, 0, Nat.zero_le _, rfl⟩
  case round =>
    obtain ⟨⟨q, rfl⟩, j, hj, rfl⟩ := hrel
    by_cases hlt : j < n
    · have g1 := K1.out j hlt
      have g2 := K2.out j hlt
      generalize xs.getD j 0 = p at *
      go_wp2
      go_quiet (fail)
      go_wp2
      go_roundw
      case rel => exact ⟨⟨_, rfl⟩, j + 1, by omega, by go_num⟩
      case measure => simp [intOf]; omega
    · go_wp2
      go_ret
      exact ⟨rfl, _, rfl⟩

theorem same_nil (a1 a2 : Option Addr) (c1 c2 : Nat) (w : World) :
    Calls Tryd.prog 16 #[.slice a1 0 c1, .slice a2 0 c2] w fun e w' => e = .returned (.bool true) ∧ w = w' := by
  go_enter Tryd.func16, Tryd.ntmps16
  go_wp2
  refine wp_loop_rounds 1 ?_
  rw [rounds_succ]
  go_wp2
  go_ret
  exact ⟨rfl, rfl⟩

/-- Same, of two slices that read as the same limbs: true. -/
theorem same_rd {B B' : Nat} {w : World} {v1 v2 : Value} {xs : List Int} (h1 : Rd B w v1 xs) (h2 : Rd B' w v2 xs) :
    Calls Tryd.prog 16 #[v1, v2] w fun e w' => e = .returned (.bool true) ∧ Below w.heap.size w w' := by
  obtain ⟨_, a1, c1, rfl, i1, j1, _, f1⟩ := h1
  obtain ⟨_, a2, c2, rfl, i2, j2, _, f2⟩ := h2
  by_cases h0 : xs.length = 0
  · rw [h0]
    refine (same_nil a1 a2 c1 c2 w).mono ?_
    rintro e w' ⟨rfl, rfl⟩
    exact ⟨rfl, Below.refl _ _⟩
  · rcases f1 with f1 | ⟨b1, o1, rfl, _, k1⟩
    · exact absurd f1 h0
    rcases f2 with f2 | ⟨b2, o2, rfl, _, k2⟩
    · exact absurd f2 h0
    refine (same_walk b1 o1 c1 b2 o2 c2 xs.length xs w (by omega) k1 k2).mono ?_
    rintro e w' ⟨rfl, q, rfl⟩
    exact ⟨rfl, below_drewN' (Below.refl _ _) q⟩
end Go.Proofs.YtibciilhfpgjjaaDoor
