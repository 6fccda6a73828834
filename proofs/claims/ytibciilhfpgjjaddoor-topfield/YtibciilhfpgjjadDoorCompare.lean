/- nat.Compare: which of two numbers is greater. -/
import Derived.Test.YtibciilhfpgjjadDoorMeant
import Derived.Deep.QuietTactic
import Derived.BigQuiet
namespace Go.Proofs.YtibciilhfpgjjadDoor
set_option linter.unusedVariables false
set_option linter.unusedSimpArgs false
open Go.RowKit

def Says1 (P : Program) (f : Nat) (v : Value) (w : World) (r : Value) : Prop := Calls P f #[v] w fun e w' => e = .returned r ∧ w = w'

theorem quiet_add {P : Program} {f : FuncId} {args : Array Value} {w : World} {n m : Nat} {v : Value} (h : Calls P f args (w.drewN (n + m)) fun e w' => e = .returned v ∧ w' = w.drewN (n + m)) :
    Calls P f args (w.drewN (n + m)) fun e w'' => e = .returned v ∧ ∃ k, w'' = w.drewN (n + k) := h.mono fun _ _ ⟨he, hm⟩ => ⟨he, m, hm⟩

theorem drew3 (w : World) (a b c : Nat) : ((w.drewN a).drewN b).drewN c = w.drewN (a + b + c) := by rw [World.drewN_drewN, World.drewN_drewN, Nat.add_assoc]

theorem order_yes (w : World) : Calls Tryd.prog 60 #[.bool true] w fun e w' => e = .returned (.int .i64 (-1)) ∧ w' = w := by
  go_enter Tryd.func60, Tryd.ntmps60
  go_wp2
  go_ret
  exact ⟨rfl, rfl⟩
theorem order_no (w : World) : Calls Tryd.prog 60 #[.bool false] w fun e w' => e = .returned (.int .i64 1) ∧ w' = w := by
  go_enter Tryd.func60, Tryd.ntmps60
  go_wp2
  go_ret
  exact ⟨rfl, rfl⟩

set_option maxHeartbeats 400000 in
theorem compare_len (v1 v2 : Value) (a1 a2 : Option Addr) (l1 c1 l2 c2 : Nat) (w : World) (b1 : l1 ≤ 9223372036854775807) (b2 : l2 ≤ 9223372036854775807)
    (h1 : Says1 Tryd.prog 44 v1 w (.slice a1 l1 c1)) (h2 : Says1 Tryd.prog 44 v2 w (.slice a2 l2 c2)) (hlt : ¬ l1 = l2) :
    Calls Tryd.prog 40 #[v1, v2] w fun e w' => e = .returned (.int .i64 (if l1 < l2 then -1 else 1)) ∧ w = w' := by
  have t0 : (((l1 : Nat) : Int) != ((l2 : Nat) : Int)) = true := by rw [bne_iff_ne]; omega
  by_cases h : l1 < l2
  all_goals
    have t1 := h
    go_enter Tryd.func40, Tryd.ntmps40
    go_wp2_with fail
    refine (h1).mono ?_
    rintro e w' ⟨rfl, rfl⟩
    go_wp2_with fail
    refine (h2).mono ?_
    rintro e w' ⟨rfl, rfl⟩
    go_wp2
    go_ret
    first | exact ⟨by rw [if_pos h], rfl⟩ | exact ⟨by rw [if_neg h], rfl⟩ | (simp [h]; done)

set_option maxHeartbeats 400000 in
theorem compare_none (v1 v2 : Value) (a1 a2 : Option Addr) (c1 c2 : Nat) (w : World)
    (h1 : Says1 Tryd.prog 44 v1 w (.slice a1 0 c1)) (h2 : Says1 Tryd.prog 44 v2 w (.slice a2 0 c2)) :
    Calls Tryd.prog 40 #[v1, v2] w fun e w' => e = .returned (.int .i64 0) ∧ w = w' := by
  go_enter Tryd.func40, Tryd.ntmps40
  go_wp2_with fail
  refine (h1).mono ?_
  rintro e w' ⟨rfl, rfl⟩
  go_wp2_with fail
  refine (h2).mono ?_
  rintro e w' ⟨rfl, rfl⟩
  go_wp2
  refine wp_loop_rounds 1 ?_
  rw [rounds_succ]
  go_wp2
  go_ret
  exact ⟨rfl, rfl⟩

set_option maxHeartbeats 800000 in
theorem compare_walk (v1 v2 : Value) (b1 o1 c1 b2 o2 c2 l : Nat) (xs ys : List Int) (w : World) (hb : l + 1 ≤ 9223372036854775807) (hx : xs.length = l + 1) (hy : ys.length = l + 1)
    (lx : lim xs) (ly : lim ys)
    (k1 : ∀ j, j < l + 1 → w.cell? ⟨b1, o1 + j, none⟩ = some (.int .u32 (xs.getD j 0)))
    (k2 : ∀ j, j < l + 1 → w.cell? ⟨b2, o2 + j, none⟩ = some (.int .u32 (ys.getD j 0)))
    (h1 : Says1 Tryd.prog 44 v1 w (.slice (some ⟨b1, o1, none⟩) (l + 1) c1)) (h2 : Says1 Tryd.prog 44 v2 w (.slice (some ⟨b2, o2, none⟩) (l + 1) c2)) :
    Calls Tryd.prog 40 #[v1, v2] w fun e w' => e = .returned (.int .i64 (cmpI (val xs) (val ys))) ∧ ∃ n, w' = w.drewN n := by
  have K1 : Hid (∀ j, j < l + 1 → w.cell? ⟨b1, o1 + j, none⟩ = some (.int .u32 (xs.getD j 0))) := k1
  have K2 : Hid (∀ j, j < l + 1 → w.cell? ⟨b2, o2 + j, none⟩ = some (.int .u32 (ys.getD j 0))) := k2
  have HX : Hid (xs.length = l + 1) := hx
  have HY : Hid (ys.length = l + 1) := hy
  clear k1 k2 hx hy
  go_enter Tryd.func40, Tryd.ntmps40
  go_wp2_with fail
  refine (h1).mono ?_
  rintro e w' ⟨rfl, rfl⟩
  go_wp2_with fail
  refine (h2).mono ?_
  rintro e w' ⟨rfl, rfl⟩
  go_wp2
  go_loopw [5] (fun s wr => (∃ n, wr = w.drewN n) ∧ ((∃ j : Nat, j < l + 1 ∧ s = .int .i64 j ∧ Hid (xs.drop (j + 1) = ys.drop (j + 1))) ∨ (s = .int .i64 (-1) ∧ Hid (xs = ys)))) (fun s _ => (intOf s + 1).toNat)
  case atStart => exact ⟨⟨0, rfl⟩, Or.inl ⟨l, by omega, by go_num, by unfold Hid; rw [List.drop_of_length_le (by rw [HX.out]; omega), List.drop_of_length_le (by rw [HY.out]; omega)]⟩⟩
  case round =>
    obtain ⟨⟨n, rfl⟩, ⟨j, hj, rfl, hd⟩ | ⟨rfl, he⟩⟩ := hrel
    · have g1 := K1.out j hj
      have g2 := K2.out j hj
      have r1 := lim_getD lx j
      have r2 := lim_getD ly j
      generalize hp : xs.getD j 0 = p at *
      generalize hq : ys.getD j 0 = q at *
      have HP : Hid (xs.getD j 0 = p) := hp
      have HQ : Hid (ys.getD j 0 = q) := hq
      clear hp hq
      by_cases hpq : p = q
      · subst hpq
        cases j with
        | zero =>
          rw [Nat.add_zero] at g1 g2
          go_wp2
          go_quiet (fail)
          go_wp2
          go_roundw
          case rel => exact ⟨⟨_, rfl⟩, Or.inr ⟨rfl, by
            unfold Hid
            have h0 := drop_eq_step xs ys 0 (by rw [HX.out]; omega) (by rw [HY.out]; omega) hd.out (by rw [HP.out, HQ.out])
            simpa using h0⟩⟩
          case measure => simp [intOf]
        | succ j =>
          go_wp2
          go_quiet (fail)
          go_wp2
          go_roundw
          case rel => exact ⟨⟨_, rfl⟩, Or.inl ⟨j, by omega, by go_num, by
            unfold Hid
            exact drop_eq_step xs ys (j + 1) (by rw [HX.out]; omega) (by rw [HY.out]; omega) hd.out (by rw [HP.out, HQ.out])⟩⟩
          case measure => simp [intOf]; omega
      · have hne : (p != q) = true := by rw [bne_iff_ne]; exact hpq
        by_cases hlt : p < q
        · have hc : cmpI (val xs) (val ys) = -1 := cmpI_lt (val_lt_top lx ly (by rw [HX.out, HY.out]) j (by rw [HX.out]; omega) hd.out (by rw [HP.out, HQ.out]; exact hlt))
          have HC : Hid (cmpI (val xs) (val ys) = -1) := hc
          clear hpq hc
          go_wp2
          go_quiet (fail)
          go_wp2
          go_quiet ((go_at_call 60; exact quiet_add (order_yes _)))
          go_wp2
          go_ret
          exact ⟨ret_int HC.out.symm, _, drew3 _ _ _ _⟩
        · have hc : cmpI (val xs) (val ys) = 1 := cmpI_gt (val_lt_top ly lx (by rw [HX.out, HY.out]) j (by rw [HY.out]; omega) hd.out.symm (by rw [HP.out, HQ.out]; omega))
          have HC : Hid (cmpI (val xs) (val ys) = 1) := hc
          clear hpq hc
          have hlf : decide (p < q) = false := by simpa using hlt
          go_wp2
          go_quiet (fail)
          go_wp2
          go_quiet ((go_at_call 60; exact quiet_add (order_no _)))
          go_wp2
          go_ret
          exact ⟨ret_int HC.out.symm, _, drew3 _ _ _ _⟩
    · go_wp2
      go_ret
      exact ⟨ret_int (cmpI_eq (by rw [he.out])).symm, _, rfl⟩

theorem drewN0 (w : World) : w = w.drewN 0 := rfl

/-- nat.Compare at whatever two slices of limbs: which number is greater; nothing is written. -/
theorem compare_rd {B B' : Nat} {w : World} {v1 v2 : Value} {xs ys : List Int} (h1 : Rd B w v1 xs) (h2 : Rd B' w v2 ys) :
    Calls Tryd.prog 40 #[v1, v2] w fun e w' => e = .returned (.int .i64 (cmpI (val xs) (val ys))) ∧ ∃ n, w' = w.drewN n := by
  have m1 := meant_rd h1
  have m2 := meant_rd h2
  have t1 := h1.meant
  have t2 := h2.meant
  rw [← val_tr xs, ← val_tr ys]
  have c1 := tr_can h1.lim
  have c2 := tr_can h2.lim
  have s1 := tr_length_le xs
  have s2 := tr_length_le ys
  obtain ⟨_, a1, p1, e1, i1, j1, _, f1⟩ := h1
  obtain ⟨_, a2, p2, e2, i2, j2, _, f2⟩ := h2
  rw [← tr_length] at m1 m2 t1 t2
  obtain ⟨_, a1', p1', e1', _, _, _, r1⟩ := t1
  obtain ⟨_, a2', p2', e2', _, _, _, r2⟩ := t2
  rw [e1'] at m1
  rw [e2'] at m2
  generalize tr xs = us at *
  generalize tr ys = vs at *
  by_cases hl : us.length = vs.length
  · by_cases h0 : us.length = 0
    · have k1 : us = [] := List.eq_nil_of_length_eq_zero h0
      have k2 : vs = [] := List.eq_nil_of_length_eq_zero (by omega)
      subst k1 k2
      refine (compare_none v1 v2 a1' a2' p1' p2' w m1 m2).mono ?_
      rintro e w' ⟨rfl, rfl⟩
      exact ⟨rfl, 0, rfl⟩
    · obtain ⟨l, hl1⟩ : ∃ l, us.length = l + 1 := ⟨us.length - 1, by omega⟩
      have hl2 : vs.length = l + 1 := by omega
      rcases r1 with r1 | ⟨b1, o1, rfl, _, k1⟩
      · omega
      rcases r2 with r2 | ⟨b2, o2, rfl, _, k2⟩
      · omega
      rw [hl1] at m1 k1
      rw [hl2] at m2 k2
      exact compare_walk v1 v2 b1 o1 p1' b2 o2 p2' l us vs w (by omega) hl1 hl2 c1.1 c2.1 k1 k2 m1 m2
  · refine (compare_len v1 v2 a1' a2' us.length p1' vs.length p2' w (by omega) (by omega) m1 m2 hl).mono ?_
    rintro e w' ⟨rfl, rfl⟩
    refine ⟨ret_int ?_, 0, rfl⟩
    by_cases h : us.length < vs.length
    · rw [if_pos h, cmpI_lt (can_len_lt c1 c2 h)]
    · rw [if_neg h, cmpI_gt (can_len_lt c2 c1 (by omega))]

end Go.Proofs.YtibciilhfpgjjadDoor
