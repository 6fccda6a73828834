/- The document's Mul, Sum, Product. -/
import Derived.Test.YtibciilhfpgjjaaDoorRef7
namespace Go.Proofs.YtibciilhfpgjjaaDoor
set_option linter.unusedVariables false
set_option linter.unusedSimpArgs false
open Go.RowKit

theorem refMul_step (zs ys : List Int) (i j : Nat) (x c V t : Int) (hij : i + j < zs.length) (h : val zs + c * pw (i + j) = V + x * val (ys.take j) * pw i)
    (ht : t = zs.getD (i + j) 0 + x * ys.getD j 0 + c) : val (zs.set (i + j) (t % 4294967296)) + t / 4294967296 * pw (i + (j + 1)) = V + x * val (ys.take (j + 1)) * pw i := by
  have hd : 4294967296 * (t / 4294967296) + t % 4294967296 = t := Int.mul_ediv_add_emod t 4294967296
  have htk : val (ys.take (j + 1)) = val (ys.take j) + ys.getD j 0 * pw j := by
    by_cases hy : j < ys.length
    · exact val_take_succ ys j hy
    · have e1 : ys.take (j + 1) = ys.take j := by rw [List.take_of_length_le (by omega), List.take_of_length_le (by omega)]
      have e2 : ys.getD j 0 = 0 := by simp [List.getD, List.getElem?_eq_none (Nat.le_of_not_lt hy)]
      rw [e1, e2]; simp
  rw [val_set _ _ _ hij, htk, ← Nat.add_assoc, pw_succ, pw_add] at *
  generalize t / 4294967296 = q at *
  generalize t % 4294967296 = r at *
  have key := congrArg (fun u => u * (pw i * pw j)) (hd.trans ht)
  simp only [Int.add_mul, Int.mul_add, Int.sub_mul, Int.mul_assoc, Int.mul_comm, Int.mul_left_comm] at *
  omega

theorem Own.drewN {base : Nat} {w : World} {v : Value} {xs : List Int} (h : Own base w v xs) (n : Nat) : Own base (w.drewN n) v xs := h

set_option maxRecDepth 100000 in
set_option maxHeartbeats 3200000 in
/-- The document's Mul of two: the product, right limbs. -/
theorem refMul_any {B1 B2 : Nat} {w : World} {v1 v2 : Value} {xs ys : List Int} (h1 : Rd B1 w v1 xs) (b1 : B1 ≤ w.heap.size) (h2 : Rd B2 w v2 ys) (b2 : B2 ≤ w.heap.size) (n1 : xs.length ≤ 1000000000000) (n2 : ys.length ≤ 1000000000000) :
    Calls Tryd.prog 53 #[v1, v2] w fun e w' => ∃ zs, can zs ∧ val zs = val xs * val ys ∧ zs.length ≤ xs.length + ys.length + 1 ∧ Makes w e w' zs := by
  obtain ⟨i0, hi, hz0, hz1, hz2⟩ := info_parts info_u32
  have lx := h1.lim
  have ly := h2.lim
  have h1' := h1
  obtain ⟨_, a1, c1, rfl, _, _, _, kp⟩ := h1'
  obtain ⟨a2, c2, rfl⟩ : ∃ a c, v2 = .slice a ys.length c := by obtain ⟨_, a, c, rfl, _⟩ := h2; exact ⟨a, c, rfl⟩
  go_enter Tryd.func53, Tryd.ntmps53
  go_wp2_with (at_make; refine wpList_make_full _ rfl _ _ 22 rfl w.heap.size 39 i0 (.int .u32 0) 1 Tryd.underlying22 hi hz0 hz1 _ _ _ _ (xs.length + ys.length + 1) rfl rfl (by omega) (by omega) ?b2 ?b3 (Nat.le_refl _) ?_)
  case b2 => rw [hz2]; omega
  case b3 => unfold maxLen; omega
  intro w0 hown0 hgrow0
  have hO := own_made hown0
  have hb0 : Below w.heap.size w w0 := (Below.refl _ _).grown hgrow0 (Nat.le_refl _) (fun k h => by cases h)
  clear hown0 hgrow0
  go_wp2
  go_loopw [6] (fun s wr => ∃ (i : Nat) (zs : List Int), i ≤ xs.length ∧ s = .int .i64 i ∧ Hid (zs.length = xs.length + ys.length + 1) ∧ Own w.heap.size wr (.slice (some ⟨w.heap.size, 0, none⟩) (xs.length + ys.length + 1) (xs.length + ys.length + 1)) zs ∧ Below w.heap.size w wr ∧ Hid (val zs = val (xs.take i) * val ys) ∧ Hid (∀ k, i + ys.length ≤ k → zs.getD k 0 = 0))
    (fun s _ => xs.length - (intOf s).toNat)
  case atStart => exact ⟨0, List.replicate (xs.length + ys.length + 1) 0, Nat.zero_le _, rfl, List.length_replicate, hO, hb0, by unfold Hid; rw [val_replicate]; simp [val], fun k _ => by simp [List.getD, List.getElem?_replicate]; split <;> rfl⟩
  case round =>
    obtain ⟨i, zs, hin, rfl, hzl, hown, hbl, hval, hzero⟩ := hrel
    by_cases hlt : i < xs.length
    · obtain ⟨g, o, hpa, hg, hpc⟩ : ∃ g o, a1 = some ⟨g, o, none⟩ ∧ g < B1 ∧ ∀ j, j < xs.length → w.cell? ⟨g, o + j, none⟩ = some (.int .u32 (xs.getD j 0)) := by
        rcases kp with kp | ⟨g, o, ha, hg, hc⟩
        · omega
        · exact ⟨g, o, ha, hg, hc⟩
      subst hpa
      have hcx0 : w.cell? ⟨g, o + i, none⟩ = some (.int .u32 (xs.getD i 0)) := hpc i hlt
      have rx := lim_getD lx i
      generalize hX : xs.getD i 0 = X at *
      have HX : Hid (xs.getD i 0 = X) := hX
      have hgw : g < w.heap.size := by omega
      clear hX hpc hO hb0 kp
      go_wp2
      obtain ⟨wo, rfl⟩ : ∃ wo : World, wo = wr := ⟨_, rfl⟩
      go_loopw [8, 7] (fun s c wi => ∃ (j : Nat) (C : Int) (us : List Int), j ≤ ys.length + 1 ∧ s = .int .i64 j ∧ c = .int .u64 C ∧ 0 ≤ C ∧ C < 4294967296 ∧ Hid (us.length = xs.length + ys.length + 1) ∧ Own w.heap.size wi (.slice (some ⟨w.heap.size, 0, none⟩) (xs.length + ys.length + 1) (xs.length + ys.length + 1)) us ∧ Below w.heap.size w wi ∧ Hid (val us + C * pw (i + j) = val zs + X * val (ys.take j) * pw i) ∧ Hid (∀ k, i + ys.length + 1 ≤ k ∨ (j ≤ ys.length ∧ k = i + ys.length) → us.getD k 0 = 0) ∧ (j = ys.length + 1 → C = 0))
        (fun s _ _ => ys.length + 1 - (intOf s).toNat)
      case atStart => exact ⟨0, 0, zs, Nat.zero_le _, rfl, rfl, by omega, by omega, hzl, hown, hbl, by unfold Hid; simp [val], fun k hk => hzero.out k (by omega), fun h => by omega⟩
      case round =>
        obtain ⟨j, C, us, hjm, rfl, rfl, hC0, hC1, hul, hownu, hblu, hvalu, hzerou, hlast⟩ := hrel
        have hNu := hownu.lt hul.out
        by_cases hgo : j < ys.length ∨ 0 < C
        · have hjl : j ≤ ys.length := by
            rcases hgo with h | h
            · omega
            · by_cases he : j = ys.length + 1
              · have := hlast he; omega
              · omega
          have hcx : wr.cell? ⟨g, o + i, none⟩ = some (.int .u32 X) := (hblu.cell hgw).trans hcx0
          have ry := lim_getD ly j
          have hcz := hownu.cellAt hul.out (i + j) (by omega)
          have hfz := hownu.frozenAt hul.out (i + j)
          have rz := lim_getD hownu.lim (i + j)
          have kl : ∀ q, Calls Tryd.prog 48 #[.slice a2 ys.length c2, .int .i64 j] (wr.drewN q) fun e w' => e = .returned (.int .u64 (ys.getD j 0)) ∧ w' = wr.drewN q := fun q =>
            (limb_rd ((h2.below (hblu.mono b2)).below (below_drewN' (Below.refl _ _) q)) j).mono fun e w' ⟨he, hw⟩ => ⟨he, hw.symm⟩
          have hstep := refMul_step us ys i j X C (val zs) _ (by rw [hul.out]; omega) hvalu.out rfl
          have hlast2 : j + 1 = ys.length + 1 → (us.getD (i + j) 0 + X * ys.getD j 0 + C) / 4294967296 = 0 := by
            intro he
            have ej : j = ys.length := by omega
            have e2 : ys.getD j 0 = 0 := by simp [List.getD, List.getElem?_eq_none (show ys.length ≤ j by omega)]
            have e1 : us.getD (i + j) 0 = 0 := hzerou.out (i + j) (Or.inr ⟨by omega, by omega⟩)
            rw [e1, e2]; simp; omega
          generalize hY : ys.getD j 0 = Y at *
          generalize hZ : us.getD (i + j) 0 = Z at *
          have hxy := mul_bound rx ry
          have hT0 : 0 ≤ Z + X * Y + C := by omega
          have hT1 : Z + X * Y + C < 18446744073709551616 := by omega
          have hS := hownu.stored hul.out (i + j) ((Z + X * Y + C) % 4294967296) (by omega)
          have HSTEP : Hid (val (us.set (i + j) ((Z + X * Y + C) % 4294967296)) + (Z + X * Y + C) / 4294967296 * pw (i + (j + 1)) = val zs + X * val (ys.take (j + 1)) * pw i) := hstep
          have HLAST : Hid (j + 1 = ys.length + 1 → (Z + X * Y + C) / 4294967296 = 0) := hlast2
          clear hY hZ hstep hlast2 hlast hcx0
          have hcases : j < ys.length ∨ (ys.length ≤ j ∧ 0 < C) := by omega
          clear hgo
          rcases hcases with q1 | ⟨q1, q2⟩
          all_goals
            go_wp2
            go_quiet ((go_at_call 48; exact Calls.quiet_of_same (kl _)))
            clear kl
            go_wp2
            go_roundw
            case rel => exact ⟨j + 1, (Z + X * Y + C) / 4294967296, us.set (i + j) ((Z + X * Y + C) % 4294967296), by omega, by go_num, rfl, by omega, by omega, (by unfold Hid; rw [List.length_set]; exact hul.out), hS.drewN _, below_drewN' (hblu.setCell (Nat.le_refl _) _) _, HSTEP,
              (by unfold Hid; intro k hk; rw [getD_set]; split; omega; exact hzerou.out k (by omega)), HLAST.out⟩
            case measure => simp [intOf]; omega
        · have q1 : ¬ j < ys.length := fun h => hgo (Or.inl h)
          have q2 : C = 0 := by by_cases h : 0 < C; exact absurd (Or.inr h) hgo; omega
          subst q2
          have hfin : val us = val (xs.take (i + 1)) * val ys := by
            have h3 := hvalu.out
            rw [List.take_of_length_le (Nat.le_of_not_lt q1), hval.out] at h3
            rw [val_take_succ xs i hlt, HX.out, Int.add_mul]
            simp only [Int.zero_mul, Int.add_zero] at h3
            rw [h3]
            simp only [Int.mul_assoc, Int.mul_comm, Int.mul_left_comm]
          have HF : Hid (val us = val (xs.take (i + 1)) * val ys) := hfin
          clear hfin hgo
          go_wp2
          go_roundw
          case rel => exact ⟨i + 1, us, by omega, by go_num, hul, hownu, hblu, HF, fun k hk => hzerou.out k (by omega)⟩
          case measure => simp [intOf]; omega
    · obtain rfl : i = xs.length := by omega
      have hsz : zs.length * 4 ≤ 140737488355328 := by have := hzl.out; omega
      have hs := hbl.size
      clear kp
      go_wp2_with fail
      refine (refTrim_rd hown.rd hsz).mono ?_
      rintro e w2 ⟨a3, c3, rfl, ho3, hb3⟩
      have ht := tr_length_le zs
      go_wp2
      go_ret
      exact ⟨tr zs, tr_can hown.lim, by rw [val_tr, hval.out, List.take_length], by have := hzl.out; omega, Makes.of rfl (ho3.mono hs) (hbl.trans (hb3.mono hs))⟩
end Go.Proofs.YtibciilhfpgjjaaDoor
