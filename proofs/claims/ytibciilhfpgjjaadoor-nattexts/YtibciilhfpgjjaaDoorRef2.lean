/- The document's Compare, Right, Bits; nat.Right; the statements' helpers own and kept. -/
import Derived.Test.YtibciilhfpgjjaaDoorRef1
namespace Go.Proofs.YtibciilhfpgjjaaDoor
set_option linter.unusedVariables false
set_option linter.unusedSimpArgs false
open Go.RowKit

set_option maxHeartbeats 3200000 in
/-- The document's Compare. -/
theorem refCompare_rd {B B' : Nat} {w : World} {v1 v2 : Value} {xs ys : List Int} (h1 : Rd B w v1 xs) (h2 : Rd B' w v2 ys) (b2 : B' ≤ w.heap.size) (s1 : xs.length * 4 ≤ 140737488355328) (s2 : ys.length * 4 ≤ 140737488355328) :
    Calls Tryd.prog 22 #[v1, v2] w fun e w' => e = .returned (.int .i64 (cmpI (val xs) (val ys))) ∧ Below w.heap.size w w' := by
  rw [← val_tr xs, ← val_tr ys]
  have c1 := tr_can h1.lim
  have c2 := tr_can h2.lim
  have n1 := tr_length_le xs
  have n2 := tr_length_le ys
  go_enter Tryd.func22, Tryd.ntmps22
  go_wp2_with fail
  refine (refTrim_rd h1 s1).mono ?_
  rintro e wa ⟨a1, q1, rfl, o1, ba⟩
  have hsa := ba.size
  go_wp2_with fail
  refine (refTrim_rd (h2.below (ba.mono b2)) s2).mono ?_
  rintro e wb ⟨a2, q2, rfl, o2, bb⟩
  have bb' := ba.trans (bb.mono hsa)
  have o1' := o1.below bb (Nat.le_refl _)
  generalize hUS : tr xs = us at *
  generalize hVS : tr ys = vs at *
  have HU : Hid (cmpI (val (tr xs)) (val (tr ys)) = cmpI (val us) (val vs)) := by unfold Hid; rw [hUS, hVS]
  clear o1 ba bb h1 h2 hUS hVS
  by_cases hl : us.length = vs.length
  · by_cases h0 : us.length = 0
    · have k1 : us = [] := List.eq_nil_of_length_eq_zero h0
      have k2 : vs = [] := List.eq_nil_of_length_eq_zero (by omega)
      subst k1 k2
      go_wp2
      refine wp_loop_rounds 1 ?_
      rw [rounds_succ]
      go_wp2
      go_ret
      exact ⟨ret_int (by rw [HU.out]; exact (cmpI_eq rfl).symm), bb'⟩
    · obtain ⟨l, hl1⟩ : ∃ l, us.length = l + 1 := ⟨us.length - 1, by omega⟩
      have hl2 : vs.length = l + 1 := by omega
      obtain ⟨lx, _, _, e1, _, _, _, r1⟩ := o1'.rd
      obtain ⟨ly, _, _, e2, _, _, _, r2⟩ := o2.rd
      rcases r1 with r1 | ⟨g1, f1, ea1, _, k1⟩
      · omega
      rcases r2 with r2 | ⟨g2, f2, ea2, _, k2⟩
      · omega
      subst ea1 ea2
      cases e1
      cases e2
      rw [hl1] at k1
      rw [hl2] at k2
      have K1 : Hid (∀ j, j < l + 1 → wb.cell? ⟨g1, f1 + j, none⟩ = some (.int .u32 (us.getD j 0))) := k1
      have K2 : Hid (∀ j, j < l + 1 → wb.cell? ⟨g2, f2 + j, none⟩ = some (.int .u32 (vs.getD j 0))) := k2
      have HX : Hid (us.length = l + 1) := hl1
      have HY : Hid (vs.length = l + 1) := hl2
      have hlb : l + 1 ≤ 9223372036854775807 := by omega
      rw [hl1, hl2]
      clear k1 k2 hl1 hl2 hl h0 o1' o2
      go_wp2
      go_loopw [7] (fun s wr => (∃ n, wr = wb.drewN n) ∧ ((∃ j : Nat, j < l + 1 ∧ s = .int .i64 j ∧ Hid (us.drop (j + 1) = vs.drop (j + 1))) ∨ (s = .int .i64 (-1) ∧ Hid (us = vs)))) (fun s _ => (intOf s + 1).toNat)
      case atStart => exact ⟨⟨0, rfl⟩, Or.inl ⟨l, by omega, by go_num, by unfold Hid; rw [List.drop_of_length_le (by rw [HX.out]; omega), List.drop_of_length_le (by rw [HY.out]; omega)]⟩⟩
      case round =>
        obtain ⟨⟨n, rfl⟩, ⟨j, hj, rfl, hd⟩ | ⟨rfl, he⟩⟩ := hrel
        · have g1 := K1.out j hj
          have g2 := K2.out j hj
          have r1 := lim_getD lx j
          have r2 := lim_getD ly j
          generalize hp : us.getD j 0 = p at *
          generalize hq : vs.getD j 0 = q at *
          have HP : Hid (us.getD j 0 = p) := hp
          have HQ : Hid (vs.getD j 0 = q) := hq
          clear hp hq
          by_cases hpq : p = q
          · subst hpq
            cases j with
            | zero =>
              rw [Nat.add_zero] at g1 g2
              go_wp2
              go_quiet (fail)
              go_wp2
              go_quiet (fail)
              go_wp2
              go_roundw
              case rel => exact ⟨⟨_, rfl⟩, Or.inr ⟨rfl, by
                unfold Hid
                have h0 := drop_eq_step us vs 0 (by rw [HX.out]; omega) (by rw [HY.out]; omega) hd.out (by rw [HP.out, HQ.out])
                simpa using h0⟩⟩
              case measure => simp [intOf]
            | succ j =>
              go_wp2
              go_quiet (fail)
              go_wp2
              go_quiet (fail)
              go_wp2
              go_roundw
              case rel => exact ⟨⟨_, rfl⟩, Or.inl ⟨j, by omega, by go_num, by
                unfold Hid
                exact drop_eq_step us vs (j + 1) (by rw [HX.out]; omega) (by rw [HY.out]; omega) hd.out (by rw [HP.out, HQ.out])⟩⟩
              case measure => simp [intOf]; omega
          · by_cases hlt : p < q
            · have hc : cmpI (val us) (val vs) = -1 := cmpI_lt (val_lt_top lx ly (by rw [HX.out, HY.out]) j (by rw [HX.out]; omega) hd.out (by rw [HP.out, HQ.out]; exact hlt))
              have HC : Hid (cmpI (val us) (val vs) = -1) := hc
              clear hpq hc
              go_wp2
              go_quiet (fail)
              go_wp2
              go_ret
              exact ⟨ret_int (by rw [HU.out]; exact HC.out.symm), below_drewN' (below_drewN' bb' _) _⟩
            · have hc : cmpI (val us) (val vs) = 1 := cmpI_gt (val_lt_top ly lx (by rw [HX.out, HY.out]) j (by rw [HY.out]; omega) hd.out.symm (by rw [HP.out, HQ.out]; omega))
              have HC : Hid (cmpI (val us) (val vs) = 1) := hc
              have hgt : q < p := by omega
              clear hpq hc
              go_wp2
              go_quiet (fail)
              go_wp2
              go_quiet (fail)
              go_wp2
              go_ret
              exact ⟨ret_int (by rw [HU.out]; exact HC.out.symm), below_drewN' (below_drewN' (below_drewN' bb' _) _) _⟩
        · go_wp2
          go_ret
          exact ⟨ret_int (by rw [HU.out]; exact (cmpI_eq (by rw [he.out])).symm), below_drewN' bb' _⟩
  · have t0 : (((us.length : Nat) : Int) != ((vs.length : Nat) : Int)) = true := by rw [bne_iff_ne]; omega
    by_cases h : us.length < vs.length
    · have hc := can_len_lt c1 c2 h
      have HC : Hid (cmpI (val us) (val vs) = -1) := cmpI_lt hc
      clear hc
      go_wp2
      go_ret
      exact ⟨ret_int (by rw [HU.out]; exact HC.out.symm), bb'⟩
    · have hc := can_len_lt c2 c1 (by omega)
      have HC : Hid (cmpI (val us) (val vs) = 1) := cmpI_gt hc
      clear hc
      go_wp2
      go_ret
      exact ⟨ret_int (by rw [HU.out]; exact HC.out.symm), bb'⟩
end Go.Proofs.YtibciilhfpgjjaaDoor
