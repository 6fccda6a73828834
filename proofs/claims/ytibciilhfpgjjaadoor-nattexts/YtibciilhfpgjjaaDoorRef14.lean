/- The document's greatest common divisor. -/
import Derived.Test.YtibciilhfpgjjaaDoorRef12
import Derived.Test.YtibciilhfpgjjaaDoorRef13
namespace Go.Proofs.YtibciilhfpgjjaaDoor
set_option linter.unusedVariables false
set_option linter.unusedSimpArgs false
open Go.RowKit

theorem pos_len {zs : List Int} (h : can zs) (hl : ¬ zs.length = 0) : 0 < val zs := by
  have h1 := can_low h (by omega)
  have h2 := pw_pos (zs.length - 1)
  omega

theorem len_val {zs : List Int} (h : can zs) (hv : ¬ val zs = 0) : ¬ zs.length = 0 := fun e => hv ((can_zero h).1 e)

/-- The lowest limb of a number that is not 0. -/
theorem low_cell {base : Nat} {w : World} {a : Option Addr} {c : Nat} {zs : List Int} (h : Own base w (.slice a zs.length c) zs) (hl : ¬ zs.length = 0) : ∃ g o, a = some ⟨g, o, none⟩ ∧ w.cell? ⟨g, o, none⟩ = some (.int .u32 (zs.getD 0 0)) := by
  obtain ⟨_, _, _, e1, _, _, _, r1⟩ := h.rd
  rcases r1 with r1 | ⟨g1, f1, ea1, _, k1⟩
  · exact absurd r1 hl
  cases e1
  exact ⟨g1, f1, ea1, k1 0 (by omega)⟩

theorem twos_bound {A x : Int} {t L : Nat} (h : A = p2 t * x) (hx : 0 < x) (hA : A < pw L) : t < 32 * L := by
  by_cases hle : t < 32 * L
  · exact hle
  · have h1 := p2_mono (show 32 * L ≤ t by omega)
    rw [← pw_p2] at h1
    have h2 : p2 t * 1 ≤ p2 t * x := Int.mul_le_mul_of_nonneg_left (by omega) (Int.le_of_lt (p2_pos t))
    omega

/-- How a pair stands in the second loop: not both are even and not 0. -/
def Odd1 (x y : Int) : Prop := x = 0 ∨ y = 0 ∨ ¬ x % 2 = 0 ∨ ¬ y % 2 = 0

set_option maxRecDepth 100000 in
set_option maxHeartbeats 6400000 in
theorem refgcd_any {B1 B2 : Nat} {w : World} {v1 v2 : Value} {xs ys : List Int} (h1 : Rd B1 w v1 xs) (b1 : B1 ≤ w.heap.size) (h2 : Rd B2 w v2 ys) (b2 : B2 ≤ w.heap.size) (L : Nat) (n1 : xs.length ≤ L) (n2 : ys.length ≤ L) (hL : L ≤ 1000000) :
    Calls Tryd.prog 58 #[v1, v2] w fun e w' => ∃ zs, can zs ∧ val zs = gI (val xs) (val ys) ∧ zs.length ≤ L + 1 ∧ Makes w e w' zs := by
  have hA := val_bound h1.lim
  have hY := val_bound h2.lim
  have ca := tr_can h1.lim
  have cb := tr_can h2.lim
  have va := val_tr xs
  have vb := val_tr ys
  have HA : Hid (0 ≤ val xs ∧ val xs < pw L) := ⟨hA.1, by have := pw_mono n1; omega⟩
  have HY : Hid (0 ≤ val ys ∧ val ys < pw L) := ⟨hY.1, by have := pw_mono n2; omega⟩
  have HVA : Hid (val (tr xs) = val xs ∧ val (tr ys) = val ys) := ⟨va, vb⟩
  have la := tr_length_le xs
  have lb := tr_length_le ys
  clear hA hY va vb
  go_enter Tryd.func58, Tryd.ntmps58
  go_wp2_with fail
  refine (refTrim_rd h1 (by omega)).mono ?_
  rintro e wa ⟨a1, q1, rfl, o1, ba⟩
  have sa := ba.size
  go_wp2_with fail
  refine (refTrim_rd (h2.below (ba.mono b2)) (by omega)).mono ?_
  rintro e wb ⟨a2, q2, rfl, o2, bb⟩
  have sb := bb.size
  have bw : Below w.heap.size w wb := ba.trans (bb.mono sa)
  have o1' := o1.below bb (Nat.le_refl _)
  have o2' : Own w.heap.size wb (.slice a2 (tr ys).length q2) (tr ys) := o2.mono sa
  clear o1 o2 ba bb sa sb
  go_wp2
  go_loopg [0, 1, 5] (val xs).toNat (fun g A Bv tt wr => ∃ (t : Nat) (us vs : List Int) (a : Option Addr) (c : Nat) (a' : Option Addr) (c' : Nat), Hid (g = (val us).toNat) ∧ tt = .int .i64 t ∧ t ≤ 32 * L ∧ can us ∧ can vs ∧ Hid (val xs = p2 t * val us ∧ val ys = p2 t * val vs) ∧ us.length ≤ L ∧ vs.length ≤ L ∧ A = .slice a us.length c ∧ Bv = .slice a' vs.length c' ∧ Own w.heap.size wr (.slice a us.length c) us ∧ Own w.heap.size wr (.slice a' vs.length c') vs ∧ Below w.heap.size w wr)
  case atStart => exact ⟨0, tr xs, tr ys, a1, q1, a2, q2, (by unfold Hid; rw [HVA.out.1]), rfl, by omega, ca, cb, (by unfold Hid; rw [HVA.out.1, HVA.out.2]; simp [p2]), by omega, by omega, rfl, rfl, o1', o2', bw⟩
  case round =>
    obtain ⟨t, us, vs, a, c, a', c', hg, rfl, htL, cu, cv, hval, lu, lv, rfl, rfl, ou, ov, hbl⟩ := hrel
    have hs := hbl.size
    have hun := (val_bound cu.1).1
    have hvn := (val_bound cv.1).1
    have hcases : (¬ 0 < us.length) ∨ (0 < us.length ∧ ¬ 0 < vs.length) ∨ (0 < us.length ∧ 0 < vs.length ∧ ¬ us.getD 0 0 % 2 = 0) ∨ (0 < us.length ∧ 0 < vs.length ∧ us.getD 0 0 % 2 = 0 ∧ ¬ vs.getD 0 0 % 2 = 0) ∨ (0 < us.length ∧ 0 < vs.length ∧ us.getD 0 0 % 2 = 0 ∧ vs.getD 0 0 % 2 = 0) := by omega
    have mu := val_mod2 us
    have mv := val_mod2 vs
    have ru := lim_getD cu.1 0
    have rv := lim_getD cv.1 0
    have hexit : ∀ {p : Prop}, (us.length = 0 ∨ vs.length = 0 ∨ ¬ us.getD 0 0 % 2 = 0 ∨ ¬ vs.getD 0 0 % 2 = 0) → Odd1 (val us) (val vs) := by
      intro _ h
      rcases h with h | h | h | h
      · exact Or.inl ((can_zero cu).1 h)
      · exact Or.inr (Or.inl ((can_zero cv).1 h))
      · exact Or.inr (Or.inr (Or.inl (by omega)))
      · exact Or.inr (Or.inr (Or.inr (by omega)))
    rcases hcases with q0 | ⟨q0, q1⟩ | ⟨q0, q1, q2⟩ | ⟨q0, q1, q2, q3⟩ | ⟨q0, q1, q2, q3⟩
    rotate_right
    · -- both even
      obtain ⟨g1, f1, rfl, k1⟩ := low_cell ou (by omega)
      obtain ⟨g2, f2, rfl, k2⟩ := low_cell ov (by omega)
      have e1 : bits .and .u32 (us.getD 0 0) 1 = 0 := by rw [and_one_u32 _ ru.1 ru.2]; exact q2
      have e2 : bits .and .u32 (vs.getD 0 0) 1 = 0 := by rw [and_one_u32 _ rv.1 rv.2]; exact q3
      have hup := pos_len cu (by omega)
      have hmu : val us % 2 = 0 := by omega
      have hmv : val vs % 2 = 0 := by omega
      have htb := twos_bound hval.out.1 hup HA.out.2
      have HM : Hid (val us % 2 = 0 ∧ val vs % 2 = 0 ∧ 0 < val us ∧ 0 ≤ val vs) := ⟨hmu, hmv, hup, hvn⟩
      clear hup hmu hmv mu mv hexit hun hvn
      generalize us.getD 0 0 = U at *
      generalize vs.getD 0 0 = V at *
      go_wp2_with fail
      refine (refHalf_any ou.rd (Nat.le_refl _) (by omega)).mono ?_
      rintro e w1 ⟨z1, cz1, vz1, a3, c3, rfl, o3, b3⟩
      have s3 := b3.size
      have ov3 := ov.below b3 (Nat.le_refl _)
      have HZ1 : Hid (val z1 = val us / 2) := vz1
      clear vz1
      go_wp2_with fail
      refine (refHalf_any ov3.rd (Nat.le_refl _) (by omega)).mono ?_
      rintro e w2 ⟨z2, cz2, vz2, a4, c4, rfl, o4, b4⟩
      have s4 := b4.size
      have HZ2 : Hid (val z2 = val vs / 2) := vz2
      clear vz2
      have o34 := o3.below b4 (Nat.le_refl _)
      have l1 : z1.length ≤ us.length := len_of_lt cz1 (by
        have := (val_bound cu.1).2; have := HZ1.out; have := HM.out; omega)
      have l2 : z2.length ≤ vs.length := len_of_lt cz2 (by
        have := (val_bound cv.1).2; have := HZ2.out; have := HM.out; omega)
      go_wp2
      go_roundg (val z1).toNat
      case measure => have := hg.out; have := HZ1.out; have := HM.out; omega
      case rel => exact ⟨t + 1, z1, z2, a3, c3, a4, c4, rfl, by go_num, by omega, cz1, cz2, (by
        unfold Hid
        have h3 := hval.out
        have h4 := HM.out
        rw [p2_succ, HZ1.out, HZ2.out]
        have e3 : 2 * p2 t * (val us / 2) = p2 t * val us := by
          rw [Int.mul_comm 2, Int.mul_assoc]; congr 1; omega
        have e4 : 2 * p2 t * (val vs / 2) = p2 t * val vs := by
          rw [Int.mul_comm 2, Int.mul_assoc]; congr 1; omega
        rw [e3, e4]; exact h3), by omega, by omega, rfl, rfl, o34.mono hs, o4.mono (by omega), hbl.trans ((b3.mono hs).trans (b4.mono (by omega)))⟩
    case' inl => have ho := hexit (p := True) (Or.inl (by omega))
    case' inr.inl => have ho := hexit (p := True) (Or.inr (Or.inl (by omega)))
    case' inr.inr.inl =>
      have ho := hexit (p := True) (Or.inr (Or.inr (Or.inl q2)))
      obtain ⟨g1, f1, rfl, k1⟩ := low_cell ou (by omega)
      have e1 : bits .and .u32 (us.getD 0 0) 1 = 1 := by rw [and_one_u32 _ ru.1 ru.2]; omega
    case' inr.inr.inr.inl =>
      have ho := hexit (p := True) (Or.inr (Or.inr (Or.inr q3)))
      obtain ⟨g1, f1, rfl, k1⟩ := low_cell ou (by omega)
      obtain ⟨g2, f2, rfl, k2⟩ := low_cell ov (by omega)
      have e1 : bits .and .u32 (us.getD 0 0) 1 = 0 := by rw [and_one_u32 _ ru.1 ru.2]; exact q2
      have e2 : bits .and .u32 (vs.getD 0 0) 1 = 1 := by rw [and_one_u32 _ rv.1 rv.2]; omega
    all_goals
      have HO : Hid (Odd1 (val us) (val vs)) := ho
      clear hexit ho mu mv
      generalize us.getD 0 0 = U at *
      generalize vs.getD 0 0 = V at *
      obtain ⟨G, hG⟩ : ∃ G, Hid (G = gI (val us) (val vs)) := ⟨_, rfl⟩
      have HVAL : Hid (p2 t * G = gI (val xs) (val ys)) := by
        unfold Hid; rw [hG.out, hval.out.1, hval.out.2, gI_p2 t _ _ hun hvn]
      clear hun hvn
      go_wp2
      go_loopg [0, 1] (val us + val vs).toNat (fun g A Bv wr2 => ∃ (us2 vs2 : List Int) (a2 : Option Addr) (c2 : Nat) (a2' : Option Addr) (c2' : Nat), Hid (g = (val us2 + val vs2).toNat) ∧ can us2 ∧ can vs2 ∧ Hid (G = gI (val us2) (val vs2) ∧ Odd1 (val us2) (val vs2)) ∧ us2.length ≤ L ∧ vs2.length ≤ L ∧ A = .slice a2 us2.length c2 ∧ Bv = .slice a2' vs2.length c2' ∧ Own w.heap.size wr2 (.slice a2 us2.length c2) us2 ∧ Own w.heap.size wr2 (.slice a2' vs2.length c2') vs2 ∧ Below w.heap.size w wr2)
      case atStart => exact ⟨us, vs, _, c, _, c', rfl, cu, cv, ⟨hG.out, HO.out⟩, lu, lv, rfl, rfl, ou, ov, hbl⟩
      case round =>
        clear q0 ou ov hbl hs ru rv cu cv lu lv hval hg hG HO
        obtain ⟨us2, vs2, a2, c2, a2', c2', hg2, cu2, cv2, hval2, lu2, lv2, rfl, rfl, ou2, ov2, hbl2⟩ := hrel
        have hs2 := hbl2.size
        have hun := (val_bound cu2.1).1
        have hvn := (val_bound cv2.1).1
        have HN : Hid (0 ≤ val us2 ∧ 0 ≤ val vs2) := ⟨hun, hvn⟩
        clear hun hvn
        by_cases hend : us2.length = 0 ∨ vs2.length = 0
        · have HG : Hid (val us2 + val vs2 = G) := by
            unfold Hid
            have h3 := HN.out
            rw [hval2.out.1]
            rcases hend with h | h
            · rw [(can_zero cu2).1 h, gI_zero_left _ h3.2]; omega
            · rw [(can_zero cv2).1 h, gI_zero _ h3.1]; omega
          have hend2 : (¬ 0 < us2.length) ∨ (0 < us2.length ∧ ¬ 0 < vs2.length) := by omega
          clear hend
          rcases hend2 with h5 | ⟨h5, h6⟩
          all_goals
            go_wp2_with fail
            refine (refAdd_any ou2.rd (Nat.le_refl _) ov2.rd (Nat.le_refl _) (by omega) (by omega)).mono ?_
            rintro e w3 ⟨zs, cz, vz, lz, a3, c3, rfl, o3, b3⟩
            have s3 := b3.size
            rw [HG.out] at vz
            have HZ : Hid (val zs * p2 t = gI (val xs) (val ys)) := by unfold Hid; rw [vz, Int.mul_comm]; exact HVAL.out
            clear vz h5
            have bw3 : Below w.heap.size w w3 := hbl2.trans (b3.mono hs2)
            go_wp2
            go_loopw [5, 6] (fun tt gg wr3 => ∃ (t' : Nat) (us3 : List Int) (a4 : Option Addr) (c4 : Nat), t' ≤ t ∧ tt = .int .i64 t' ∧ can us3 ∧ Hid (val us3 * p2 t' = gI (val xs) (val ys)) ∧ us3.length ≤ L + 1 ∧ gg = .slice a4 us3.length c4 ∧ Own w.heap.size wr3 (.slice a4 us3.length c4) us3 ∧ Below w.heap.size w wr3)
              (fun tt _ _ => (intOf tt).toNat)
            case atStart => exact ⟨t, zs, a3, c3, Nat.le_refl _, rfl, cz, HZ, by omega, rfl, o3.mono hs2, bw3⟩
            case round =>
              obtain ⟨t', us3, a4, c4, htt, rfl, cu3, hval3, lu3, rfl, ou3, hbl3⟩ := hrel
              have hs3 := hbl3.size
              by_cases ht0 : t' = 0
              · subst ht0
                have HE : Hid (val us3 = gI (val xs) (val ys)) := by have := hval3.out; unfold Hid; simpa [p2] using this
                go_wp2
                go_ret
                exact ⟨us3, cu3, HE.out, lu3, a4, c4, rfl, ou3, hbl3⟩
              · go_wp2_with fail
                refine (refTwice_any 0 (by omega) ou3.rd (Nat.le_refl _) (by omega)).mono ?_
                rintro e w5 ⟨z5, can5, v5, a5, c5, rfl, o5, bl5⟩
                have HV5 : Hid (val z5 * p2 (t' - 1) = gI (val xs) (val ys)) := by
                  unfold Hid
                  rw [v5, ← hval3.out]
                  obtain ⟨k, rfl⟩ : ∃ k, t' = k + 1 := ⟨t' - 1, by omega⟩
                  rw [p2_succ, Int.add_zero, Nat.add_sub_cancel, Int.mul_assoc, Int.mul_left_comm]
                have hl5 : z5.length ≤ L + 1 := len_of_lt can5 (by
                  have h6 := gI_le (val xs) (val ys) HA.out.1 HY.out.1
                  have h7 := HA.out
                  have h8 := HY.out
                  have h9 : val z5 * 1 ≤ val z5 * p2 (t' - 1) := Int.mul_le_mul_of_nonneg_left (by have := p2_pos (t' - 1); omega) (val_bound can5.1).1
                  have := HV5.out
                  rw [pw_succ]
                  omega)
                clear v5
                go_wp2
                go_roundw
                case rel => exact ⟨t' - 1, z5, a5, c5, by omega, by go_num, can5, HV5, hl5, rfl, o5.mono hs3, hbl3.trans (bl5.mono hs3)⟩
                case measure => simp [intOf]; omega
        · have hu1 : 0 < us2.length := by omega
          have hv1 : 0 < vs2.length := by omega
          clear hend
          have hup := pos_len cu2 (by omega)
          have hvp := pos_len cv2 (by omega)
          have mu := val_mod2 us2
          have mv := val_mod2 vs2
          have ru := lim_getD cu2.1 0
          have rv := lim_getD cv2.1 0
          have bu := (val_bound cu2.1).2
          have bv := (val_bound cv2.1).2
          have HP : Hid (0 < val us2 ∧ 0 < val vs2 ∧ val us2 < pw us2.length ∧ val vs2 < pw vs2.length) := ⟨hup, hvp, bu, bv⟩
          obtain ⟨g1, f1, rfl, k1⟩ := low_cell ou2 (by omega)
          obtain ⟨g2, f2, rfl, k2⟩ := low_cell ov2 (by omega)
          have hodd := hval2.out.2
          have hG2 := hval2.out.1
          clear hup hvp bu bv
          by_cases hue : us2.getD 0 0 % 2 = 0
          · have e1 : bits .and .u32 (us2.getD 0 0) 1 = 0 := by rw [and_one_u32 _ ru.1 ru.2]; exact hue
            have hvo : ¬ val vs2 % 2 = 0 := by
              rcases hodd with h | h | h | h
              · have := HP.out; omega
              · have := HP.out; omega
              · exact absurd (mu.trans hue) h
              · exact h
            have HG3 : Hid (G = gI (val us2 / 2) (val vs2) ∧ Odd1 (val us2 / 2) (val vs2)) := ⟨by rw [hG2]; exact gI_even _ _ HN.out.1 HN.out.2 (mu.trans hue) hvo, Or.inr (Or.inr (Or.inr hvo))⟩
            clear hodd hG2 hvo mu mv hval2
            generalize us2.getD 0 0 = U at *
            generalize vs2.getD 0 0 = V at *
            go_wp2_with fail
            refine (refHalf_any ou2.rd (Nat.le_refl _) (by omega)).mono ?_
            rintro e w3 ⟨z1, cz1, vz1, a3, c3, rfl, o3, b3⟩
            have s3 := b3.size
            have ov3 := ov2.below b3 (Nat.le_refl _)
            rw [← vz1] at HG3
            have HZ1 : Hid (val z1 = val us2 / 2) := vz1
            clear vz1
            have l1 : z1.length ≤ us2.length := len_of_lt cz1 (by have := HZ1.out; have := HP.out; omega)
            go_wp2
            go_roundg (val z1 + val vs2).toNat
            case measure => have := hg2.out; have := HZ1.out; have := HP.out; omega
            case rel => exact ⟨z1, vs2, a3, c3, _, c2', rfl, cz1, cv2, HG3, by omega, lv2, rfl, rfl, o3.mono hs2, ov3, hbl2.trans (b3.mono hs2)⟩
          · have e1 : bits .and .u32 (us2.getD 0 0) 1 = 1 := by rw [and_one_u32 _ ru.1 ru.2]; omega
            have huo : ¬ val us2 % 2 = 0 := fun h => hue (mu.symm.trans h)
            by_cases hve : vs2.getD 0 0 % 2 = 0
            · have e2 : bits .and .u32 (vs2.getD 0 0) 1 = 0 := by rw [and_one_u32 _ rv.1 rv.2]; exact hve
              have HG3 : Hid (G = gI (val us2) (val vs2 / 2) ∧ Odd1 (val us2) (val vs2 / 2)) := ⟨by rw [hG2]; exact gI_even' _ _ HN.out.1 HN.out.2 (mv.trans hve) huo, Or.inr (Or.inr (Or.inl huo))⟩
              clear hodd hG2 huo mu mv hval2
              generalize us2.getD 0 0 = U at *
              generalize vs2.getD 0 0 = V at *
              go_wp2_with fail
              refine (refHalf_any ov2.rd (Nat.le_refl _) (by omega)).mono ?_
              rintro e w3 ⟨z1, cz1, vz1, a3, c3, rfl, o3, b3⟩
              have s3 := b3.size
              have ou3 := ou2.below b3 (Nat.le_refl _)
              rw [← vz1] at HG3
              have HZ1 : Hid (val z1 = val vs2 / 2) := vz1
              clear vz1
              have l1 : z1.length ≤ vs2.length := len_of_lt cz1 (by have := HZ1.out; have := HP.out; omega)
              go_wp2
              go_roundg (val us2 + val z1).toNat
              case measure => have := hg2.out; have := HZ1.out; have := HP.out; omega
              case rel => exact ⟨us2, z1, _, c2, a3, c3, rfl, cu2, cz1, HG3, lu2, by omega, rfl, rfl, ou3, o3.mono hs2, hbl2.trans (b3.mono hs2)⟩
            · have e2 : bits .and .u32 (vs2.getD 0 0) 1 = 1 := by rw [and_one_u32 _ rv.1 rv.2]; omega
              have hvo : ¬ val vs2 % 2 = 0 := fun h => hve (mv.symm.trans h)
              have HUV : Hid (¬ val us2 % 2 = 0 ∧ ¬ val vs2 % 2 = 0) := ⟨huo, hvo⟩
              clear hodd huo hvo mu mv
              generalize us2.getD 0 0 = U at *
              generalize vs2.getD 0 0 = V at *
              by_cases hge : val vs2 ≤ val us2
              · obtain ⟨cm, hcm, hcm0⟩ : ∃ cm, cmpI (val us2) (val vs2) = cm ∧ 0 ≤ cm := by
                  by_cases he : val us2 = val vs2
                  · exact ⟨0, cmpI_eq he, by omega⟩
                  · exact ⟨1, cmpI_gt (by omega), by omega⟩
                have HG3 : Hid (G = gI (val us2 - val vs2) (val vs2) ∧ Odd1 (val us2 - val vs2) (val vs2)) := ⟨by rw [hG2]; exact gI_sub _ _ HN.out.2 hge, Or.inr (Or.inr (Or.inr HUV.out.2))⟩
                have HGE : Hid (val vs2 ≤ val us2) := hge
                clear hge hG2 hval2
                go_wp2_with fail
                refine (refCompare_rd ou2.rd ov2.rd (Nat.le_refl _) (by omega) (by omega)).mono ?_
                rintro e w3 ⟨rfl, b3⟩
                rw [hcm]
                clear hcm
                have s3 := b3.size
                have ou3 := ou2.below b3 (Nat.le_refl _)
                have ov3 := ov2.below b3 (Nat.le_refl _)
                go_wp2_with fail
                refine (refMinus_any ou3.rd (Nat.le_refl _) ov3.rd (Nat.le_refl _) (by omega) (by omega)).mono ?_
                rintro e w4 ⟨bl4, hmin⟩
                rw [if_neg (by have := HGE.out; omega)] at hmin
                obtain ⟨z1, a4, c4, cz1, vz1, rfl, o4⟩ := hmin
                have s4 := bl4.size
                have ov4 := ov3.below bl4 (Nat.le_refl _)
                rw [← vz1] at HG3
                have HZ1 : Hid (val z1 = val us2 - val vs2) := vz1
                clear vz1
                have l1 : z1.length ≤ us2.length := len_of_lt cz1 (by have := HZ1.out; have := HP.out; omega)
                go_wp2
                go_roundg (val z1 + val vs2).toNat
                case measure => have := hg2.out; have := HZ1.out; have := HP.out; omega
                case rel => exact ⟨z1, vs2, a4, c4, _, c2', rfl, cz1, cv2, HG3, by omega, lv2, rfl, rfl, o4.mono (by omega), ov4, hbl2.trans ((b3.mono hs2).trans (bl4.mono (by omega)))⟩
              · have hcm := cmpI_lt (show val us2 < val vs2 by omega)
                have HG3 : Hid (G = gI (val us2) (val vs2 - val us2) ∧ Odd1 (val us2) (val vs2 - val us2)) := ⟨by rw [hG2]; exact gI_sub' _ _ HN.out.1 (by omega), Or.inr (Or.inr (Or.inl HUV.out.1))⟩
                have HGE : Hid (val us2 < val vs2) := by unfold Hid; omega
                clear hge hG2 hval2
                go_wp2_with fail
                refine (refCompare_rd ou2.rd ov2.rd (Nat.le_refl _) (by omega) (by omega)).mono ?_
                rintro e w3 ⟨rfl, b3⟩
                rw [hcm]
                clear hcm
                have s3 := b3.size
                have ou3 := ou2.below b3 (Nat.le_refl _)
                have ov3 := ov2.below b3 (Nat.le_refl _)
                go_wp2_with fail
                refine (refMinus_any ov3.rd (Nat.le_refl _) ou3.rd (Nat.le_refl _) (by omega) (by omega)).mono ?_
                rintro e w4 ⟨bl4, hmin⟩
                rw [if_neg (by have := HGE.out; omega)] at hmin
                obtain ⟨z1, a4, c4, cz1, vz1, rfl, o4⟩ := hmin
                have s4 := bl4.size
                have ou4 := ou3.below bl4 (Nat.le_refl _)
                rw [← vz1] at HG3
                have HZ1 : Hid (val z1 = val vs2 - val us2) := vz1
                clear vz1
                have l1 : z1.length ≤ vs2.length := len_of_lt cz1 (by have := HZ1.out; have := HP.out; omega)
                go_wp2
                go_roundg (val us2 + val z1).toNat
                case measure => have := hg2.out; have := HZ1.out; have := HP.out; omega
                case rel => exact ⟨us2, z1, _, c2, a4, c4, rfl, cu2, cz1, HG3, lu2, by omega, rfl, rfl, ou4, o4.mono (by omega), hbl2.trans ((b3.mono hs2).trans (bl4.mono (by omega)))⟩
end Go.Proofs.YtibciilhfpgjjaaDoor
