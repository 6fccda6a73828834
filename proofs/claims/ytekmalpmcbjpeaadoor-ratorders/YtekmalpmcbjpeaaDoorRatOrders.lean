/- The walk over RatOrders: numbers are in one order. -/
import Derived.Test.YtekmalpmcbjpeaaDoorJ4
import Derived.Test.YtekmalpmcbjpeaaDoorJ5
namespace Go.Proofs.YtekmalpmcbjpeaaDoor
set_option linter.unusedVariables false
set_option linter.unusedSimpArgs false
open Go.RowKit

theorem order_trans {X Y Z xd yd zd : Int} (hx : 0 < xd) (hy : 0 < yd) (hz : 0 < zd) (h1 : X * yd ≤ Y * xd) (h2 : Y * zd ≤ Z * yd) : X * zd ≤ Z * xd := by
  have e1 : X * yd * zd ≤ Y * xd * zd := Int.mul_le_mul_of_nonneg_right h1 (Int.le_of_lt hz)
  have e2 : Y * zd * xd ≤ Z * yd * xd := Int.mul_le_mul_of_nonneg_right h2 (Int.le_of_lt hx)
  have e3 : X * yd * zd = X * zd * yd := by ac_rfl
  have e4 : Y * xd * zd = Y * zd * xd := by ac_rfl
  have e5 : Z * yd * xd = Z * xd * yd := by ac_rfl
  rw [e3, e4] at e1
  rw [e5] at e2
  exact Int.le_of_mul_le_mul_right (Int.le_trans e1 e2) hy
theorem cmpI_le {a b : Int} : cmpI a b ≤ 0 ↔ a ≤ b := by
  unfold cmpI
  split
  · omega
  · split <;> omega
theorem cmpI_zero {a b : Int} : cmpI a b = 0 ↔ a = b := by
  unfold cmpI
  split
  · omega
  · split <;> omega

set_option maxRecDepth 100000 in
set_option maxHeartbeats 16000000 in
theorem ratOrders_walk {w : World} {bx cy dz : Bool} {a1 a2 a3 a4 a5 a6 : Option Addr} {c1 c2 c3 c4 c5 c6 : Nat} {xn xd yn yd zn zd : List Int} (h1 : Rd w.heap.size w (.slice a1 xn.length c1) xn) (h2 : Rd w.heap.size w (.slice a2 xd.length c2) xd) (h3 : Rd w.heap.size w (.slice a3 yn.length c3) yn) (h4 : Rd w.heap.size w (.slice a4 yd.length c4) yd) (h5 : Rd w.heap.size w (.slice a5 zn.length c5) zn) (h6 : Rd w.heap.size w (.slice a6 zd.length c6) zd) (htab : Lib.TabIs Tryd.prog w "internal/strconv.uint64pow10" .u64 Lib.pow10Tab) :
    Calls Tryd.prog 5 #[.agg #[.bool bx, .slice a1 xn.length c1, .slice a2 xd.length c2], .agg #[.bool cy, .slice a3 yn.length c3, .slice a4 yd.length c4], .agg #[.bool dz, .slice a5 zn.length c5, .slice a6 zd.length c6]] w fun e w' => e = .returned (.bool true) ∧ Below w.heap.size w w' := by
  obtain ⟨X, Y, Z, b0⟩ := nvar_in3 (bx := bx) (cy := cy) (dz := dz) h1 h2 h3 h4 h5 h6
  clear h1 h2 h3 h4 h5 h6
  go_enter Tryd.func5, Tryd.ntmps5
  go_wp2
  generalize hA : ((w.alloc (.cells #[.bool bx, .slice a1 xn.length c1, .slice a2 xd.length c2] 24)).alloc (.cells #[.bool cy, .slice a3 yn.length c3, .slice a4 yd.length c4] 24)).alloc (.cells #[.bool dz, .slice a5 zn.length c5, .slice a6 zd.length c6] 24) = v at *
  clear hA
  have hcells : ∀ {w' : World}, Below v.heap.size v w' → w'.cell? ⟨w.heap.size, 0, none⟩ = some (.bool bx) ∧ w'.cell? ⟨w.heap.size, 1, none⟩ = some (.slice a1 xn.length c1) ∧ w'.cell? ⟨w.heap.size, 2, none⟩ = some (.slice a2 xd.length c2) ∧ w'.cell? ⟨w.heap.size + 1, 0, none⟩ = some (.bool cy) ∧ w'.cell? ⟨w.heap.size + 1, 1, none⟩ = some (.slice a3 yn.length c3) ∧ w'.cell? ⟨w.heap.size + 1, 2, none⟩ = some (.slice a4 yd.length c4) ∧ w'.cell? ⟨w.heap.size + 1 + 1, 0, none⟩ = some (.bool dz) ∧ w'.cell? ⟨w.heap.size + 1 + 1, 1, none⟩ = some (.slice a5 zn.length c5) ∧ w'.cell? ⟨w.heap.size + 1 + 1, 2, none⟩ = some (.slice a6 zd.length c6) := fun hb => ⟨(X.below hb).k0, (X.below hb).k1, (X.below hb).k2, (Y.below hb).k0, (Y.below hb).k1, (Y.below hb).k2, (Z.below hb).k0, (Z.below hb).k1, (Z.below hb).k2⟩
  obtain ⟨k0, k1, k2, k3, k4, k5, k6, k7, k8⟩ := hcells (Below.refl _ _)
  have Xd := X.drew
  have Yd := Y.drew
  go_region_held3 (fun w' => w'.cell? ⟨w.heap.size, 0, none⟩ = some (.bool bx) ∧ w'.cell? ⟨w.heap.size, 1, none⟩ = some (.slice a1 xn.length c1) ∧ w'.cell? ⟨w.heap.size, 2, none⟩ = some (.slice a2 xd.length c2) ∧ w'.cell? ⟨w.heap.size + 1, 0, none⟩ = some (.bool cy) ∧ w'.cell? ⟨w.heap.size + 1, 1, none⟩ = some (.slice a3 yn.length c3) ∧ w'.cell? ⟨w.heap.size + 1, 2, none⟩ = some (.slice a4 yd.length c4) ∧ w'.cell? ⟨w.heap.size + 1 + 1, 0, none⟩ = some (.bool dz) ∧ w'.cell? ⟨w.heap.size + 1 + 1, 1, none⟩ = some (.slice a5 zn.length c5) ∧ w'.cell? ⟨w.heap.size + 1 + 1, 2, none⟩ = some (.slice a6 zd.length c6))
    (first | (go_keep; done) | exact tw | exact tw2 | exact tw3)
    (first
      | (have h2' := q2; go_at_call 17; refine (compare_rat X2.rn X2.rd Z2.rn Z2.rd (Nat.le_refl _)).mono ?_; rintro e w3 ⟨q3, rc, rfl, rc0, rc1⟩; have HC : Hid ((¬ (RightP bx xn xd ∧ RightP dz zn zd) → rc = 0) ∧ ((RightP bx xn xd ∧ RightP dz zn zd) → rc = cmpI (sg bx (val xn) * val zd) (sg dz (val zn) * val xd))) := ⟨rc0, rc1⟩; clear rc0 rc1; have t3 : Below v.heap.size v w3 := t2.trans (q3.mono t2.size); have tw3 := hcells t3)
      | (have h1' := q1; go_at_call 17; refine (compare_rat Y1.rn Y1.rd Z1.rn Z1.rd (Nat.le_refl _)).mono ?_; rintro e w2 ⟨q2, rb, rfl, rb0, rb1⟩; have HB : Hid ((¬ (RightP cy yn yd ∧ RightP dz zn zd) → rb = 0) ∧ ((RightP cy yn yd ∧ RightP dz zn zd) → rb = cmpI (sg cy (val yn) * val zd) (sg dz (val zn) * val yd))) := ⟨rb0, rb1⟩; clear rb0 rb1; have t2 : Below v.heap.size v w2 := t1.trans (q2.mono t1.size); have tw2 := hcells t2; have X2 := X.below t2; have Z2 := Z.below t2)
      | (go_at_call 17; refine (compare_rat Xd.rn Xd.rd Yd.rn Yd.rd (Nat.le_refl _)).mono ?_; rintro e w1 ⟨q1, ra, rfl, ra0, ra1⟩; have HA : Hid ((¬ (RightP bx xn xd ∧ RightP cy yn yd) → ra = 0) ∧ ((RightP bx xn xd ∧ RightP cy yn yd) → ra = cmpI (sg bx (val xn) * val yd) (sg cy (val yn) * val xd))) := ⟨ra0, ra1⟩; clear ra0 ra1; have t1 : Below v.heap.size v w1 := below_undrew q1; have tw := hcells t1; have Y1 := Y.below t1; have Z1 := Z.below t1))
  all_goals
    have X3 := X.below t3
    have Y3 := Y.below t3
    have Z3 := Z.below t3
    have g3 : Below w.heap.size w w3 := b0.trans (t3.mono b0.size)
    clear k0 k1 k2 k3 k4 k5 k6 k7 k8 tw tw2 q1 q2 q3 t1 t2 X2 Z2 Y1 Z1 Xd Yd X Y Z hcells b0
    obtain ⟨m0, m1, m2, m3, m4, m5, m6, m7, m8⟩ := tw3
    go_wp2_with fail
    refine (right_rat X3.rn X3.rd (Nat.le_refl _)).mono ?_
    rintro e u1 ⟨⟨r, rfl, hr⟩, j1⟩
    replace X3 := X3.below j1
    replace Y3 := Y3.below j1
    replace Z3 := Z3.below j1
    have f1 : Below w.heap.size w u1 := g3.trans (j1.mono g3.size)
    clear m0 m1 m2 m3 m4 m5 m6 m7 m8
    obtain ⟨m0, m1, m2⟩ := X3.cells
    obtain ⟨m3, m4, m5⟩ := Y3.cells
    obtain ⟨m6, m7, m8⟩ := Z3.cells
    cases r with
    | false =>
      clear hr
      go_wp2_with fail
      refine (live_rat _ (tabIs_below htab f1)).mono ?_
      rintro e wl ⟨rfl, kl⟩
      go_wp2
      go_ret
      exact ⟨rfl, f1.trans (kl.mono f1.size)⟩
    | true =>
      have P1 : Hid (RightP bx xn xd) := hr.1 rfl
      clear hr
      go_wp2_with fail
      refine (right_rat Y3.rn Y3.rd (Nat.le_refl _)).mono ?_
      rintro e u2 ⟨⟨r, rfl, hr⟩, j2⟩
      replace X3 := X3.below j2
      replace Y3 := Y3.below j2
      replace Z3 := Z3.below j2
      have f2 : Below w.heap.size w u2 := f1.trans (j2.mono f1.size)
      clear m0 m1 m2 m3 m4 m5 m6 m7 m8
      obtain ⟨m0, m1, m2⟩ := X3.cells
      obtain ⟨m3, m4, m5⟩ := Y3.cells
      obtain ⟨m6, m7, m8⟩ := Z3.cells
      cases r with
      | false =>
        clear hr
        go_wp2_with fail
        refine (live_rat _ (tabIs_below htab f2)).mono ?_
        rintro e wl ⟨rfl, kl⟩
        go_wp2
        go_ret
        exact ⟨rfl, f2.trans (kl.mono f2.size)⟩
      | true =>
        have P2 : Hid (RightP cy yn yd) := hr.1 rfl
        clear hr
        go_wp2_with fail
        refine (right_rat Z3.rn Z3.rd (Nat.le_refl _)).mono ?_
        rintro e u3 ⟨⟨r, rfl, hr⟩, j3⟩
        replace X3 := X3.below j3
        replace Y3 := Y3.below j3
        replace Z3 := Z3.below j3
        have f3 : Below w.heap.size w u3 := f2.trans (j3.mono f2.size)
        clear m0 m1 m2 m3 m4 m5 m6 m7 m8
        obtain ⟨m0, m1, m2⟩ := X3.cells
        obtain ⟨m3, m4, m5⟩ := Y3.cells
        obtain ⟨m6, m7, m8⟩ := Z3.cells
        cases r with
        | false =>
          clear hr
          go_wp2_with fail
          refine (live_rat _ (tabIs_below htab f3)).mono ?_
          rintro e wl ⟨rfl, kl⟩
          go_wp2
          go_ret
          exact ⟨rfl, f3.trans (kl.mono f3.size)⟩
        | true =>
          have P3 : Hid (RightP dz zn zd) := hr.1 rfl
          clear hr
          go_wp2_with fail
          refine (live_rat _ (tabIs_below htab f3)).mono ?_
          rintro e u4 ⟨rfl, j4⟩
          replace X3 := X3.below j4
          replace Y3 := Y3.below j4
          have f4 : Below w.heap.size w u4 := f3.trans (j4.mono f3.size)
          clear m0 m1 m2 m3 m4 m5 m6 m7 m8
          obtain ⟨m0, m1, m2⟩ := X3.cells
          obtain ⟨m3, m4, m5⟩ := Y3.cells
          have HT : Hid ((ra ≤ 0 → rb ≤ 0 → rc ≤ 0) ∧ (ra = 0 → bx = cy ∧ xn = yn ∧ xd = yd)) := by
            have ea := HA.out.2 ⟨P1.out, P2.out⟩
            have eb := HB.out.2 ⟨P2.out, P3.out⟩
            have ec := HC.out.2 ⟨P1.out, P3.out⟩
            refine ⟨fun h1 h2 => ?_, fun h0 => ?_⟩
            · rw [ea, cmpI_le] at h1
              rw [eb, cmpI_le] at h2
              rw [ec, cmpI_le]
              exact order_trans (right_pos P1.out).1 (right_pos P2.out).1 (right_pos P3.out).1 h1 h2
            · rw [ea, cmpI_zero] at h0
              exact lowest P1.out P2.out h0
          by_cases h0 : ra = 0
          · obtain ⟨rfl, rfl, rfl⟩ := HT.out.2 h0
            subst h0
            by_cases hb : rb ≤ 0
            · have hc : rc ≤ 0 := HT.out.1 (by omega) hb
              go_wp2_with fail
              refine (same_rat X3.rn X3.rd Y3.rn Y3.rd).mono ?_
              rintro e u5 ⟨rfl, j5⟩
              go_wp2
              go_ret
              exact ⟨rfl, f4.trans (j5.mono f4.size)⟩
            · go_wp2_with fail
              refine (same_rat X3.rn X3.rd Y3.rn Y3.rd).mono ?_
              rintro e u5 ⟨rfl, j5⟩
              go_wp2
              go_ret
              exact ⟨rfl, f4.trans (j5.mono f4.size)⟩
          · have h0' : (ra != 0) = true := by rw [bne_iff_ne]; exact h0
            have h0'' : (ra == 0) = false := by rw [beq_eq_false_iff_ne]; exact h0
            by_cases ha : ra ≤ 0
            · by_cases hb : rb ≤ 0
              · have hc : rc ≤ 0 := HT.out.1 ha hb
                go_wp2
                go_ret
                exact ⟨rfl, f4⟩
              · go_wp2
                go_ret
                exact ⟨rfl, f4⟩
            · go_wp2
              go_ret
              exact ⟨rfl, f4⟩
end Go.Proofs.YtekmalpmcbjpeaaDoor
