/- The document's measure of any array. -/
import Derived.Test.YtnlmjibdifbnbaaGreatK8
namespace Go.Proofs.YtnlmjibdifbnbaaGreat
set_option linter.unusedVariables false
set_option linter.unusedSimpArgs false
open Go.RowKit

def CutP (P : Prop) (q : Value) : Prop := ∃ r, q = .bool r ∧ (r = true ↔ P)
set_option maxRecDepth 100000 in
set_option maxHeartbeats 6400000 in
theorem rmeas_step {L : Nat} (hL : L ≤ 16) (hM : RMeasOK L) : RMeasOK (L + 1) := by
  intro f D W x1 n1 y1 x2 n2 y2 t deep most hdeep hm0 hm1 hD h
  obtain ⟨f, rfl⟩ : ∃ f', f = f' + 1 := by
    cases f with
    | zero => exact h.elim
    | succ f => exact ⟨f, rfl⟩
  obtain rfl := h.1.len
  obtain rfl := h.2.len
  have bd1 := h.1.bounds
  have bd2 := h.2.bounds
  have HM : Hid (RMeasOK L) := hM
  have H : Hid (ArV (f + 1) D W (.slice x1 t.ns.length y1) (.slice x2 t.kids.length y2) t) := h
  have HD : Hid (∀ g, D g → g < W.heap.size) := hD
  have HDP : Hid (deep = 17 - ((L + 1 : Nat) : Int)) := hdeep
  have hdp : 0 ≤ deep ∧ deep ≤ 16 := by omega
  clear hM h hD hdeep
  have X := boxA_new W #[.slice x1 t.ns.length y1, .slice x2 t.kids.length y2] 25
  have g := below_alloc W (.cells #[.slice x1 t.ns.length y1, .slice x2 t.kids.length y2] 25)
  have sv : (W.alloc (.cells #[.slice x1 t.ns.length y1, .slice x2 t.kids.length y2] 25)).heap.size = W.heap.size + 1 := by simp
  have z0 := X.cell 0 rfl
  have z1 := X.cell 1 rfl
  go_enter Tryz.func33, Tryz.ntmps33
  go_wp2_with fail
  generalize hA : W.alloc (.cells #[.slice x1 t.ns.length y1, .slice x2 t.kids.length y2] 25) = v at *
  clear hA
  refine (refSize3_any (H.out.1.imp (fun _ h => h) (Agree.of g HD.out)) (fun g hg => by have := HD.out g hg; omega)).mono ?_
  rintro e w' ⟨rfl, hw⟩
  obtain rfl := hw.symm
  have hsi := sizeF_in t.ns
  by_cases he : (sizeF t.ns).2 = 0
  case neg =>
    have HE : Hid (refF (L + 1) t most = none) := by unfold Hid; rw [refF, if_neg (fun h => he h.1)]
    generalize (sizeF t.ns).2 = E at *
    generalize (sizeF t.ns).1 = N at *
    have d1 : (E != 0) = true := by rw [bne_iff_ne]; exact he
    clear he
    go_wp2
    go_ret3
    exact ⟨by rw [HE.out]; rfl, g⟩
  case pos =>
    have HEz : Hid ((sizeF t.ns).2 = 0) := he
    have d1 : ((sizeF t.ns).2 != 0) = false := by rw [bne_eq_false_iff_eq]; exact he
    clear he
    obtain ⟨M, hMx⟩ : ∃ M, max (sizeF t.ns).1 1 = M := ⟨_, rfl⟩
    have HMx : Hid (max (sizeF t.ns).1 1 = M) := hMx
    generalize hE : (sizeF t.ns).2 = E at *
    generalize hN : (sizeF t.ns).1 = N at *
    by_cases hc : (t.kids.length : Int) = M ∧ (t.kids.length : Int) ≤ most
    case neg =>
      have HE : Hid (refF (L + 1) t most = none) := by unfold Hid; rw [refF, if_neg]; rintro ⟨_, h2, h3⟩; rw [hN] at h2; exact hc ⟨by rw [h2, hMx], h3⟩
      clear hE hN
      by_cases hz : N = 0
      · have dz : (N == 0) = true := by rw [beq_iff_eq]; exact hz
        obtain rfl : M = 1 := by omega
        by_cases hl : (t.kids.length : Int) = 1
        · have dl : ((t.kids.length : Int) != 1) = false := by rw [bne_eq_false_iff_eq]; exact hl
          have dm : most < 1 := by have := fun h => hc ⟨hl, h⟩; omega
          clear hc hl hz
          go_wp2
          go_ret3
          exact ⟨by rw [HE.out]; rfl, g⟩
        · have dl : ((t.kids.length : Int) != 1) = true := by rw [bne_iff_ne]; exact hl
          clear hc hl hz
          go_wp2
          go_ret3
          exact ⟨by rw [HE.out]; rfl, g⟩
      · have dz : (N == 0) = false := by rw [beq_eq_false_iff_ne]; exact hz
        obtain rfl : M = N := by omega
        by_cases hl : (t.kids.length : Int) = M
        · have dl : ((t.kids.length : Int) != M) = false := by rw [bne_eq_false_iff_eq]; exact hl
          have dm : most < M := by have := fun h => hc ⟨hl, h⟩; omega
          clear hc hl hz
          go_wp2
          go_ret3
          exact ⟨by rw [HE.out]; rfl, g⟩
        · have dl : ((t.kids.length : Int) != M) = true := by rw [bne_iff_ne]; exact hl
          clear hc hl hz
          go_wp2
          go_ret3
          exact ⟨by rw [HE.out]; rfl, g⟩
    case pos =>
      have HE : Hid (refF (L + 1) t most = finR t (refL (refF L) most t.kids (0, (t.kids.length : Int)))) := refF_succ ⟨hE.trans HEz.out, by rw [hN, hMx]; exact hc.1, hc.2⟩
      have dl : ((t.kids.length : Int) != M) = false := by rw [bne_eq_false_iff_eq]; exact hc.1
      have dm : ¬ most < M := by have := hc.1; have := hc.2; omega
      have HCL : Hid ((t.kids.length : Int) = M) := hc.1
      have hlm : (t.kids.length : Int) ≤ most := hc.2
      have HIN : Hid (∀ s r, 0 ≤ r → inR L r (refI (refF L) r s)) := fun s r hr => refI_in hr (fun s => refF_in L s r) s
      have hMx2 := hMx
      clear hc hE hN HEz HMx
      rcases (show (N = 0 ∧ M = 1) ∨ (¬ N = 0 ∧ M = N) by omega) with ⟨hz, rfl⟩ | ⟨hz, rfl⟩
      all_goals
        first
          | (have dz : (N == 0) = true := by rw [beq_iff_eq]; exact hz)
          | (have dz : (M == 0) = false := by rw [beq_eq_false_iff_ne]; exact hz)
        clear hz
        go_wp2
        clear z0 z1
        go_loopw [11, 12, 13] (fun dv cv iv wr => ∃ (i : Nat) (d c : Int), dv = .int .i64 d ∧ cv = .int .i64 c ∧ iv = .int .i64 i ∧ i ≤ t.kids.length ∧ 0 ≤ d ∧ d ≤ L ∧ 0 ≤ c ∧ c ≤ most ∧ Hid (refL (refF L) most t.kids (0, (t.kids.length : Int)) = refL (refF L) most (t.kids.drop i) (d, c)) ∧ Below v.heap.size v wr) (fun _ _ iv _ => t.kids.length - (intOf iv).toNat)
        case atStart => exact ⟨0, 0, _, rfl, rfl, rfl, Nat.zero_le _, by omega, by omega, by have := HCL.out; omega, by have := HCL.out; omega, (by unfold Hid; rw [List.drop_zero, HCL.out]), Below.refl _ _⟩
        case round =>
          obtain ⟨i, d, c, rfl, rfl, rfl, hil, hd1, hd2, hc1, hc2, HL, hb⟩ := hrel
          have hsz := hb.size
          have gr : Below W.heap.size W wr := g.trans (hb.mono (by omega))
          have Xr := X.below hb (by omega)
          have z0 := Xr.cell 0 rfl
          have z1 := Xr.cell 1 rfl
          by_cases hlt : i < t.kids.length
          · obtain ⟨gx, ox, rfl, hgx, hcx⟩ := H.out.2.ptr (by omega)
            obtain ⟨a1, c1, a2, c2, a3, c3, ⟨e0, e1, e2, e3, e4, e5⟩, hp⟩ := hcx i hlt
            have E0 := (gr.cell (p := ⟨gx, ox + i * 6, none⟩) (HD.out gx hgx)).trans e0
            have E1 := (gr.cell (p := ⟨gx, ox + i * 6 + 1, none⟩) (HD.out gx hgx)).trans e1
            have E2 := (gr.cell (p := ⟨gx, ox + i * 6 + 2, none⟩) (HD.out gx hgx)).trans e2
            have E3 := (gr.cell (p := ⟨gx, ox + i * 6 + 3, none⟩) (HD.out gx hgx)).trans e3
            have E4 := (gr.cell (p := ⟨gx, ox + i * 6 + 4, none⟩) (HD.out gx hgx)).trans e4
            have E5 := (gr.cell (p := ⟨gx, ox + i * 6 + 5, none⟩) (HD.out gx hgx)).trans e5
            have HST : Hid (refL (refF L) most t.kids (0, (t.kids.length : Int)) = match refI (refF L) (most - c) (t.kids.getD i tr0) with
                | none => none
                | some p => refL (refF L) most (t.kids.drop (i + 1)) (max d p.1, c + p.2)) := by
              have := refL_step (M := refF L) (most := most) hlt (d, c)
              rw [← HL.out] at this
              exact this
            clear HL hcx e0 e1 e2 e3 e4 e5
            generalize t.kids.getD i tr0 = T at *
            have NX := boxA_new wr #[.int .u8 T.k, .bool T.b, .slice a1 T.ns.length c1, .slice a2 T.ds.length c2, .int .i32 T.c, .slice a3 T.kids.length c3] 42
            have kx := below_alloc wr (.cells #[.int .u8 T.k, .bool T.b, .slice a1 T.ns.length c1, .slice a2 T.ds.length c2, .int .i32 T.c, .slice a3 T.kids.length c3] 42)
            have sx : wr.heap.size < (wr.alloc (.cells #[.int .u8 T.k, .bool T.b, .slice a1 T.ns.length c1, .slice a2 T.ds.length c2, .int .i32 T.c, .slice a3 T.kids.length c3] 42)).heap.size := by simp
            have gx2 : Below W.heap.size W (wr.alloc (.cells #[.int .u8 T.k, .bool T.b, .slice a1 T.ns.length c1, .slice a2 T.ds.length c2, .int .i32 T.c, .slice a3 T.kids.length c3] 42)) := gr.trans (kx.mono (by omega))
            have HIT : Hid (ItV (ArV f D (wr.alloc (.cells #[.int .u8 T.k, .bool T.b, .slice a1 T.ns.length c1, .slice a2 T.ds.length c2, .int .i32 T.c, .slice a3 T.kids.length c3] 42))) D (wr.alloc (.cells #[.int .u8 T.k, .bool T.b, .slice a1 T.ns.length c1, .slice a2 T.ds.length c2, .int .i32 T.c, .slice a3 T.kids.length c3] 42)) a1 c1 a2 c2 a3 c3 T) := hp.agree (Agree.of gx2 HD.out)
            have hr1 := HIT.out.rn.rd (B := (wr.alloc (.cells #[.int .u8 T.k, .bool T.b, .slice a1 T.ns.length c1, .slice a2 T.ds.length c2, .int .i32 T.c, .slice a3 T.kids.length c3] 42)).heap.size) (fun g hg => by have := HD.out g hg; omega)
            have hr2 := HIT.out.rd.rd (B := (wr.alloc (.cells #[.int .u8 T.k, .bool T.b, .slice a1 T.ns.length c1, .slice a2 T.ds.length c2, .int .i32 T.c, .slice a3 T.kids.length c3] 42)).heap.size) (fun g hg => by have := HD.out g hg; omega)
            have bd3 := HIT.out.bx.bounds
            go_upto_region 15 with fail
            generalize hA : wr.alloc (.cells #[.int .u8 T.k, .bool T.b, .slice a1 T.ns.length c1, .slice a2 T.ds.length c2, .int .i32 T.c, .slice a3 T.kids.length c3] 42) = wx at *
            clear hA E0 E1 E2 E3 E4 E5 hp
            have hl1 : T.ns.length ≤ 9223372036854775807 := by obtain ⟨_, _, _, _, _, h, _⟩ := hr1; omega
            have hl2 : T.ds.length ≤ 9223372036854775807 := by obtain ⟨_, _, _, _, _, h, _⟩ := hr2; omega
            have hDx : ∀ g, D g → g < wx.heap.size := fun g hg => by have := HD.out g hg; omega
            have hbx : Below v.heap.size v wx := hb.trans (kx.mono (by omega))
            go_cut [55] from 56 to 74 (fun q wz => CutP (T.k = 1 ∧ RightP T.b T.ns T.ds ∧ T.c = 0 ∧ T.kids.length = 0) q ∧ Below wx.heap.size wx wz)
            case first =>
              have m0 := NX.cell 0 rfl
              have m1 := NX.cell 1 rfl
              have m2 := NX.cell 2 rfl
              have m3 := NX.cell 3 rfl
              have m4 := NX.cell 4 rfl
              have m5 := NX.cell 5 rfl
              by_cases e1 : T.k = 1
              · have d1 : (T.k == 1) = true := by rw [beq_iff_eq]; exact e1
                have H1 : Hid (T.k = 1) := e1
                clear e1
                go_wp2_with fail
                refine (refRight_rat hr1 hr2).mono ?_
                rintro e wb ⟨⟨r, rfl, hr⟩, kb⟩
                have HR : Hid (r = true ↔ RightP T.b T.ns T.ds) := hr
                clear hr m0 m1 m2 m3 m4 m5
                have NB := NX.below kb (by omega)
                have m4 := NB.cell 4 rfl
                have m5 := NB.cell 5 rfl
                cases r with
                | false =>
                  have HA : Hid (¬ (T.k = 1 ∧ RightP T.b T.ns T.ds ∧ T.c = 0 ∧ T.kids.length = 0)) := fun h => by have := HR.out.2 h.2.1; cases this
                  go_wp2_with fail
                  go_meet
                  exact ⟨⟨false, rfl, (fun h => by cases h), fun h => absurd h HA.out⟩, kb⟩
                | true =>
                  by_cases hc : T.c = 0
                  · have dc : (T.c == 0) = true := by rw [beq_iff_eq]; exact hc
                    by_cases hk : T.kids.length = 0
                    · have dk : ((T.kids.length : Int) == 0) = true := by rw [beq_iff_eq]; omega
                      have HA : Hid (T.k = 1 ∧ RightP T.b T.ns T.ds ∧ T.c = 0 ∧ T.kids.length = 0) := ⟨H1.out, HR.out.1 rfl, hc, hk⟩
                      clear hc hk
                      go_wp2_with fail
                      go_meet
                      exact ⟨⟨true, rfl, fun _ => HA.out, fun _ => rfl⟩, kb⟩
                    · have dk : ((T.kids.length : Int) == 0) = false := by rw [beq_eq_false_iff_ne]; omega
                      have HA : Hid (¬ (T.k = 1 ∧ RightP T.b T.ns T.ds ∧ T.c = 0 ∧ T.kids.length = 0)) := fun h => hk h.2.2.2
                      clear hc hk
                      go_wp2_with fail
                      go_meet
                      exact ⟨⟨false, rfl, (fun h => by cases h), fun h => absurd h HA.out⟩, kb⟩
                  · have dc : (T.c == 0) = false := by rw [beq_eq_false_iff_ne]; exact hc
                    have HA : Hid (¬ (T.k = 1 ∧ RightP T.b T.ns T.ds ∧ T.c = 0 ∧ T.kids.length = 0)) := fun h => hc h.2.2.1
                    clear hc
                    go_wp2_with fail
                    go_meet
                    exact ⟨⟨false, rfl, (fun h => by cases h), fun h => absurd h HA.out⟩, kb⟩
              · have d1 : (T.k == 1) = false := by rw [beq_eq_false_iff_ne]; exact e1
                have HA : Hid (¬ (T.k = 1 ∧ RightP T.b T.ns T.ds ∧ T.c = 0 ∧ T.kids.length = 0)) := fun h => e1 h.1
                clear e1
                go_wp2_with fail
                go_meet
                exact ⟨⟨false, rfl, (fun h => by cases h), fun h => absurd h HA.out⟩, Below.refl _ _⟩
            case rest =>
              obtain ⟨⟨q1, rfl, hq1⟩, kz1⟩ := hcut
              generalize wc = wz1 at *
              have HQ1 : Hid (q1 = true ↔ (T.k = 1 ∧ RightP T.b T.ns T.ds ∧ T.c = 0 ∧ T.kids.length = 0)) := hq1
              clear hq1
              cases q1 with
              | true =>
                have HI : Hid (refI (refF L) (most - c) T = some (0, 0)) := refI_num (HQ1.out.1 rfl)
                have HL2 : Hid (refL (refF L) most t.kids (0, (t.kids.length : Int)) = refL (refF L) most (t.kids.drop (i + 1)) (d, c)) := by unfold Hid; rw [HST.out, HI.out]; simp only; rw [show max d 0 = d by omega, Int.add_zero]
                clear HST HIN
                go_wp2
                go_roundw
                case rel => exact ⟨i + 1, d, c, rfl, rfl, by go_num, by omega, hd1, hd2, hc1, hc2, HL2, hbx.trans (kz1.mono (by omega))⟩
                case measure => simp [intOf]; omega
              | false =>
                have HN1 : Hid (¬ (T.k = 1 ∧ RightP T.b T.ns T.ds ∧ T.c = 0 ∧ T.kids.length = 0)) := fun h => by have := HQ1.out.2 h; cases this
                clear HQ1
                go_upto_region 16 with fail
                go_cut [75] from 76 to 93 (fun q wz => CutP (T.k = 2 ∧ okR T.c ∧ noneB T = true ∧ T.kids.length = 0) q ∧ Below wx.heap.size wx wz)
                case first =>
                  have NZ := NX.below kz1 (by omega)
                  have m0 := NZ.cell 0 rfl
                  have m1 := NZ.cell 1 rfl
                  have m2 := NZ.cell 2 rfl
                  have m3 := NZ.cell 3 rfl
                  have m4 := NZ.cell 4 rfl
                  have m5 := NZ.cell 5 rfl
                  by_cases e2 : T.k = 2
                  · have d2 : (T.k == 2) = true := by rw [beq_iff_eq]; exact e2
                    have H2 : Hid (T.k = 2) := e2
                    clear e2
                    go_wp2_with fail
                    refine (refIsChar_any T.c _).mono ?_
                    rintro e wb ⟨⟨r, rfl, hr⟩, hw⟩
                    obtain rfl := hw.symm
                    have HR : Hid (r = true ↔ okR T.c) := hr
                    clear hr
                    cases r with
                    | false =>
                      have HA : Hid (¬ (T.k = 2 ∧ okR T.c ∧ noneB T = true ∧ T.kids.length = 0)) := fun h => by have := HR.out.2 h.2.1; cases this
                      go_wp2_with fail
                      go_meet
                      exact ⟨⟨false, rfl, (fun h => by cases h), fun h => absurd h HA.out⟩, kz1⟩
                    | true =>
                      go_wp2_with fail
                      refine (noNum_any T.k T.b a1 T.ns.length c1 a2 T.ds.length c2 T.c a3 T.kids.length c3 _ hl1 hl2).mono ?_
                      rintro e wc ⟨rfl, hwc⟩
                      have kc := below_alloc wz1 (.cells #[.int .u8 T.k, .bool T.b, .slice a1 T.ns.length c1, .slice a2 T.ds.length c2, .int .i32 T.c, .slice a3 T.kids.length c3] 42)
                      rw [← hwc] at kc
                      clear hwc m0 m1 m2 m3 m4 m5
                      have kzc : Below wx.heap.size wx wc := kz1.trans (kc.mono kz1.size)
                      have NC := NX.below kzc (by omega)
                      have m5 := NC.cell 5 rfl
                      have hN : noneB T = (!T.b && decide (T.ns.length = 0) && decide (T.ds.length = 0)) := rfl
                      rw [← hN]
                      clear hN
                      cases hn : noneB T with
                      | false =>
                        have HA : Hid (¬ (T.k = 2 ∧ okR T.c ∧ noneB T = true ∧ T.kids.length = 0)) := fun h => by rw [hn] at h; cases h.2.2.1
                        clear hn
                        go_wp2_with fail
                        go_meet
                        exact ⟨⟨false, rfl, (fun h => by cases h), fun h => absurd h HA.out⟩, kzc⟩
                      | true =>
                        by_cases hk : T.kids.length = 0
                        · have dk : ((T.kids.length : Int) == 0) = true := by rw [beq_iff_eq]; omega
                          have HA : Hid (T.k = 2 ∧ okR T.c ∧ noneB T = true ∧ T.kids.length = 0) := ⟨H2.out, (by first | exact HR.out.1 rfl | exact HR.out.1 trivial), hn, hk⟩
                          clear hn hk
                          go_wp2_with fail
                          go_meet
                          exact ⟨⟨true, rfl, fun _ => HA.out, fun _ => rfl⟩, kzc⟩
                        · have dk : ((T.kids.length : Int) == 0) = false := by rw [beq_eq_false_iff_ne]; omega
                          have HA : Hid (¬ (T.k = 2 ∧ okR T.c ∧ noneB T = true ∧ T.kids.length = 0)) := fun h => hk h.2.2.2
                          clear hn hk
                          go_wp2_with fail
                          go_meet
                          exact ⟨⟨false, rfl, (fun h => by cases h), fun h => absurd h HA.out⟩, kzc⟩
                  · have d2 : (T.k == 2) = false := by rw [beq_eq_false_iff_ne]; exact e2
                    have HA : Hid (¬ (T.k = 2 ∧ okR T.c ∧ noneB T = true ∧ T.kids.length = 0)) := fun h => e2 h.1
                    clear e2
                    go_wp2_with fail
                    go_meet
                    exact ⟨⟨false, rfl, (fun h => by cases h), fun h => absurd h HA.out⟩, kz1⟩
                case rest =>
                  obtain ⟨⟨q2, rfl, hq2⟩, kz2⟩ := hcut
                  generalize wc = wz2 at *
                  have HQ2 : Hid (q2 = true ↔ (T.k = 2 ∧ okR T.c ∧ noneB T = true ∧ T.kids.length = 0)) := hq2
                  clear hq2
                  cases q2 with
                  | true =>
                    have HI : Hid (refI (refF L) (most - c) T = some (0, 0)) := refI_ch (HQ2.out.1 rfl)
                    have HL2 : Hid (refL (refF L) most t.kids (0, (t.kids.length : Int)) = refL (refF L) most (t.kids.drop (i + 1)) (d, c)) := by unfold Hid; rw [HST.out, HI.out]; simp only; rw [show max d 0 = d by omega, Int.add_zero]
                    clear HST HIN
                    go_wp2
                    go_roundw
                    case rel => exact ⟨i + 1, d, c, rfl, rfl, by go_num, by omega, hd1, hd2, hc1, hc2, HL2, hbx.trans (kz2.mono (by omega))⟩
                    case measure => simp [intOf]; omega
                  | false =>
                    have HN2 : Hid (¬ (T.k = 2 ∧ okR T.c ∧ noneB T = true ∧ T.kids.length = 0)) := fun h => by have := HQ2.out.2 h; cases this
                    clear HQ2
                    go_upto_region 17 with fail
                    go_cut [94] from 95 to 120 (fun q wz => CutP (T.k = 3 ∧ T.kids.length = 1 ∧ noneB T = true ∧ T.c = 0 ∧ simpR (T.kids.getD 0 tr0) = false) q ∧ Below wx.heap.size wx wz)
                    case first =>
                      have NZ := NX.below kz2 (by omega)
                      have m0 := NZ.cell 0 rfl
                      have m1 := NZ.cell 1 rfl
                      have m2 := NZ.cell 2 rfl
                      have m3 := NZ.cell 3 rfl
                      have m4 := NZ.cell 4 rfl
                      have m5 := NZ.cell 5 rfl
                      by_cases e3 : T.k = 3
                      · have d3 : (T.k == 3) = true := by rw [beq_iff_eq]; exact e3
                        have H3 : Hid (T.k = 3) := e3
                        clear e3
                        by_cases hk : T.kids.length = 1
                        · have dk : ((T.kids.length : Int) == 1) = true := by rw [beq_iff_eq]; omega
                          have HK : Hid (T.kids.length = 1) := hk
                          have hpos : 0 < T.kids.length := by omega
                          clear hk
                          go_wp2_with fail
                          refine (noNum_any T.k T.b a1 T.ns.length c1 a2 T.ds.length c2 T.c a3 T.kids.length c3 _ hl1 hl2).mono ?_
                          rintro e wc ⟨rfl, hwc⟩
                          have kc := below_alloc wz2 (.cells #[.int .u8 T.k, .bool T.b, .slice a1 T.ns.length c1, .slice a2 T.ds.length c2, .int .i32 T.c, .slice a3 T.kids.length c3] 42)
                          rw [← hwc] at kc
                          clear hwc m0 m1 m2 m3 m4 m5
                          have kzc : Below wx.heap.size wx wc := kz2.trans (kc.mono kz2.size)
                          have NC := NX.below kzc (by omega)
                          have m4 := NC.cell 4 rfl
                          have m5 := NC.cell 5 rfl
                          have hN : noneB T = (!T.b && decide (T.ns.length = 0) && decide (T.ds.length = 0)) := rfl
                          rw [← hN]
                          clear hN
                          cases hn : noneB T with
                          | false =>
                            have HA : Hid (¬ (T.k = 3 ∧ T.kids.length = 1 ∧ noneB T = true ∧ T.c = 0 ∧ simpR (T.kids.getD 0 tr0) = false)) := fun h => by rw [hn] at h; cases h.2.2.1
                            clear hn
                            go_wp2_with fail
                            go_meet
                            exact ⟨⟨false, rfl, (fun h => by cases h), fun h => absurd h HA.out⟩, kzc⟩
                          | true =>
                            have HN : Hid (noneB T = true) := hn
                            clear hn
                            by_cases hcc : T.c = 0
                            · have dc : (T.c == 0) = true := by rw [beq_iff_eq]; exact hcc
                              have HC : Hid (T.c = 0) := hcc
                              clear hcc
                              obtain ⟨gy, oy, rfl, hgy, hcy⟩ := HIT.out.bx.ptr hpos
                              obtain ⟨u1, l1, s1, u2, l2, s2, t1, t2, hAr⟩ := hcy 0 hpos
                              rw [Nat.zero_mul, Nat.add_zero] at t1 t2
                              have T1 := (kzc.cell (p := ⟨gy, oy, none⟩) (hDx gy hgy)).trans t1
                              have T2 := (kzc.cell (p := ⟨gy, oy + 1, none⟩) (hDx gy hgy)).trans t2
                              have HAR : Hid (ArV f D wc (.slice u1 l1 s1) (.slice u2 l2 s2) (T.kids.getD 0 tr0)) := hAr.agree (Agree.of kzc hDx)
                              clear hcy t1 t2 hAr
                              obtain ⟨f2, rfl⟩ : ∃ f', f = f' + 1 := by
                                cases f with
                                | zero => exact HAR.out.elim
                                | succ f => exact ⟨f, rfl⟩
                              go_wp2_with fail
                              refine (refIsSimple_any HAR.out (fun g hg => by have := hDx g hg; have := kzc.size; omega)).mono ?_
                              rintro e wd ⟨rfl, hwd⟩
                              have kd := below_alloc wc (.cells #[.slice u1 l1 s1, .slice u2 l2 s2] 25)
                              rw [← hwd] at kd
                              clear hwd
                              have kzd : Below wx.heap.size wx wd := kzc.trans (kd.mono kzc.size)
                              cases hs : simpR (T.kids.getD 0 tr0) with
                              | true =>
                                have HA : Hid (¬ (T.k = 3 ∧ T.kids.length = 1 ∧ noneB T = true ∧ T.c = 0 ∧ simpR (T.kids.getD 0 tr0) = false)) := fun h => by rw [hs] at h; cases h.2.2.2.2
                                clear hs
                                go_wp2_with fail
                                go_meet
                                exact ⟨⟨false, rfl, (fun h => by cases h), fun h => absurd h HA.out⟩, kzd⟩
                              | false =>
                                have HA : Hid (T.k = 3 ∧ T.kids.length = 1 ∧ noneB T = true ∧ T.c = 0 ∧ simpR (T.kids.getD 0 tr0) = false) := ⟨H3.out, HK.out, HN.out, HC.out, hs⟩
                                clear hs
                                go_wp2_with fail
                                go_meet
                                exact ⟨⟨true, rfl, fun _ => HA.out, fun _ => rfl⟩, kzd⟩
                            · have dc : (T.c == 0) = false := by rw [beq_eq_false_iff_ne]; exact hcc
                              have HA : Hid (¬ (T.k = 3 ∧ T.kids.length = 1 ∧ noneB T = true ∧ T.c = 0 ∧ simpR (T.kids.getD 0 tr0) = false)) := fun h => hcc h.2.2.2.1
                              clear hcc
                              go_wp2_with fail
                              go_meet
                              exact ⟨⟨false, rfl, (fun h => by cases h), fun h => absurd h HA.out⟩, kzc⟩
                        · have dk : ((T.kids.length : Int) == 1) = false := by rw [beq_eq_false_iff_ne]; omega
                          have HA : Hid (¬ (T.k = 3 ∧ T.kids.length = 1 ∧ noneB T = true ∧ T.c = 0 ∧ simpR (T.kids.getD 0 tr0) = false)) := fun h => hk h.2.1
                          clear hk
                          go_wp2_with fail
                          go_meet
                          exact ⟨⟨false, rfl, (fun h => by cases h), fun h => absurd h HA.out⟩, kz2⟩
                      · have d3 : (T.k == 3) = false := by rw [beq_eq_false_iff_ne]; exact e3
                        have HA : Hid (¬ (T.k = 3 ∧ T.kids.length = 1 ∧ noneB T = true ∧ T.c = 0 ∧ simpR (T.kids.getD 0 tr0) = false)) := fun h => e3 h.1
                        clear e3
                        go_wp2_with fail
                        go_meet
                        exact ⟨⟨false, rfl, (fun h => by cases h), fun h => absurd h HA.out⟩, kz2⟩
                    case rest =>
                      obtain ⟨⟨q3, rfl, hq3⟩, kz3⟩ := hcut
                      generalize wc = wz3 at *
                      have HQ3 : Hid (q3 = true ↔ (T.k = 3 ∧ T.kids.length = 1 ∧ noneB T = true ∧ T.c = 0 ∧ simpR (T.kids.getD 0 tr0) = false)) := hq3
                      clear hq3
                      cases q3 with
                      | false =>
                        have HI : Hid (refI (refF L) (most - c) T = none) := refI_no HN1.out HN2.out (fun h => by have := HQ3.out.2 h; cases this)
                        have HF : Hid (refF (L + 1) t most = none) := by unfold Hid; rw [HE.out, HST.out, HI.out]; rfl
                        clear HST HIN
                        go_wp2
                        go_ret3
                        exact ⟨by rw [HF.out]; rfl, g.trans ((hbx.trans (kz3.mono (by omega))).mono (by omega))⟩
                      | true =>
                        have hA3 := HQ3.out.1 rfl
                        have HI : Hid (refI (refF L) (most - c) T = refF L (T.kids.getD 0 tr0) (most - c)) := refI_box hA3
                        have hpos : 0 < T.kids.length := by have := hA3.2.1; omega
                        clear hA3 HQ3
                        obtain ⟨gy, oy, rfl, hgy, hcy⟩ := HIT.out.bx.ptr hpos
                        obtain ⟨u1, l1, s1, u2, l2, s2, t1, t2, hAr⟩ := hcy 0 hpos
                        rw [Nat.zero_mul, Nat.add_zero] at t1 t2
                        have T1 := (kz3.cell (p := ⟨gy, oy, none⟩) (hDx gy hgy)).trans t1
                        have T2 := (kz3.cell (p := ⟨gy, oy + 1, none⟩) (hDx gy hgy)).trans t2
                        have HAR : Hid (ArV f D wz3 (.slice u1 l1 s1) (.slice u2 l2 s2) (T.kids.getD 0 tr0)) := hAr.agree (Agree.of kz3 hDx)
                        clear hcy t1 t2 hAr
                        have NC := NX.below kz3 (by omega)
                        have m5 := NC.cell 5 rfl
                        have hin := HIN.out T (most - c) (by omega)
                        go_wp2_with fail
                        refine (HM.out f D wz3 u1 l1 s1 u2 l2 s2 (T.kids.getD 0 tr0) (deep + 1) (most - c) (by have := HDP.out; push_cast at this; omega) (by omega) (by omega) (fun g hg => by have := hDx g hg; have := kz3.size; omega) HAR.out).mono ?_
                        rintro e wm ⟨he, km⟩
                        rw [← HI.out] at he
                        have kzm : Below wx.heap.size wx wm := kz3.trans (km.mono kz3.size)
                        cases ho : refI (refF L) (most - c) T with
                        | none =>
                          have HF : Hid (refF (L + 1) t most = none) := by unfold Hid; rw [HE.out, HST.out, ho]; rfl
                          rw [ho] at he
                          unfold rEnd at he
                          dsimp only [Option.getD_none, Option.isSome_none] at he
                          subst he
                          clear HST HIN ho hin
                          go_wp2
                          go_ret3
                          exact ⟨by rw [HF.out]; rfl, g.trans ((hbx.trans (kzm.mono (by omega))).mono (by omega))⟩
                        | some q =>
                          have hq := hin q ho
                          obtain ⟨b1, b2⟩ := q
                          have HL2 : Hid (refL (refF L) most t.kids (0, (t.kids.length : Int)) = refL (refF L) most (t.kids.drop (i + 1)) (max d b1, c + b2)) := by unfold Hid; rw [HST.out, ho]
                          rw [ho] at he
                          unfold rEnd at he
                          dsimp only [Option.getD_some, Option.isSome_some] at he
                          subst he
                          simp only at hq
                          clear HST HIN ho hin
                          by_cases hg1 : d < b1
                          · have HMx : Hid (max d b1 = b1) := by unfold Hid; omega
                            go_wp2
                            go_roundw
                            case rel => exact ⟨i + 1, b1, c + b2, rfl, by go_num, by go_num, by omega, by omega, by omega, by omega, by omega, (by unfold Hid; rw [HL2.out, HMx.out]), hbx.trans (kzm.mono (by omega))⟩
                            case measure => simp [intOf]; omega
                          · have HMx : Hid (max d b1 = d) := by unfold Hid; omega
                            go_wp2
                            go_roundw
                            case rel => exact ⟨i + 1, d, c + b2, rfl, by go_num, by go_num, by omega, by omega, by omega, by omega, by omega, (by unfold Hid; rw [HL2.out, HMx.out]), hbx.trans (kzm.mono (by omega))⟩
                            case measure => simp [intOf]; omega
          · have HF : Hid (refF (L + 1) t most = some (if simpR t = true then d else d + 1, c)) := by
              unfold Hid
              rw [HE.out, HL.out, refL_end (by omega)]
              rfl
            go_wp2_with fail
            refine (refIsSimple_any (H.out.agree (Agree.of gr HD.out)) (fun g hg => by have := HD.out g hg; omega)).mono ?_
            rintro e ws ⟨rfl, hws⟩
            have ks := below_alloc wr (.cells #[.slice x1 t.ns.length y1, .slice x2 t.kids.length y2] 25)
            rw [← hws] at ks
            clear hws
            have dmc : decide (c ≤ most) = true := decide_eq_true hc2
            cases hs : simpR t with
            | true =>
              have HF2 : Hid (refF (L + 1) t most = some (d, c)) := by unfold Hid; rw [HF.out, hs]; rfl
              clear hs HF
              go_wp2
              go_ret3
              exact ⟨by rw [HF2.out]; rfl, gr.trans (ks.mono (by omega))⟩
            | false =>
              have HF2 : Hid (refF (L + 1) t most = some (d + 1, c)) := by unfold Hid; rw [HF.out, hs]; rfl
              clear hs HF
              go_wp2
              go_ret3
              exact ⟨by rw [HF2.out]; rfl, gr.trans (ks.mono (by omega))⟩
end Go.Proofs.YtnlmjibdifbnbaaGreat

/- array.measuredItem at a number. -/
namespace Go.Proofs.YtnlmjibdifbnbaaGreat
set_option linter.unusedVariables false
set_option linter.unusedSimpArgs false
open Go.RowKit

section
variable {D : Nat → Prop} {f : Nat} {w : World} {a1 a2 a3 : Option Addr} {c1 c2 c3 : Nat} {t : Tr}
set_option maxRecDepth 100000 in
set_option maxHeartbeats 6400000 in
theorem measuredItem_k1 {L : Nat} (e1 : t.k = 1) (h : ItV (ArV f D w) D w a1 c1 a2 c2 a3 c3 t) (hD : ∀ g, D g → g < w.heap.size) :
    Calls Tryz.prog 58 #[.agg #[.int .u8 t.k, .bool t.b, .slice a1 t.ns.length c1, .slice a2 t.ds.length c2, .int .i32 t.c, .slice a3 t.kids.length c3], .int .i64 L] w fun e w' => e = mEnd (measI (measF L) t) ∧ Below w.heap.size w w' := by
  have H : Hid (ItV (ArV f D w) D w a1 c1 a2 c2 a3 c3 t) := h
  have HD : Hid (∀ g, D g → g < w.heap.size) := hD
  have bd3 := h.bx.bounds
  have hr1 := h.rn.rd hD
  have hr2 := h.rd.rd hD
  clear h hD
  have X0 := boxA_new w #[.int .u8 t.k, .bool t.b, .slice a1 t.ns.length c1, .slice a2 t.ds.length c2, .int .i32 t.c, .slice a3 t.kids.length c3] 42
  have k0 := below_alloc w (.cells #[.int .u8 t.k, .bool t.b, .slice a1 t.ns.length c1, .slice a2 t.ds.length c2, .int .i32 t.c, .slice a3 t.kids.length c3] 42)
  have k1 := below_alloc (w.alloc (.cells #[.int .u8 t.k, .bool t.b, .slice a1 t.ns.length c1, .slice a2 t.ds.length c2, .int .i32 t.c, .slice a3 t.kids.length c3] 42)) (.cells #[.int .i64 0, .int .i64 0] 64)
  have R := boxA_new (w.alloc (.cells #[.int .u8 t.k, .bool t.b, .slice a1 t.ns.length c1, .slice a2 t.ds.length c2, .int .i32 t.c, .slice a3 t.kids.length c3] 42)) #[.int .i64 0, .int .i64 0] 64
  rw [World.size_alloc] at R
  have X := X0.below k1 (by simp)
  have g : Below w.heap.size w _ := k0.trans (k1.mono (by simp))
  have sv : ((w.alloc (.cells #[.int .u8 t.k, .bool t.b, .slice a1 t.ns.length c1, .slice a2 t.ds.length c2, .int .i32 t.c, .slice a3 t.kids.length c3] 42)).alloc (.cells #[.int .i64 0, .int .i64 0] 64)).heap.size = w.heap.size + 1 + 1 := by simp
  replace hr1 := hr1.below g
  replace hr2 := hr2.below g
  have X0' := X.cell 0 rfl
  have X1 := X.cell 1 rfl
  have X2 := X.cell 2 rfl
  have X3 := X.cell 3 rfl
  have X4 := X.cell 4 rfl
  have X5 := X.cell 5 rfl
  have R0 := R.cell 0 rfl
  have R1 := R.cell 1 rfl
  have Rf0 := R.frozen 0
  have Rf1 := R.frozen 1
  go_enter Tryz.func58, Tryz.ntmps58
  have d1 : (t.k == 1) = true := by rw [beq_iff_eq]; exact e1
  have H1 : Hid (t.k = 1) := e1
  clear e1
  go_upto_region 3 with fail
  generalize hA : (w.alloc (.cells #[.int .u8 t.k, .bool t.b, .slice a1 t.ns.length c1, .slice a2 t.ds.length c2, .int .i32 t.c, .slice a3 t.kids.length c3] 42)).alloc (.cells #[.int .i64 0, .int .i64 0] 64) = v at *
  clear hA k0 k1 X0
  have hcells : ∀ {w' : World}, Below v.heap.size v w' → w'.cell? ⟨w.heap.size, 1, none⟩ = some (.bool t.b) ∧ w'.cell? ⟨w.heap.size, 2, none⟩ = some (.slice a1 t.ns.length c1) ∧ w'.cell? ⟨w.heap.size, 3, none⟩ = some (.slice a2 t.ds.length c2) ∧ w'.cell? ⟨w.heap.size, 4, none⟩ = some (.int .i32 t.c) ∧ w'.cell? ⟨w.heap.size, 5, none⟩ = some (.slice a3 t.kids.length c3) := fun hb => by
    have Z := X.below hb (by omega)
    exact ⟨Z.cell 1 rfl, Z.cell 2 rfl, Z.cell 3 rfl, Z.cell 4 rfl, Z.cell 5 rfl⟩
  have d0 : Below v.heap.size v v.drew := ⟨rfl, rfl, rfl, Nat.le_refl _, fun _ _ => rfl⟩
  have h1' : Rd v.drew.heap.size v.drew (.slice a1 t.ns.length c1) t.ns := hr1.mono (by simp; omega)
  have h2' : Rd v.drew.heap.size v.drew (.slice a2 t.ds.length c2) t.ds := hr2.mono (by simp; omega)
  by_cases hR : RightP t.b t.ns t.ds
  · have HRP : Hid (RightP t.b t.ns t.ds) := hR
    clear hR
    by_cases hc : t.c = 0
    · have dc : (t.c == 0) = true := by rw [beq_iff_eq]; exact hc
      by_cases hk : t.kids.length = 0
      · have dk : ((t.kids.length : Int) == 0) = true := by rw [beq_iff_eq]; omega
        have HE : Hid (measI (measF L) t = some (0, 0)) := measI_num H1.out ⟨HRP.out, hc, hk⟩
        clear hc hk
        first | go_region_with (go_at_call 86; refine (right_rat h1' h2' (Nat.le_refl _)).mono ?_; rintro e wa ⟨⟨r, rfl, hr⟩, ka'⟩; obtain rfl : r = true := hr.2 HRP.out; clear hr; have ka : Below v.heap.size v wa := d0.trans (ka'.mono d0.size); obtain ⟨tw1, tw2, tw3, tw4, tw5⟩ := hcells ka; have Rc := R.below ka (by omega); have q0 := Rc.cell 0 rfl; have q1 := Rc.cell 1 rfl; have p0 := Rc.frozen 0; have p1 := Rc.frozen 1) | fail
        all_goals
          go_wp2
          have Rd2 := Rc.set2 (.int .i64 0) (.int .i64 0)
          have r0 := Rd2.cell 0 rfl
          have r1 := Rd2.cell 1 rfl
          refine bodyPost_ret (v := .tuple #[.agg #[.int .i64 0, .int .i64 0], .bool true]) (by simp [results, Tryz.results58, go_sem, r0, r1]) rfl ?_
          exact ⟨by rw [HE.out]; rfl, Below.set2 (g.trans (ka.mono (by omega))) (by omega) _ _⟩
      · have dk : ((t.kids.length : Int) == 0) = false := by rw [beq_eq_false_iff_ne]; omega
        have HE : Hid (measI (measF L) t = none) := measI_num_no H1.out (fun h => hk h.2.2)
        clear hc hk
        first | go_region_with (go_at_call 86; refine (right_rat h1' h2' (Nat.le_refl _)).mono ?_; rintro e wa ⟨⟨r, rfl, hr⟩, ka'⟩; obtain rfl : r = true := hr.2 HRP.out; clear hr; have ka : Below v.heap.size v wa := d0.trans (ka'.mono d0.size); obtain ⟨tw1, tw2, tw3, tw4, tw5⟩ := hcells ka; have Rc := R.below ka (by omega); have q0 := Rc.cell 0 rfl; have q1 := Rc.cell 1 rfl; have p0 := Rc.frozen 0; have p1 := Rc.frozen 1) | fail
        all_goals
          go_wp2
          have Rd2 := Rc.set2 (.int .i64 0) (.int .i64 0)
          have r0 := Rd2.cell 0 rfl
          have r1 := Rd2.cell 1 rfl
          refine bodyPost_ret (v := .tuple #[.agg #[.int .i64 0, .int .i64 0], .bool false]) (by simp [results, Tryz.results58, go_sem, r0, r1]) rfl ?_
          exact ⟨by rw [HE.out]; rfl, Below.set2 (g.trans (ka.mono (by omega))) (by omega) _ _⟩
    · have dc : (t.c == 0) = false := by rw [beq_eq_false_iff_ne]; exact hc
      have HE : Hid (measI (measF L) t = none) := measI_num_no H1.out (fun h => hc h.2.1)
      clear hc
      first | go_region_with (go_at_call 86; refine (right_rat h1' h2' (Nat.le_refl _)).mono ?_; rintro e wa ⟨⟨r, rfl, hr⟩, ka'⟩; obtain rfl : r = true := hr.2 HRP.out; clear hr; have ka : Below v.heap.size v wa := d0.trans (ka'.mono d0.size); obtain ⟨tw1, tw2, tw3, tw4, tw5⟩ := hcells ka; have Rc := R.below ka (by omega); have q0 := Rc.cell 0 rfl; have q1 := Rc.cell 1 rfl; have p0 := Rc.frozen 0; have p1 := Rc.frozen 1) | fail
      all_goals
        go_wp2
        have Rd2 := Rc.set2 (.int .i64 0) (.int .i64 0)
        have r0 := Rd2.cell 0 rfl
        have r1 := Rd2.cell 1 rfl
        refine bodyPost_ret (v := .tuple #[.agg #[.int .i64 0, .int .i64 0], .bool false]) (by simp [results, Tryz.results58, go_sem, r0, r1]) rfl ?_
        exact ⟨by rw [HE.out]; rfl, Below.set2 (g.trans (ka.mono (by omega))) (by omega) _ _⟩
  · have HRP : Hid (¬ RightP t.b t.ns t.ds) := hR
    have HE : Hid (measI (measF L) t = none) := measI_num_no H1.out (fun h => HRP.out h.1)
    clear hR
    first | go_region_with (go_at_call 86; refine (right_rat h1' h2' (Nat.le_refl _)).mono ?_; rintro e wa ⟨⟨r, rfl, hr⟩, ka'⟩; obtain rfl : r = false := (by cases r; rfl; exact absurd (hr.1 rfl) HRP.out); clear hr; have ka : Below v.heap.size v wa := d0.trans (ka'.mono d0.size); obtain ⟨tw1, tw2, tw3, tw4, tw5⟩ := hcells ka; have Rc := R.below ka (by omega); have q0 := Rc.cell 0 rfl; have q1 := Rc.cell 1 rfl; have p0 := Rc.frozen 0; have p1 := Rc.frozen 1) | fail
    all_goals
      go_wp2
      have Rd2 := Rc.set2 (.int .i64 0) (.int .i64 0)
      have r0 := Rd2.cell 0 rfl
      have r1 := Rd2.cell 1 rfl
      refine bodyPost_ret (v := .tuple #[.agg #[.int .i64 0, .int .i64 0], .bool false]) (by simp [results, Tryz.results58, go_sem, r0, r1]) rfl ?_
      exact ⟨by rw [HE.out]; rfl, Below.set2 (g.trans (ka.mono (by omega))) (by omega) _ _⟩
end
end Go.Proofs.YtnlmjibdifbnbaaGreat

/- array.measuredItem at a character. -/
namespace Go.Proofs.YtnlmjibdifbnbaaGreat
set_option linter.unusedVariables false
set_option linter.unusedSimpArgs false
open Go.RowKit

section
variable {D : Nat → Prop} {f : Nat} {w : World} {a1 a2 a3 : Option Addr} {c1 c2 c3 : Nat} {t : Tr}
set_option maxRecDepth 100000 in
set_option maxHeartbeats 6400000 in
theorem measuredItem_k2 {L : Nat} (e2 : t.k = 2) (h : ItV (ArV f D w) D w a1 c1 a2 c2 a3 c3 t) (hD : ∀ g, D g → g < w.heap.size) :
    Calls Tryz.prog 58 #[.agg #[.int .u8 t.k, .bool t.b, .slice a1 t.ns.length c1, .slice a2 t.ds.length c2, .int .i32 t.c, .slice a3 t.kids.length c3], .int .i64 L] w fun e w' => e = mEnd (measI (measF L) t) ∧ Below w.heap.size w w' := by
  have H : Hid (ItV (ArV f D w) D w a1 c1 a2 c2 a3 c3 t) := h
  have HD : Hid (∀ g, D g → g < w.heap.size) := hD
  have bd3 := h.bx.bounds
  have hr1 := h.rn.rd hD
  have hr2 := h.rd.rd hD
  clear h hD
  have X0 := boxA_new w #[.int .u8 t.k, .bool t.b, .slice a1 t.ns.length c1, .slice a2 t.ds.length c2, .int .i32 t.c, .slice a3 t.kids.length c3] 42
  have k0 := below_alloc w (.cells #[.int .u8 t.k, .bool t.b, .slice a1 t.ns.length c1, .slice a2 t.ds.length c2, .int .i32 t.c, .slice a3 t.kids.length c3] 42)
  have k1 := below_alloc (w.alloc (.cells #[.int .u8 t.k, .bool t.b, .slice a1 t.ns.length c1, .slice a2 t.ds.length c2, .int .i32 t.c, .slice a3 t.kids.length c3] 42)) (.cells #[.int .i64 0, .int .i64 0] 64)
  have R := boxA_new (w.alloc (.cells #[.int .u8 t.k, .bool t.b, .slice a1 t.ns.length c1, .slice a2 t.ds.length c2, .int .i32 t.c, .slice a3 t.kids.length c3] 42)) #[.int .i64 0, .int .i64 0] 64
  rw [World.size_alloc] at R
  have X := X0.below k1 (by simp)
  have g : Below w.heap.size w _ := k0.trans (k1.mono (by simp))
  have sv : ((w.alloc (.cells #[.int .u8 t.k, .bool t.b, .slice a1 t.ns.length c1, .slice a2 t.ds.length c2, .int .i32 t.c, .slice a3 t.kids.length c3] 42)).alloc (.cells #[.int .i64 0, .int .i64 0] 64)).heap.size = w.heap.size + 1 + 1 := by simp
  replace hr1 := hr1.below g
  replace hr2 := hr2.below g
  have X0' := X.cell 0 rfl
  have X1 := X.cell 1 rfl
  have X2 := X.cell 2 rfl
  have X3 := X.cell 3 rfl
  have X4 := X.cell 4 rfl
  have X5 := X.cell 5 rfl
  have R0 := R.cell 0 rfl
  have R1 := R.cell 1 rfl
  have Rf0 := R.frozen 0
  have Rf1 := R.frozen 1
  go_enter Tryz.func58, Tryz.ntmps58
  have d1 : (t.k == 1) = false := by rw [beq_eq_false_iff_ne]; omega
  have d2 : (t.k == 2) = true := by rw [beq_iff_eq]; exact e2
  have H2 : Hid (t.k = 2) := e2
  have bn1 := hr1.2
  have bn2 := hr2.2
  have hl1 : t.ns.length ≤ 9223372036854775807 := by obtain ⟨_, _, _, _, h, _⟩ := bn1; omega
  have hl2 : t.ds.length ≤ 9223372036854775807 := by obtain ⟨_, _, _, _, h, _⟩ := bn2; omega
  clear e2 bn1 bn2
  go_upto_region 5 with fail
  generalize hA : (w.alloc (.cells #[.int .u8 t.k, .bool t.b, .slice a1 t.ns.length c1, .slice a2 t.ds.length c2, .int .i32 t.c, .slice a3 t.kids.length c3] 42)).alloc (.cells #[.int .i64 0, .int .i64 0] 64) = v at *
  clear hA k0 k1 X0
  have hcells : ∀ {w' : World}, Below v.heap.size v w' → w'.cell? ⟨w.heap.size, 1, none⟩ = some (.bool t.b) ∧ w'.cell? ⟨w.heap.size, 2, none⟩ = some (.slice a1 t.ns.length c1) ∧ w'.cell? ⟨w.heap.size, 3, none⟩ = some (.slice a2 t.ds.length c2) ∧ w'.cell? ⟨w.heap.size, 4, none⟩ = some (.int .i32 t.c) ∧ w'.cell? ⟨w.heap.size, 5, none⟩ = some (.slice a3 t.kids.length c3) := fun hb => by
    have Z := X.below hb (by omega)
    exact ⟨Z.cell 1 rfl, Z.cell 2 rfl, Z.cell 3 rfl, Z.cell 4 rfl, Z.cell 5 rfl⟩
  have d0 : Below v.heap.size v v.drew := ⟨rfl, rfl, rfl, Nat.le_refl _, fun _ _ => rfl⟩
  by_cases hR : okR t.c
  · have HRP : Hid (okR t.c) := hR
    clear hR
    cases hn : noneB t with
    | true =>
      have HN : Hid ((!t.b && decide (t.ns.length = 0) && decide (t.ds.length = 0)) = true) := hn
      by_cases hk : t.kids.length = 0
      · have dk : ((t.kids.length : Int) == 0) = true := by rw [beq_iff_eq]; omega
        have HE : Hid (measI (measF L) t = some (0, 0)) := measI_ch H2.out ⟨HRP.out, hn, hk⟩
        clear hn hk
        first | go_region_with (first | (have j := ka; go_at_call 88; refine (isNone_any t.b a1 t.ns.length c1 a2 t.ds.length c2 _ (by omega) (by omega)).mono ?_; rintro e wb ⟨rfl, hwb⟩; have kb' := below_alloc wa (.cells #[.bool t.b, .slice a1 t.ns.length c1, .slice a2 t.ds.length c2] 39); rw [← hwb] at kb'; clear hwb; rw [HN.out]; have kb : Below v.heap.size v wb := ka.trans (kb'.mono ka.size); obtain ⟨uw1, uw2, uw3, uw4, uw5⟩ := hcells kb; have Rc := R.below kb (by omega); have q0 := Rc.cell 0 rfl; have q1 := Rc.cell 1 rfl; have p0 := Rc.frozen 0; have p1 := Rc.frozen 1) | (go_at_call 87; refine (validRune_any t.c _).mono ?_; rintro e wa ⟨⟨r, rfl, hr⟩, ka'⟩; obtain rfl : r = true := hr.2 HRP.out; clear hr; have ka : Below v.heap.size v wa := d0.trans (ka'.mono d0.size); obtain ⟨tw1, tw2, tw3, tw4, tw5⟩ := hcells ka; have Rc := R.below ka (by omega); have q0 := Rc.cell 0 rfl; have q1 := Rc.cell 1 rfl; have p0 := Rc.frozen 0; have p1 := Rc.frozen 1)) | fail
        all_goals
          go_wp2
          have Rd2 := Rc.set2 (.int .i64 0) (.int .i64 0)
          have r0 := Rd2.cell 0 rfl
          have r1 := Rd2.cell 1 rfl
          refine bodyPost_ret (v := .tuple #[.agg #[.int .i64 0, .int .i64 0], .bool true]) (by simp [results, Tryz.results58, go_sem, r0, r1]) rfl ?_
          exact ⟨by rw [HE.out]; rfl, Below.set2 (g.trans (kb.mono (by omega))) (by omega) _ _⟩
      · have dk : ((t.kids.length : Int) == 0) = false := by rw [beq_eq_false_iff_ne]; omega
        have HE : Hid (measI (measF L) t = none) := measI_ch_no H2.out (fun h => hk h.2.2)
        clear hn hk
        first | go_region_with (first | (have j := ka; go_at_call 88; refine (isNone_any t.b a1 t.ns.length c1 a2 t.ds.length c2 _ (by omega) (by omega)).mono ?_; rintro e wb ⟨rfl, hwb⟩; have kb' := below_alloc wa (.cells #[.bool t.b, .slice a1 t.ns.length c1, .slice a2 t.ds.length c2] 39); rw [← hwb] at kb'; clear hwb; rw [HN.out]; have kb : Below v.heap.size v wb := ka.trans (kb'.mono ka.size); obtain ⟨uw1, uw2, uw3, uw4, uw5⟩ := hcells kb; have Rc := R.below kb (by omega); have q0 := Rc.cell 0 rfl; have q1 := Rc.cell 1 rfl; have p0 := Rc.frozen 0; have p1 := Rc.frozen 1) | (go_at_call 87; refine (validRune_any t.c _).mono ?_; rintro e wa ⟨⟨r, rfl, hr⟩, ka'⟩; obtain rfl : r = true := hr.2 HRP.out; clear hr; have ka : Below v.heap.size v wa := d0.trans (ka'.mono d0.size); obtain ⟨tw1, tw2, tw3, tw4, tw5⟩ := hcells ka; have Rc := R.below ka (by omega); have q0 := Rc.cell 0 rfl; have q1 := Rc.cell 1 rfl; have p0 := Rc.frozen 0; have p1 := Rc.frozen 1)) | fail
        all_goals
          go_wp2
          have Rd2 := Rc.set2 (.int .i64 0) (.int .i64 0)
          have r0 := Rd2.cell 0 rfl
          have r1 := Rd2.cell 1 rfl
          refine bodyPost_ret (v := .tuple #[.agg #[.int .i64 0, .int .i64 0], .bool false]) (by simp [results, Tryz.results58, go_sem, r0, r1]) rfl ?_
          exact ⟨by rw [HE.out]; rfl, Below.set2 (g.trans (kb.mono (by omega))) (by omega) _ _⟩
    | false =>
      have HN : Hid ((!t.b && decide (t.ns.length = 0) && decide (t.ds.length = 0)) = false) := hn
      have HE : Hid (measI (measF L) t = none) := measI_ch_no H2.out (fun h => by rw [hn] at h; cases h.2.1)
      clear hn
      first | go_region_with (first | (have j := ka; go_at_call 88; refine (isNone_any t.b a1 t.ns.length c1 a2 t.ds.length c2 _ (by omega) (by omega)).mono ?_; rintro e wb ⟨rfl, hwb⟩; have kb' := below_alloc wa (.cells #[.bool t.b, .slice a1 t.ns.length c1, .slice a2 t.ds.length c2] 39); rw [← hwb] at kb'; clear hwb; rw [HN.out]; have kb : Below v.heap.size v wb := ka.trans (kb'.mono ka.size); obtain ⟨uw1, uw2, uw3, uw4, uw5⟩ := hcells kb; have Rc := R.below kb (by omega); have q0 := Rc.cell 0 rfl; have q1 := Rc.cell 1 rfl; have p0 := Rc.frozen 0; have p1 := Rc.frozen 1) | (go_at_call 87; refine (validRune_any t.c _).mono ?_; rintro e wa ⟨⟨r, rfl, hr⟩, ka'⟩; obtain rfl : r = true := hr.2 HRP.out; clear hr; have ka : Below v.heap.size v wa := d0.trans (ka'.mono d0.size); obtain ⟨tw1, tw2, tw3, tw4, tw5⟩ := hcells ka; have Rc := R.below ka (by omega); have q0 := Rc.cell 0 rfl; have q1 := Rc.cell 1 rfl; have p0 := Rc.frozen 0; have p1 := Rc.frozen 1)) | fail
      all_goals
        go_wp2
        have Rd2 := Rc.set2 (.int .i64 0) (.int .i64 0)
        have r0 := Rd2.cell 0 rfl
        have r1 := Rd2.cell 1 rfl
        refine bodyPost_ret (v := .tuple #[.agg #[.int .i64 0, .int .i64 0], .bool false]) (by simp [results, Tryz.results58, go_sem, r0, r1]) rfl ?_
        exact ⟨by rw [HE.out]; rfl, Below.set2 (g.trans (kb.mono (by omega))) (by omega) _ _⟩
  · have HRP : Hid (¬ okR t.c) := hR
    have HE : Hid (measI (measF L) t = none) := measI_ch_no H2.out (fun h => HRP.out h.1)
    clear hR
    first | go_region_with (go_at_call 87; refine (validRune_any t.c _).mono ?_; rintro e wa ⟨⟨r, rfl, hr⟩, ka'⟩; obtain rfl : r = false := (by cases r; rfl; exact absurd (hr.1 rfl) HRP.out); clear hr; have ka : Below v.heap.size v wa := d0.trans (ka'.mono d0.size); obtain ⟨tw1, tw2, tw3, tw4, tw5⟩ := hcells ka; have Rc := R.below ka (by omega); have q0 := Rc.cell 0 rfl; have q1 := Rc.cell 1 rfl; have p0 := Rc.frozen 0; have p1 := Rc.frozen 1) | fail
    all_goals
      go_wp2
      have Rd2 := Rc.set2 (.int .i64 0) (.int .i64 0)
      have r0 := Rd2.cell 0 rfl
      have r1 := Rd2.cell 1 rfl
      refine bodyPost_ret (v := .tuple #[.agg #[.int .i64 0, .int .i64 0], .bool false]) (by simp [results, Tryz.results58, go_sem, r0, r1]) rfl ?_
      exact ⟨by rw [HE.out]; rfl, Below.set2 (g.trans (ka.mono (by omega))) (by omega) _ _⟩
end
end Go.Proofs.YtnlmjibdifbnbaaGreat

/- array.measuredItem at a box, and at what is none. -/
namespace Go.Proofs.YtnlmjibdifbnbaaGreat
set_option linter.unusedVariables false
set_option linter.unusedSimpArgs false
open Go.RowKit

section
variable {D : Nat → Prop} {f : Nat} {w : World} {a1 a2 a3 : Option Addr} {c1 c2 c3 : Nat} {t : Tr}
set_option maxRecDepth 100000 in
set_option maxHeartbeats 6400000 in
theorem measuredItem_k3 {L : Nat} (hM : MeasOK L) (e3 : t.k = 3) (h : ItV (ArV f D w) D w a1 c1 a2 c2 a3 c3 t) (hD : ∀ g, D g → g < w.heap.size) :
    Calls Tryz.prog 58 #[.agg #[.int .u8 t.k, .bool t.b, .slice a1 t.ns.length c1, .slice a2 t.ds.length c2, .int .i32 t.c, .slice a3 t.kids.length c3], .int .i64 L] w fun e w' => e = mEnd (measI (measF L) t) ∧ Below w.heap.size w w' := by
  have HM : Hid (MeasOK L) := hM
  have H : Hid (ItV (ArV f D w) D w a1 c1 a2 c2 a3 c3 t) := h
  have HD : Hid (∀ g, D g → g < w.heap.size) := hD
  have bd3 := h.bx.bounds
  have hr1 := h.rn.rd hD
  have hr2 := h.rd.rd hD
  clear hM h hD
  have X0 := boxA_new w #[.int .u8 t.k, .bool t.b, .slice a1 t.ns.length c1, .slice a2 t.ds.length c2, .int .i32 t.c, .slice a3 t.kids.length c3] 42
  have k0 := below_alloc w (.cells #[.int .u8 t.k, .bool t.b, .slice a1 t.ns.length c1, .slice a2 t.ds.length c2, .int .i32 t.c, .slice a3 t.kids.length c3] 42)
  have k1 := below_alloc (w.alloc (.cells #[.int .u8 t.k, .bool t.b, .slice a1 t.ns.length c1, .slice a2 t.ds.length c2, .int .i32 t.c, .slice a3 t.kids.length c3] 42)) (.cells #[.int .i64 0, .int .i64 0] 64)
  have R := boxA_new (w.alloc (.cells #[.int .u8 t.k, .bool t.b, .slice a1 t.ns.length c1, .slice a2 t.ds.length c2, .int .i32 t.c, .slice a3 t.kids.length c3] 42)) #[.int .i64 0, .int .i64 0] 64
  rw [World.size_alloc] at R
  have X := X0.below k1 (by simp)
  have g : Below w.heap.size w _ := k0.trans (k1.mono (by simp))
  have sv : ((w.alloc (.cells #[.int .u8 t.k, .bool t.b, .slice a1 t.ns.length c1, .slice a2 t.ds.length c2, .int .i32 t.c, .slice a3 t.kids.length c3] 42)).alloc (.cells #[.int .i64 0, .int .i64 0] 64)).heap.size = w.heap.size + 1 + 1 := by simp
  replace hr1 := hr1.below g
  replace hr2 := hr2.below g
  have X0' := X.cell 0 rfl
  have X1 := X.cell 1 rfl
  have X2 := X.cell 2 rfl
  have X3 := X.cell 3 rfl
  have X4 := X.cell 4 rfl
  have X5 := X.cell 5 rfl
  have R0 := R.cell 0 rfl
  have R1 := R.cell 1 rfl
  have Rf0 := R.frozen 0
  have Rf1 := R.frozen 1
  go_enter Tryz.func58, Tryz.ntmps58
  have d1 : (t.k == 1) = false := by rw [beq_eq_false_iff_ne]; omega
  have d2 : (t.k == 2) = false := by rw [beq_eq_false_iff_ne]; omega
  have d3 : (t.k == 3) = true := by rw [beq_iff_eq]; exact e3
  have H3 : Hid (t.k = 3) := e3
  have hl1 : t.ns.length ≤ 9223372036854775807 := by obtain ⟨_, _, _, _, _, h, _⟩ := hr1; omega
  have hl2 : t.ds.length ≤ 9223372036854775807 := by obtain ⟨_, _, _, _, _, h, _⟩ := hr2; omega
  clear e3
  go_wp2_with fail
  generalize hA : (w.alloc (.cells #[.int .u8 t.k, .bool t.b, .slice a1 t.ns.length c1, .slice a2 t.ds.length c2, .int .i32 t.c, .slice a3 t.kids.length c3] 42)).alloc (.cells #[.int .i64 0, .int .i64 0] 64) = v at *
  clear hA k0 k1 X0
  refine (isNone_any t.b a1 t.ns.length c1 a2 t.ds.length c2 _ hl1 hl2).mono ?_
  rintro e wb ⟨rfl, hwb⟩
  have kb := below_alloc v (.cells #[.bool t.b, .slice a1 t.ns.length c1, .slice a2 t.ds.length c2] 39)
  rw [← hwb] at kb
  clear hwb X0' X1 X2 X3 X4 X5 R0 R1 Rf0 Rf1
  have sb := kb.size
  have Xb := X.below kb (by omega)
  have x4 := Xb.cell 4 rfl
  have x5 := Xb.cell 5 rfl
  have Rc := R.below kb (by omega)
  have q0 := Rc.cell 0 rfl
  have q1 := Rc.cell 1 rfl
  have p0 := Rc.frozen 0
  have p1 := Rc.frozen 1
  have hN : noneB t = (!t.b && decide (t.ns.length = 0) && decide (t.ds.length = 0)) := rfl
  rw [← hN]
  have HNB : Hid (∀ r, noneB t = r → noneB t = r) := fun _ h => h
  cases hn : noneB t with
  | false =>
    have HE : Hid (measI (measF L) t = none) := measI_box_no H3.out (fun h => by rw [hn] at h; cases h.1)
    clear hn hN
    go_wp2
    have Rd2 := Rc.set2 (.int .i64 0) (.int .i64 0)
    have r0 := Rd2.cell 0 rfl
    have r1 := Rd2.cell 1 rfl
    refine bodyPost_ret (v := .tuple #[.agg #[.int .i64 0, .int .i64 0], .bool false]) (by simp [results, Tryz.results58, go_sem, r0, r1]) rfl ?_
    exact ⟨by rw [HE.out]; rfl, Below.set2 (g.trans (kb.mono (by omega))) (by omega) _ _⟩
  | true =>
    have HN : Hid (noneB t = true) := hn
    clear hn hN
    by_cases hc : t.c = 0
    · have dc : (t.c != 0) = false := by rw [bne_eq_false_iff_eq]; exact hc
      by_cases hk : t.kids.length = 1
      · have dk : ((t.kids.length : Int) != 1) = false := by rw [bne_eq_false_iff_eq]; omega
        have HC : Hid (t.c = 0) := hc
        have HKL : Hid (t.kids.length = 1) := hk
        have hpos : 0 < t.kids.length := by omega
        clear hc hk
        obtain ⟨gx, ox, rfl, hgx, hcx⟩ := H.out.bx.ptr hpos
        obtain ⟨x1, n1, y1, x2, n2, y2, z1, z2, hA⟩ := hcx 0 hpos
        rw [Nat.zero_mul, Nat.add_zero] at z1 z2
        have gW : Below w.heap.size w wb := g.trans (kb.mono (by omega))
        have u1 := (gW.cell (p := ⟨gx, ox, none⟩) (HD.out gx hgx)).trans z1
        have u2 := (gW.cell (p := ⟨gx, ox + 1, none⟩) (HD.out gx hgx)).trans z2
        have HAR : Hid (ArV f D wb (.slice x1 n1 y1) (.slice x2 n2 y2) (t.kids.getD 0 tr0)) := hA.agree (Agree.of gW HD.out)
        have HDb : Hid (∀ g, D g → g < wb.heap.size) := fun g hg => by have := HD.out g hg; omega
        clear hcx z1 z2 hA
        obtain ⟨f, rfl⟩ : ∃ f', f = f' + 1 := by
          cases f with
          | zero => exact HAR.out.elim
          | succ f => exact ⟨f, rfl⟩
        go_wp2_with fail
        refine (isSimpleT_any HAR.out HDb.out).mono ?_
        rintro e wc ⟨rfl, hwc⟩
        have kc' := below_alloc wb (.cells #[.slice x1 n1 y1, .slice x2 n2 y2] 25)
        rw [← hwc] at kc'
        clear hwc
        have kc : Below v.heap.size v wc := kb.trans (kc'.mono sb)
        have sc := kc'.size
        have Xc := X.below kc (by omega)
        have x5 := Xc.cell 5 rfl
        have Rc := R.below kc (by omega)
        have q0 := Rc.cell 0 rfl
        have q1 := Rc.cell 1 rfl
        have p0 := Rc.frozen 0
        have p1 := Rc.frozen 1
        cases hs : simpB (t.kids.getD 0 tr0) with
        | true =>
          have HE : Hid (measI (measF L) t = none) := measI_box_no H3.out (fun h => by rw [hs] at h; cases h.2.2.2)
          clear hs
          go_wp2
          have Rd2 := Rc.set2 (.int .i64 0) (.int .i64 0)
          have r0 := Rd2.cell 0 rfl
          have r1 := Rd2.cell 1 rfl
          refine bodyPost_ret (v := .tuple #[.agg #[.int .i64 0, .int .i64 0], .bool false]) (by simp [results, Tryz.results58, go_sem, r0, r1]) rfl ?_
          exact ⟨by rw [HE.out]; rfl, Below.set2 (g.trans (kc.mono (by omega))) (by omega) _ _⟩
        | false =>
          have HE : Hid (measI (measF L) t = measF L (t.kids.getD 0 tr0)) := measI_box H3.out ⟨HN.out, HC.out, HKL.out, hs⟩
          clear hs
          have gc : Below w.heap.size w wc := g.trans (kc.mono (by omega))
          have u1 := (kc'.cell (p := ⟨gx, ox, none⟩) (HDb.out gx hgx)).trans u1
          have u2 := (kc'.cell (p := ⟨gx, ox + 1, none⟩) (HDb.out gx hgx)).trans u2
          go_wp2_with fail
          refine (HM.out (f + 1) D wc x1 n1 y1 x2 n2 y2 (t.kids.getD 0 tr0) (fun g hg => by have := HDb.out g hg; omega) (HAR.out.agree (Agree.of kc' HDb.out))).mono ?_
          rintro e wd ⟨he, kd'⟩
          have sd := kd'.size
          have kd : Below v.heap.size v wd := kc.trans (kd'.mono (by omega))
          have Rd1 := R.below kd (by omega)
          have q0 := Rd1.cell 0 rfl
          have q1 := Rd1.cell 1 rfl
          have p0 := Rd1.frozen 0
          have p1 := Rd1.frozen 1
          rw [← HE.out] at he
          unfold mEnd at he
          subst he
          generalize hO1 : ((measI (measF L) t).getD (0, 0)).1 = A1 at *
          generalize hO2 : ((measI (measF L) t).getD (0, 0)).2 = A2 at *
          generalize hO3 : (measI (measF L) t).isSome = A3 at *
          have HO : Hid (mEnd (measI (measF L) t) = .returned (.tuple #[.agg #[.int .i64 A1, .int .i64 A2], .bool A3])) := by unfold Hid mEnd; rw [hO1, hO2, hO3]
          clear hO1 hO2 hO3
          go_wp2
          have Rd2 := Rd1.set2 (.int .i64 A1) (.int .i64 A2)
          have r0 := Rd2.cell 0 rfl
          have r1 := Rd2.cell 1 rfl
          refine bodyPost_ret (v := .tuple #[.agg #[.int .i64 A1, .int .i64 A2], .bool A3]) (by simp [results, Tryz.results58, go_sem, r0, r1]) rfl ?_
          exact ⟨HO.out.symm, Below.set2 (g.trans (kd.mono (by omega))) (by omega) _ _⟩
      · have dk : ((t.kids.length : Int) != 1) = true := by rw [bne_iff_ne]; omega
        have HE : Hid (measI (measF L) t = none) := measI_box_no H3.out (fun h => hk h.2.2.1)
        clear hc hk
        go_wp2
        have Rd2 := Rc.set2 (.int .i64 0) (.int .i64 0)
        have r0 := Rd2.cell 0 rfl
        have r1 := Rd2.cell 1 rfl
        refine bodyPost_ret (v := .tuple #[.agg #[.int .i64 0, .int .i64 0], .bool false]) (by simp [results, Tryz.results58, go_sem, r0, r1]) rfl ?_
        exact ⟨by rw [HE.out]; rfl, Below.set2 (g.trans (kb.mono (by omega))) (by omega) _ _⟩
    · have dc : (t.c != 0) = true := by rw [bne_iff_ne]; exact hc
      have HE : Hid (measI (measF L) t = none) := measI_box_no H3.out (fun h => hc h.2.1)
      clear hc
      go_wp2
      have Rd2 := Rc.set2 (.int .i64 0) (.int .i64 0)
      have r0 := Rd2.cell 0 rfl
      have r1 := Rd2.cell 1 rfl
      refine bodyPost_ret (v := .tuple #[.agg #[.int .i64 0, .int .i64 0], .bool false]) (by simp [results, Tryz.results58, go_sem, r0, r1]) rfl ?_
      exact ⟨by rw [HE.out]; rfl, Below.set2 (g.trans (kb.mono (by omega))) (by omega) _ _⟩
set_option maxRecDepth 100000 in
set_option maxHeartbeats 6400000 in
theorem measuredItem_k0 {L : Nat} (e1 : ¬ t.k = 1) (e2 : ¬ t.k = 2) (e3 : ¬ t.k = 3) (h : ItV (ArV f D w) D w a1 c1 a2 c2 a3 c3 t) (hD : ∀ g, D g → g < w.heap.size) :
    Calls Tryz.prog 58 #[.agg #[.int .u8 t.k, .bool t.b, .slice a1 t.ns.length c1, .slice a2 t.ds.length c2, .int .i32 t.c, .slice a3 t.kids.length c3], .int .i64 L] w fun e w' => e = mEnd (measI (measF L) t) ∧ Below w.heap.size w w' := by
  have H : Hid (ItV (ArV f D w) D w a1 c1 a2 c2 a3 c3 t) := h
  have HD : Hid (∀ g, D g → g < w.heap.size) := hD
  have bd3 := h.bx.bounds
  have hr1 := h.rn.rd hD
  have hr2 := h.rd.rd hD
  clear h hD
  have X0 := boxA_new w #[.int .u8 t.k, .bool t.b, .slice a1 t.ns.length c1, .slice a2 t.ds.length c2, .int .i32 t.c, .slice a3 t.kids.length c3] 42
  have k0 := below_alloc w (.cells #[.int .u8 t.k, .bool t.b, .slice a1 t.ns.length c1, .slice a2 t.ds.length c2, .int .i32 t.c, .slice a3 t.kids.length c3] 42)
  have k1 := below_alloc (w.alloc (.cells #[.int .u8 t.k, .bool t.b, .slice a1 t.ns.length c1, .slice a2 t.ds.length c2, .int .i32 t.c, .slice a3 t.kids.length c3] 42)) (.cells #[.int .i64 0, .int .i64 0] 64)
  have R := boxA_new (w.alloc (.cells #[.int .u8 t.k, .bool t.b, .slice a1 t.ns.length c1, .slice a2 t.ds.length c2, .int .i32 t.c, .slice a3 t.kids.length c3] 42)) #[.int .i64 0, .int .i64 0] 64
  rw [World.size_alloc] at R
  have X := X0.below k1 (by simp)
  have g : Below w.heap.size w _ := k0.trans (k1.mono (by simp))
  have sv : ((w.alloc (.cells #[.int .u8 t.k, .bool t.b, .slice a1 t.ns.length c1, .slice a2 t.ds.length c2, .int .i32 t.c, .slice a3 t.kids.length c3] 42)).alloc (.cells #[.int .i64 0, .int .i64 0] 64)).heap.size = w.heap.size + 1 + 1 := by simp
  replace hr1 := hr1.below g
  replace hr2 := hr2.below g
  have X0' := X.cell 0 rfl
  have X1 := X.cell 1 rfl
  have X2 := X.cell 2 rfl
  have X3 := X.cell 3 rfl
  have X4 := X.cell 4 rfl
  have X5 := X.cell 5 rfl
  have R0 := R.cell 0 rfl
  have R1 := R.cell 1 rfl
  have Rf0 := R.frozen 0
  have Rf1 := R.frozen 1
  go_enter Tryz.func58, Tryz.ntmps58
  have d1 : (t.k == 1) = false := by rw [beq_eq_false_iff_ne]; exact e1
  have d2 : (t.k == 2) = false := by rw [beq_eq_false_iff_ne]; exact e2
  have d3 : (t.k == 3) = false := by rw [beq_eq_false_iff_ne]; exact e3
  have HE : Hid (measI (measF L) t = none) := measI_else e1 e2 e3
  clear e1 e2 e3
  go_wp2
  refine bodyPost_ret (v := .tuple #[.agg #[.int .i64 0, .int .i64 0], .bool false]) (by simp [results, Tryz.results58, go_sem, R0, R1]) rfl ?_
  exact ⟨by rw [HE.out]; rfl, g⟩
end
end Go.Proofs.YtnlmjibdifbnbaaGreat

/- array.measured, to any depth. -/
namespace Go.Proofs.YtnlmjibdifbnbaaGreat
set_option linter.unusedVariables false
set_option linter.unusedSimpArgs false
open Go.RowKit

def inL (L : Nat) (o : Option (Int × Int)) : Prop := ∀ p, o = some p → 0 ≤ p.1 ∧ p.1 ≤ L ∧ 0 ≤ p.2 ∧ p.2 ≤ 16384
theorem measI_in {L : Nat} {M : Tr → Option (Int × Int)} (hM : ∀ t, inL L (M t)) (t : Tr) : inL L (measI M t) := by
  intro p hp
  by_cases e1 : t.k = 1
  · by_cases h : RightP t.b t.ns t.ds ∧ t.c = 0 ∧ t.kids.length = 0
    · rw [measI_num e1 h] at hp; cases hp; simp
    · rw [measI_num_no e1 h] at hp; cases hp
  by_cases e2 : t.k = 2
  · by_cases h : okR t.c ∧ noneB t = true ∧ t.kids.length = 0
    · rw [measI_ch e2 h] at hp; cases hp; simp
    · rw [measI_ch_no e2 h] at hp; cases hp
  by_cases e3 : t.k = 3
  · by_cases h : noneB t = true ∧ t.c = 0 ∧ t.kids.length = 1 ∧ simpB (t.kids.getD 0 tr0) = false
    · rw [measI_box e3 h] at hp; exact hM _ p hp
    · rw [measI_box_no e3 h] at hp; cases hp
  rw [measI_else e1 e2 e3] at hp; cases hp
theorem measL_in {L : Nat} {I : Tr → Option (Int × Int)} (hI : ∀ t, inL L (I t)) : ∀ (l : List Tr) (w p : Int × Int), 0 ≤ w.1 → w.1 ≤ L + 1 → 0 ≤ w.2 → w.2 ≤ 16384 → measL I l w = some p → 0 ≤ p.1 ∧ p.1 ≤ L + 1 ∧ 0 ≤ p.2 ∧ p.2 ≤ 16384
  | [], w, p, h1, h2, h3, h4, h => by rw [measL] at h; cases h; exact ⟨h1, h2, h3, h4⟩
  | t :: r, w, p, h1, h2, h3, h4, h => by
    rw [measL] at h
    cases hi : I t with
    | none => rw [hi] at h; cases h
    | some q =>
      rw [hi] at h
      have hq := hI t q hi
      simp only at h
      by_cases hc : 16384 < w.2 + q.2
      · rw [if_pos hc] at h; cases h
      · rw [if_neg hc] at h
        exact measL_in hI r _ p (by simp only; omega) (by simp only; omega) (by simp only; omega) (by simp only; omega) h
theorem measF_in : ∀ (L : Nat) (t : Tr), inL L (measF L t)
  | 0, t => by intro p hp; rw [measF] at hp; cases hp
  | L + 1, t => by
    intro p hp
    rw [measF] at hp
    by_cases hc : (sizeF t.ns).2 = 0 ∧ (t.kids.length : Int) = max (sizeF t.ns).1 1
    · rw [if_pos hc] at hp
      cases hl : measL (measI (measF L)) t.kids (1, (t.kids.length : Int)) with
      | none => rw [hl] at hp; cases hp
      | some q =>
        rw [hl] at hp
        have hs := sizeF_in t.ns
        have := measL_in (fun s => measI_in (measF_in L) s) t.kids _ q (by simp only; omega) (by simp only; omega) (by simp only; omega) (by simp only; omega) hl
        simp only at hp
        cases hp
        refine ⟨?_, ?_, this.2.2.1, this.2.2.2⟩
        · simp only; split
          · omega
          · exact this.1
        · simp only; split
          · omega
          · have := this.2.1; push_cast; omega
    · rw [if_neg hc] at hp; cases hp
theorem measuredItem_all {D : Nat → Prop} {f : Nat} {w : World} {a1 a2 a3 : Option Addr} {c1 c2 c3 : Nat} {t : Tr} {L : Nat} (hM : MeasOK L) (h : ItV (ArV f D w) D w a1 c1 a2 c2 a3 c3 t) (hD : ∀ g, D g → g < w.heap.size) :
    Calls Tryz.prog 58 #[.agg #[.int .u8 t.k, .bool t.b, .slice a1 t.ns.length c1, .slice a2 t.ds.length c2, .int .i32 t.c, .slice a3 t.kids.length c3], .int .i64 L] w fun e w' => e = mEnd (measI (measF L) t) ∧ Below w.heap.size w w' := by
  by_cases e1 : t.k = 1
  · exact measuredItem_k1 e1 h hD
  by_cases e2 : t.k = 2
  · exact measuredItem_k2 e2 h hD
  by_cases e3 : t.k = 3
  · exact measuredItem_k3 hM e3 h hD
  exact measuredItem_k0 e1 e2 e3 h hD
theorem measL_step {I : Tr → Option (Int × Int)} {l : List Tr} {i : Nat} (hi : i < l.length) (w : Int × Int) : measL I (l.drop i) w = match I (l.getD i tr0) with
    | none => none
    | some p => if 16384 < w.2 + p.2 then none else measL I (l.drop (i + 1)) (max w.1 (1 + p.1), w.2 + p.2) := by
  rw [List.drop_eq_getElem_cons hi, measL]
  have e : l.getD i tr0 = l[i] := by simp [List.getD, hi]
  rw [e]
  cases I l[i] <;> rfl
theorem measL_end {I : Tr → Option (Int × Int)} {l : List Tr} {i : Nat} (hi : l.length ≤ i) (w : Int × Int) : measL I (l.drop i) w = some w := by
  rw [List.drop_eq_nil_of_le hi, measL]
def finM (t : Tr) (o : Option (Int × Int)) : Option (Int × Int) := match o with | none => none | some p => some (if simpB t = true then 0 else p.1, p.2)
theorem measF_succ {L : Nat} {t : Tr} (hc : (sizeF t.ns).2 = 0 ∧ (t.kids.length : Int) = max (sizeF t.ns).1 1) : measF (L + 1) t = finM t (measL (measI (measF L)) t.kids (1, (t.kids.length : Int))) := by
  rw [measF, if_pos hc]
  unfold finM
  cases measL (measI (measF L)) t.kids (1, (t.kids.length : Int)) <;> rfl
set_option maxRecDepth 100000 in
set_option maxHeartbeats 6400000 in
theorem meas_step {L : Nat} (hL : L ≤ 1000) (hM : MeasOK L) : MeasOK (L + 1) := by
  intro f D W x1 n1 y1 x2 n2 y2 t hD h
  obtain ⟨f, rfl⟩ : ∃ f', f = f' + 1 := by
    cases f with
    | zero => exact h.elim
    | succ f => exact ⟨f, rfl⟩
  obtain rfl := h.1.len
  obtain rfl := h.2.len
  have bd1 := h.1.bounds
  have bd2 := h.2.bounds
  have HM : Hid (MeasOK L) := hM
  have H : Hid (ArV (f + 1) D W (.slice x1 t.ns.length y1) (.slice x2 t.kids.length y2) t) := h
  have HD : Hid (∀ g, D g → g < W.heap.size) := hD
  clear hM h hD
  have X0 := boxA_new W #[.slice x1 t.ns.length y1, .slice x2 t.kids.length y2] 25
  have k0 := below_alloc W (.cells #[.slice x1 t.ns.length y1, .slice x2 t.kids.length y2] 25)
  have k1 := below_alloc (W.alloc (.cells #[.slice x1 t.ns.length y1, .slice x2 t.kids.length y2] 25)) (.cells #[.int .i64 0, .int .i64 0] 64)
  have R := boxA_new (W.alloc (.cells #[.slice x1 t.ns.length y1, .slice x2 t.kids.length y2] 25)) #[.int .i64 0, .int .i64 0] 64
  rw [World.size_alloc] at R
  have X := X0.below k1 (by simp)
  have g : Below W.heap.size W _ := k0.trans (k1.mono (by simp))
  have sv : ((W.alloc (.cells #[.slice x1 t.ns.length y1, .slice x2 t.kids.length y2] 25)).alloc (.cells #[.int .i64 0, .int .i64 0] 64)).heap.size = W.heap.size + 1 + 1 := by simp
  have z0 := X.cell 0 rfl
  have z1 := X.cell 1 rfl
  go_enter Tryz.func30, Tryz.ntmps30
  go_wp2_with fail
  generalize hA : (W.alloc (.cells #[.slice x1 t.ns.length y1, .slice x2 t.kids.length y2] 25)).alloc (.cells #[.int .i64 0, .int .i64 0] 64) = v at *
  clear hA k0 k1 X0
  refine (arrSize_any (H.out.1.imp (fun _ h => h) (Agree.of g HD.out)) (fun g hg => by have := HD.out g hg; omega)).mono ?_
  rintro e w' ⟨rfl, hw⟩
  obtain rfl := hw.symm
  have hsi := sizeF_in t.ns
  have R0 := R.cell 0 rfl
  have R1 := R.cell 1 rfl
  have Rf0 := R.frozen 0
  have Rf1 := R.frozen 1
  by_cases hc : (sizeF t.ns).2 = 0 ∧ (t.kids.length : Int) = max (sizeF t.ns).1 1
  case neg =>
    have HE : Hid (measF (L + 1) t = none) := by unfold Hid; rw [measF, if_neg hc]
    generalize (sizeF t.ns).2 = E at *
    generalize (sizeF t.ns).1 = N at *
    by_cases he : E = 0
    · have d1 : (E != 0) = false := by rw [bne_eq_false_iff_eq]; exact he
      have d2 : ((t.kids.length : Int) != max N 1) = true := by rw [bne_iff_ne]; exact fun h => hc ⟨he, h⟩
      clear he hc
      go_wp2
      have Rd2 := R.set2 (.int .i64 0) (.int .i64 0)
      have r0 := Rd2.cell 0 rfl
      have r1 := Rd2.cell 1 rfl
      refine bodyPost_ret (v := .tuple #[.agg #[.int .i64 0, .int .i64 0], .bool false]) (by simp [results, Tryz.results30, go_sem, r0, r1]) rfl ?_
      exact ⟨by rw [HE.out]; rfl, Below.set2 g (by omega) _ _⟩
    · have d1 : (E != 0) = true := by rw [bne_iff_ne]; exact he
      clear he hc
      go_wp2
      have Rd2 := R.set2 (.int .i64 0) (.int .i64 0)
      have r0 := Rd2.cell 0 rfl
      have r1 := Rd2.cell 1 rfl
      refine bodyPost_ret (v := .tuple #[.agg #[.int .i64 0, .int .i64 0], .bool false]) (by simp [results, Tryz.results30, go_sem, r0, r1]) rfl ?_
      exact ⟨by rw [HE.out]; rfl, Below.set2 g (by omega) _ _⟩
  case pos =>
    have HE : Hid (measF (L + 1) t = finM t (measL (measI (measF L)) t.kids (1, (t.kids.length : Int)))) := measF_succ hc
    have HIN : Hid (∀ s, inL L (measI (measF L) s)) := fun s => measI_in (measF_in L) s
    have hlen : t.kids.length ≤ 4096 := by have := hc.2; omega
    have d1 : ((sizeF t.ns).2 != 0) = false := by rw [bne_eq_false_iff_eq]; exact hc.1
    have d2 : ((t.kids.length : Int) != max (sizeF t.ns).1 1) = false := by rw [bne_eq_false_iff_eq]; exact hc.2
    have d3 : decide (((L + 1 : Nat) : Int) < 1) = false := by simp; omega
    clear hc
    generalize (sizeF t.ns).2 = E at *
    generalize (sizeF t.ns).1 = N at *
    have Wh0 := boxA_new v #[.int .i64 1, .int .i64 (t.kids.length : Int)] 64
    have kwh := below_alloc v (.cells #[.int .i64 1, .int .i64 (t.kids.length : Int)] 64)
    have swh : v.heap.size < (v.alloc (.cells #[.int .i64 1, .int .i64 (t.kids.length : Int)] 64)).heap.size := by simp
    rw [sv] at Wh0
    go_wp2
    generalize hA : v.alloc (.cells #[.int .i64 1, .int .i64 (t.kids.length : Int)] 64) = w0 at *
    clear hA R0 R1 Rf0 Rf1 z0 z1 d1 d2 d3 hsi
    go_loopw [41] (fun iv wr => ∃ (i : Nat) (d c : Int), iv = .int .i64 i ∧ i ≤ t.kids.length ∧ 1 ≤ d ∧ d ≤ 1001 ∧ 0 ≤ c ∧ c ≤ 16384 ∧ Hid (measL (measI (measF L)) t.kids (1, (t.kids.length : Int)) = measL (measI (measF L)) (t.kids.drop i) (d, c)) ∧ BoxA wr (W.heap.size + 1 + 1) 64 #[.int .i64 d, .int .i64 c] ∧ Below v.heap.size v wr ∧ v.heap.size < wr.heap.size) (fun iv _ => t.kids.length - (intOf iv).toNat)
    case atStart => exact ⟨0, 1, t.kids.length, rfl, Nat.zero_le _, by omega, by omega, by omega, by omega, rfl, Wh0, kwh, swh⟩
    case round =>
      obtain ⟨i, d, c, rfl, hil, hd1, hd2, hc1, hc2, HL, Wh, hb, hsz⟩ := hrel
      have gr : Below W.heap.size W wr := g.trans (hb.mono (by omega))
      by_cases hlt : i < t.kids.length
      · obtain ⟨gx, ox, rfl, hgx, hcx⟩ := H.out.2.ptr (by omega)
        obtain ⟨a1, c1, a2, c2, a3, c3, ⟨e0, e1, e2, e3, e4, e5⟩, hp⟩ := hcx i hlt
        have E0 := (gr.cell (p := ⟨gx, ox + i * 6, none⟩) (HD.out gx hgx)).trans e0
        have E1 := (gr.cell (p := ⟨gx, ox + i * 6 + 1, none⟩) (HD.out gx hgx)).trans e1
        have E2 := (gr.cell (p := ⟨gx, ox + i * 6 + 2, none⟩) (HD.out gx hgx)).trans e2
        have E3 := (gr.cell (p := ⟨gx, ox + i * 6 + 3, none⟩) (HD.out gx hgx)).trans e3
        have E4 := (gr.cell (p := ⟨gx, ox + i * 6 + 4, none⟩) (HD.out gx hgx)).trans e4
        have E5 := (gr.cell (p := ⟨gx, ox + i * 6 + 5, none⟩) (HD.out gx hgx)).trans e5
        have HS := measL_step (I := measI (measF L)) hlt (d, c)
        rw [← HL.out] at HS
        have hin := HIN.out (t.kids.getD i tr0)
        have HST : Hid (measL (measI (measF L)) t.kids (1, (t.kids.length : Int)) = match measI (measF L) (t.kids.getD i tr0) with
            | none => none
            | some p => if 16384 < c + p.2 then none else measL (measI (measF L)) (t.kids.drop (i + 1)) (max d (1 + p.1), c + p.2)) := HS
        clear HS HL hcx e0 e1 e2 e3 e4 e5
        generalize t.kids.getD i tr0 = T at *
        have NX := boxA_new wr #[.int .u8 T.k, .bool T.b, .slice a1 T.ns.length c1, .slice a2 T.ds.length c2, .int .i32 T.c, .slice a3 T.kids.length c3] 42
        have kx := below_alloc wr (.cells #[.int .u8 T.k, .bool T.b, .slice a1 T.ns.length c1, .slice a2 T.ds.length c2, .int .i32 T.c, .slice a3 T.kids.length c3] 42)
        have sx : wr.heap.size < (wr.alloc (.cells #[.int .u8 T.k, .bool T.b, .slice a1 T.ns.length c1, .slice a2 T.ds.length c2, .int .i32 T.c, .slice a3 T.kids.length c3] 42)).heap.size := by simp
        have m0 := NX.cell 0 rfl
        have m1 := NX.cell 1 rfl
        have m2 := NX.cell 2 rfl
        have m3 := NX.cell 3 rfl
        have m4 := NX.cell 4 rfl
        have m5 := NX.cell 5 rfl
        have hlv : ((L : Int) + 1 - 1) = (L : Int) := by omega
        go_wp2_with fail
        have hDx : ∀ g, D g → g < (wr.alloc (.cells #[.int .u8 T.k, .bool T.b, .slice a1 T.ns.length c1, .slice a2 T.ds.length c2, .int .i32 T.c, .slice a3 T.kids.length c3] 42)).heap.size := fun g hg => by have := HD.out g hg; omega
        have gx2 : Below W.heap.size W (wr.alloc (.cells #[.int .u8 T.k, .bool T.b, .slice a1 T.ns.length c1, .slice a2 T.ds.length c2, .int .i32 T.c, .slice a3 T.kids.length c3] 42)) := gr.trans (kx.mono (by omega))
        have hit := hp.agree (Agree.of gx2 HD.out)
        have Whx := Wh.below kx (by omega)
        have hbx : Below v.heap.size v _ := hb.trans (kx.mono (by omega))
        generalize hA : wr.alloc (.cells #[.int .u8 T.k, .bool T.b, .slice a1 T.ns.length c1, .slice a2 T.ds.length c2, .int .i32 T.c, .slice a3 T.kids.length c3] 42) = wx at *
        clear hA m0 m1 m2 m3 m4 m5 NX E0 E1 E2 E3 E4 E5 hp
        refine (measuredItem_all HM.out hit hDx).mono ?_
        rintro e wy ⟨rfl, ky⟩
        clear hit hDx
        have sy := ky.size
        have Why := Whx.below ky (by omega)
        have hby : Below v.heap.size v wy := hbx.trans (ky.mono (by omega))
        cases ho : measI (measF L) T with
        | none =>
          have HN : Hid (measF (L + 1) t = none) := by unfold Hid; rw [HE.out, HST.out, ho]; rfl
          clear ho HST hin
          unfold mEnd
          dsimp only [Option.getD_none, Option.isSome_none]
          have kp := below_alloc wy (.cells #[.int .i64 0, .int .i64 0] 64)
          have P := boxA_new wy #[.int .i64 0, .int .i64 0] 64
          have Whp := Why.below kp (by omega)
          have n1 : wy.heap.size ≠ W.heap.size + 1 + 1 := by omega
          have n2 : W.heap.size + 1 + 1 ≠ wy.heap.size := by omega
          have p0 := P.cell 0 rfl
          have p1 := P.cell 1 rfl
          have f0 := Whp.cell 0 rfl
          have f1 := Whp.cell 1 rfl
          have ff0 := Whp.frozen 0
          have ff1 := Whp.frozen 1
          have Rp := (R.below hby (by omega)).below kp (by omega)
          have r0 := Rp.cell 0 rfl
          have r1 := Rp.cell 1 rfl
          have rf0 := Rp.frozen 0
          have rf1 := Rp.frozen 1
          go_wp2
          have RR := ((Rp.other (p := ⟨W.heap.size + 1 + 1, 0, none⟩) (show W.heap.size + 1 + 1 ≠ W.heap.size + 1 by omega) (.int .i64 (max d 1))).other (p := ⟨W.heap.size + 1 + 1, 1, none⟩) (show W.heap.size + 1 + 1 ≠ W.heap.size + 1 by omega) (.int .i64 (c))).set2 (.int .i64 0) (.int .i64 0)
          have s0 := RR.cell 0 rfl
          have s1 := RR.cell 1 rfl
          refine bodyPost_ret (v := .tuple #[.agg #[.int .i64 0, .int .i64 0], .bool false]) (by simp [results, Tryz.results30, go_sem, s0, s1]) rfl ?_
          exact ⟨by rw [HN.out]; rfl, Below.set2 (((g.trans ((hby.trans (kp.mono (by omega))).mono (by omega))).setCell (p := ⟨W.heap.size + 1 + 1, 0, none⟩) (show W.heap.size ≤ W.heap.size + 1 + 1 by omega) _).setCell (p := ⟨W.heap.size + 1 + 1, 1, none⟩) (show W.heap.size ≤ W.heap.size + 1 + 1 by omega) _) (by omega) _ _⟩
        | some q =>
          have hq := hin q ho
          obtain ⟨q1, q2⟩ := q
          simp only at hq
          unfold mEnd
          dsimp only [Option.getD_some, Option.isSome_some]
          have kp := below_alloc wy (.cells #[.int .i64 q1, .int .i64 q2] 64)
          have P := boxA_new wy #[.int .i64 q1, .int .i64 q2] 64
          have sp : wy.heap.size < (wy.alloc (.cells #[.int .i64 q1, .int .i64 q2] 64)).heap.size := by simp
          have Whp := Why.below kp (by omega)
          have n1 : wy.heap.size ≠ W.heap.size + 1 + 1 := by omega
          have n2 : W.heap.size + 1 + 1 ≠ wy.heap.size := by omega
          have p0 := P.cell 0 rfl
          have p1 := P.cell 1 rfl
          have f0 := Whp.cell 0 rfl
          have f1 := Whp.cell 1 rfl
          have ff0 := Whp.frozen 0
          have ff1 := Whp.frozen 1
          have Rp := (R.below hby (by omega)).below kp (by omega)
          have r0 := Rp.cell 0 rfl
          have r1 := Rp.cell 1 rfl
          have rf0 := Rp.frozen 0
          have rf1 := Rp.frozen 1
          by_cases hbig : 16384 < c + q2
          · have HN : Hid (measF (L + 1) t = none) := by unfold Hid; rw [HE.out, HST.out, ho]; simp only; rw [if_pos hbig]; rfl
            clear ho HST hin
            go_wp2
            have RR := ((Rp.other (p := ⟨W.heap.size + 1 + 1, 0, none⟩) (show W.heap.size + 1 + 1 ≠ W.heap.size + 1 by omega) (.int .i64 (max d (1 + q1)))).other (p := ⟨W.heap.size + 1 + 1, 1, none⟩) (show W.heap.size + 1 + 1 ≠ W.heap.size + 1 by omega) (.int .i64 (c + q2))).set2 (.int .i64 0) (.int .i64 0)
            have s0 := RR.cell 0 rfl
            have s1 := RR.cell 1 rfl
            refine bodyPost_ret (v := .tuple #[.agg #[.int .i64 0, .int .i64 0], .bool false]) (by simp [results, Tryz.results30, go_sem, s0, s1]) rfl ?_
            exact ⟨by rw [HN.out]; rfl, Below.set2 (((g.trans ((hby.trans (kp.mono (by omega))).mono (by omega))).setCell (p := ⟨W.heap.size + 1 + 1, 0, none⟩) (show W.heap.size ≤ W.heap.size + 1 + 1 by omega) _).setCell (p := ⟨W.heap.size + 1 + 1, 1, none⟩) (show W.heap.size ≤ W.heap.size + 1 + 1 by omega) _) (by omega) _ _⟩
          · have HN : Hid (measL (measI (measF L)) t.kids (1, (t.kids.length : Int)) = measL (measI (measF L)) (t.kids.drop (i + 1)) (max d (1 + q1), c + q2)) := by unfold Hid; rw [HST.out, ho]; simp only; rw [if_neg hbig]
            clear ho HST hin
            go_wp2
            go_roundw
            case rel =>
              have WW := Whp.set2 (.int .i64 (max d (1 + q1))) (.int .i64 (c + q2))
              exact ⟨i + 1, max d (1 + q1), c + q2, by go_num, by omega, by omega, by omega, by omega, by omega, HN, WW, ((hby.trans (kp.mono (by omega))).setCell (p := ⟨W.heap.size + 1 + 1, 0, none⟩) (show v.heap.size ≤ W.heap.size + 1 + 1 by omega) _).setCell (p := ⟨W.heap.size + 1 + 1, 1, none⟩) (show v.heap.size ≤ W.heap.size + 1 + 1 by omega) _, by simp [World.setCell]; omega⟩
            case measure => simp [intOf]; omega
      · have HF : Hid (measF (L + 1) t = some (if simpB t = true then 0 else d, c)) := by
          unfold Hid
          rw [HE.out, HL.out, measL_end (by omega)]
          rfl
        have Xr := X.below hb (by omega)
        have x0 := Xr.cell 0 rfl
        have x1' := Xr.cell 1 rfl
        go_wp2_with fail
        refine (isSimpleT_any (H.out.agree (Agree.of gr HD.out)) (fun g hg => by have := HD.out g hg; omega)).mono ?_
        rintro e ws ⟨rfl, hws⟩
        have ks := below_alloc wr (.cells #[.slice x1 t.ns.length y1, .slice x2 t.kids.length y2] 25)
        rw [← hws] at ks
        clear hws x0 x1'
        have ss := ks.size
        have Whs := Wh.below ks (by omega)
        have hbs : Below v.heap.size v ws := hb.trans (ks.mono (by omega))
        have Rs := R.below hbs (by omega)
        have f0 := Whs.cell 0 rfl
        have f1 := Whs.cell 1 rfl
        have ff0 := Whs.frozen 0
        have ff1 := Whs.frozen 1
        have r0 := Rs.cell 0 rfl
        have r1 := Rs.cell 1 rfl
        have rf0 := Rs.frozen 0
        have rf1 := Rs.frozen 1
        have n1 : W.heap.size + 1 ≠ W.heap.size + 1 + 1 := by omega
        have n2 : W.heap.size + 1 + 1 ≠ W.heap.size + 1 := by omega
        cases hs : simpB t with
        | true =>
          have HF2 : Hid (measF (L + 1) t = some (0, c)) := by unfold Hid; rw [HF.out, hs]; rfl
          clear hs HF
          go_wp2
          have RR := (Rs.other (p := ⟨W.heap.size + 1 + 1, 0, none⟩) (show W.heap.size + 1 + 1 ≠ W.heap.size + 1 by omega) (.int .i64 0)).set2 (.int .i64 0) (.int .i64 c)
          have s0 := RR.cell 0 rfl
          have s1 := RR.cell 1 rfl
          refine bodyPost_ret (v := .tuple #[.agg #[.int .i64 0, .int .i64 c], .bool true]) (by simp [results, Tryz.results30, go_sem, s0, s1]) rfl ?_
          exact ⟨by rw [HF2.out]; rfl, Below.set2 ((g.trans (hbs.mono (by omega))).setCell (p := ⟨W.heap.size + 1 + 1, 0, none⟩) (show W.heap.size ≤ W.heap.size + 1 + 1 by omega) _) (by omega) _ _⟩
        | false =>
          have HF2 : Hid (measF (L + 1) t = some (d, c)) := by unfold Hid; rw [HF.out, hs]; rfl
          clear hs HF
          go_wp2
          have RR := Rs.set2 (.int .i64 d) (.int .i64 c)
          have s0 := RR.cell 0 rfl
          have s1 := RR.cell 1 rfl
          refine bodyPost_ret (v := .tuple #[.agg #[.int .i64 d, .int .i64 c], .bool true]) (by simp [results, Tryz.results30, go_sem, s0, s1]) rfl ?_
          exact ⟨by rw [HF2.out]; rfl, Below.set2 (g.trans (hbs.mono (by omega))) (by omega) _ _⟩
end Go.Proofs.YtnlmjibdifbnbaaGreat
