/- nat.guessLimb: what a quotient's limb is to be, or 1 more; nat.quotientLimb: the limb, and what is left in the window. -/
import Derived.Test.YtibciilhfpgjjadDoorWindow
namespace Go.Proofs.YtibciilhfpgjjadDoor
set_option linter.unusedVariables false
set_option linter.unusedSimpArgs false
open Go.RowKit

theorem quo_top (u b d l t k P Q : Int) (hP : 0 < P) (hb : b = d * P + l) (hl : 0 ≤ l) (hu : u = t * P + k) (hk : k < P) (hQ : Q * b ≤ u) (hQ0 : 0 ≤ Q) : Q * d ≤ t := by
  have h1 : Q * d * P ≤ u := by
    have : Q * b = Q * d * P + Q * l := by rw [hb, Int.mul_add, Int.mul_assoc]
    have : 0 ≤ Q * l := Int.mul_nonneg hQ0 hl
    omega
  have h3 : Q * d * P < (t + 1) * P := by rw [Int.add_mul, Int.one_mul]; omega
  have := Int.lt_of_mul_lt_mul_right h3 (Int.le_of_lt hP)
  omega

theorem g_exit (top second u0 head G R : Int) (h : G * top + R = head) (ht : G * second ≤ R * 4294967296 + u0) : G * (top * 4294967296 + second) ≤ head * 4294967296 + u0 := by
  rw [← h, Int.mul_add, Int.add_mul, ← Int.mul_assoc]; omega

theorem g_dec (top second u0 head G R Q : Int) (h : G * top + R = head) (ht : R * 4294967296 + u0 < G * second) (hQ : Q * (top * 4294967296 + second) ≤ head * 4294967296 + u0) (hd : 0 < top * 4294967296 + second) : Q < G := by
  have h1 : head * 4294967296 + u0 < G * (top * 4294967296 + second) := by
    rw [← h, Int.mul_add, Int.add_mul, ← Int.mul_assoc]; omega
  exact Int.lt_of_mul_lt_mul_right (show Q * (top * 4294967296 + second) < G * (top * 4294967296 + second) by omega) (Int.le_of_lt hd)

theorem g_break (top second u0 head G R : Int) (h : G * top + R = head) (hR : 4294967296 ≤ R) (hh : head ≤ top * 4294967296 + 4294967295) (ht : 0 < top) (hs : 0 ≤ second ∧ second < 4294967296) (h0 : 0 ≤ u0) (hG : 0 ≤ G) : G ≤ 4294967295 ∧ G * (top * 4294967296 + second) ≤ head * 4294967296 + u0 := by
  have h1 : G ≤ 4294967295 := by
    by_cases hg : G ≤ 4294967295
    · exact hg
    · have : 4294967296 * top ≤ G * top := Int.mul_le_mul_of_nonneg_right (by omega) (Int.le_of_lt ht)
      omega
  refine ⟨h1, g_exit top second u0 head G R h ?_⟩
  have h2 := (mul_bound ⟨hG, (by omega : G < 4294967296)⟩ hs).2
  omega

theorem g_first (top second u0 head Q : Int) (hQ : Q * (top * 4294967296 + second) ≤ head * 4294967296 + u0) (hQ0 : 0 ≤ Q) (hs : 0 ≤ second) (hu : u0 < 4294967296) (ht : 0 < top) : Q ≤ head / top := by
  refine Int.le_ediv_of_mul_le ht ?_
  have h1 : 0 ≤ Q * second := Int.mul_nonneg hQ0 hs
  rw [Int.mul_add, ← Int.mul_assoc] at hQ
  omega

/-- The top limbs of the window and of the divisor. -/
theorem top_two (ys : List Int) (m : Nat) (h : ys.length = m + 2) : val ys = (ys.getD (m + 1) 0 * 4294967296 + ys.getD m 0) * pw m + val (ys.take m) := by
  have e : ys = ys.take (m + 1 + 1) := by rw [List.take_of_length_le (by omega)]
  have h1 := val_take_succ ys (m + 1) (by omega)
  have h2 := val_take_succ ys m (by omega)
  rw [← e] at h1
  rw [h1, h2, pw_succ]
  generalize ys.getD m 0 = a
  generalize ys.getD (m + 1) 0 = b
  rw [Int.add_mul, Int.mul_assoc b]
  omega
theorem top_three (us : List Int) (m : Nat) (h : us.length = m + 2 + 1) : val us = ((us.getD (m + 2) 0 * 4294967296 + us.getD (m + 1) 0) * 4294967296 + us.getD m 0) * pw m + val (us.take m) := by
  have e : us = us.take (m + 2 + 1) := by rw [List.take_of_length_le (by omega)]
  have h0 := val_take_succ us (m + 2) (by omega)
  have h1 := val_take_succ us (m + 1) (by omega)
  have h2 := val_take_succ us m (by omega)
  rw [← e] at h0
  rw [h0, h1, h2, show m + 2 = (m + 1) + 1 by omega]
  simp only [pw_succ]
  generalize us.getD m 0 = a
  generalize us.getD (m + 1) 0 = b
  generalize us.getD (m + 1 + 1) 0 = c
  have e1 : ((c * 4294967296 + b) * 4294967296 + a) * pw m = c * (4294967296 * (4294967296 * pw m)) + b * (4294967296 * pw m) + a * pw m := by
    simp only [Int.add_mul, Int.mul_assoc]
  omega

set_option maxRecDepth 100000 in
set_option maxHeartbeats 1600000 in
theorem guessLimb_any {base g j m L c gb ob : Nat} {w : World} {A U C ys : List Int} (Q : Int) (cu bc : Nat) (hw : Win base g j (m + 2) L c gb ob w A U C ys) (hn : m ≤ 17592186044413) (htop : 2147483648 ≤ ys.getD (m + 1) 0) (hQ0 : 0 ≤ Q) (hQ1 : Q < 4294967296) (hlo : Q * val ys ≤ val U) (hhi : val U < (Q + 1) * val ys) :
    Calls Tryd.prog 102 #[.slice (some ⟨g, j, none⟩) (m + 2 + 1) cu, .slice (some ⟨gb, ob, none⟩) (m + 2) bc] w fun e w' => (∃ G, e = .returned (.int .u64 G) ∧ Q ≤ G ∧ G ≤ Q + 1 ∧ G ≤ 4294967295) ∧ ∃ k, w' = w.drewN k := by
  have ey := top_two ys m hw.lys
  have eu := top_three U m hw.lU
  have bl := val_bound (lim_take hw.ly m)
  have bk := val_bound (lim_take hw.limU m)
  have ll : (ys.take m).length = m := by have := hw.lys; simp; omega
  have lk : (U.take m).length = m := by have := hw.lU; simp; omega
  rw [ll] at bl
  rw [lk] at bk
  have c1 := hw.cell (m + 1) (by omega)
  have c0 := hw.cell m (by omega)
  have d2 := hw.at (m + 2) (by omega)
  have d1 := hw.at (m + 1) (by omega)
  have d0 := hw.at m (by omega)
  have rt := lim_getD hw.ly (m + 1)
  have rs := lim_getD hw.ly m
  have r2 := lim_getD hw.limU (m + 2)
  have r1 := lim_getD hw.limU (m + 1)
  have r0 := lim_getD hw.limU m
  generalize ys.getD (m + 1) 0 = top at *
  generalize ys.getD m 0 = second at *
  generalize U.getD (m + 2) 0 = u2 at *
  generalize U.getD (m + 1) 0 = u1 at *
  generalize U.getD m 0 = u0 at *
  have hP := pw_pos m
  have F1 : Hid (Q * (top * 4294967296 + second) ≤ (u2 * 4294967296 + u1) * 4294967296 + u0) := quo_top _ _ _ _ _ _ (pw m) Q hP ey bl.1 eu bk.2 hlo hQ0
  have F2 : Hid (∀ G : Int, 0 ≤ G → G ≤ 4294967295 → G * (top * 4294967296 + second) ≤ (u2 * 4294967296 + u1) * 4294967296 + u0 → G ≤ Q + 1) := fun G g0 g1 g2 => guess_high _ _ _ _ _ _ (pw m) Q G hP ey bl.1 bl.2 eu bk.1 hhi g2 g1 g0 (by omega)
  have F3 : u2 ≤ top := by
    by_cases h : u2 ≤ top
    · exact h
    · exfalso
      have h1 : val U < 4294967296 * val ys := by
        have : (Q + 1) * val ys ≤ 4294967296 * val ys := Int.mul_le_mul_of_nonneg_right (by omega) (val_bound hw.ly).1
        omega
      have h2 : ((top + 1) * 4294967296 * 4294967296) * pw m ≤ ((u2 * 4294967296 + u1) * 4294967296 + u0) * pw m := Int.mul_le_mul_of_nonneg_right (by omega) (Int.le_of_lt hP)
      have h3 : (top * 4294967296 + second + 1) * pw m ≤ ((top + 1) * 4294967296) * pw m := Int.mul_le_mul_of_nonneg_right (by omega) (Int.le_of_lt hP)
      have h4 : ((top + 1) * 4294967296 * 4294967296) * pw m = 4294967296 * (((top + 1) * 4294967296) * pw m) := by rw [Int.mul_comm ((top + 1) * 4294967296) 4294967296, Int.mul_assoc]
      have h5 : (top * 4294967296 + second + 1) * pw m = (top * 4294967296 + second) * pw m + pw m := by rw [Int.add_mul _ 1, Int.one_mul]
      rw [h4] at h2
      rw [h5] at h3
      generalize ((top + 1) * 4294967296) * pw m = X1 at *
      generalize (top * 4294967296 + second) * pw m = X2 at *
      generalize ((u2 * 4294967296 + u1) * 4294967296 + u0) * pw m = X3 at *
      omega
  clear hlo hhi ey eu bl bk ll lk hP hw
  have e1 : ((m + 2 : Nat) : Int) - 1 = ((m + 1 : Nat) : Int) := by omega
  have e2 : ((m + 2 : Nat) : Int) - 2 = ((m : Nat) : Int) := by omega
  have hor := or_add u2 u1 r2 r1
  have htb : (top == 0) = false := by simp; omega
  have hH0 : 0 ≤ u2 * 4294967296 + u1 := by omega
  have hH1 : u2 * 4294967296 + u1 < 18446744073709551616 := by omega
  have hH2 : u2 * 4294967296 + u1 ≤ top * 4294967296 + 4294967295 := by omega
  generalize hHH : u2 * 4294967296 + u1 = head at *
  have G0 := g_first top second u0 head Q F1.out hQ0 rs.1 r0.2 (by omega)
  have hdm : top * (head / top) + head % top = head := Int.mul_ediv_add_emod head top
  have q0 : 0 ≤ head / top := Int.ediv_nonneg hH0 (by omega)
  have q1 : head / top < 8589934592 := Int.ediv_lt_of_lt_mul (by omega) (by omega)
  have m0 : 0 ≤ head % top := Int.emod_nonneg _ (by omega)
  have m1 : head % top < top := Int.emod_lt_of_pos _ (by omega)
  generalize hQQ : head / top = qh at *
  generalize hMM : head % top = rh at *
  go_enter Tryd.func102, Tryd.ntmps102
  have HDM : Hid (qh * top + rh = head) := by unfold Hid; rw [Int.mul_comm]; exact hdm
  clear hdm
  go_wp2
  go_quiet (fail)
  go_wp2
  go_quiet (fail)
  go_wp2
  go_quiet (fail)
  go_wp2
  have HMM : Hid (head % top = rh) := hMM
  have HQQ : Hid (head / top = qh) := hQQ
  clear hQQ hMM hHH
  go_loopw [9, 10] (fun s r wr => (∃ k, wr = w.drewN k) ∧ ∃ G R : Int, s = .int .u64 G ∧ r = .int .u64 R ∧ 0 ≤ G ∧ G < 8589934592 ∧ 0 ≤ R ∧ R < 4294967296 ∧ Hid (G * top + R = head) ∧ Q ≤ G)
    (fun s _ _ => (intOf s).toNat)
  case atStart => exact ⟨⟨_, drew3 _ _ _ _⟩, qh, rh, by rw [HQQ.out], by rw [HMM.out], q0, q1, m0, by omega, HDM, G0⟩
  case round =>
    obtain ⟨⟨k, rfl⟩, G, R, rfl, rfl, hG0, hG1, hR0, hR1, hGR, hQG⟩ := hrel
    have hdec : ∀ (hlt : Q < G), Hid ((G - 1) * top + (R + top) = head) := by
      intro _
      unfold Hid
      rw [← hGR.out, Int.sub_mul]; omega
    by_cases hbig : 4294967295 < G
    · have hst := hdec (by omega)
      clear hdec
      by_cases hbr : 4294967295 < R + top
      · have hx := g_break top second u0 head (G - 1) (R + top) hst.out (by omega) hH2 (by omega) rs r0.1 (by omega)
        have hx2 := F2.out (G - 1) (by omega) hx.1 hx.2
        have HX : Hid (G - 1 ≤ Q + 1 ∧ G - 1 ≤ 4294967295) := ⟨hx2, hx.1⟩
        clear hx hx2
        go_wp2
        go_ret
        exact ⟨⟨G - 1, rfl, by omega, HX.out.1, HX.out.2⟩, _, rfl⟩
      · go_wp2
        go_roundw
        case rel => exact ⟨⟨_, rfl⟩, G - 1, R + top, rfl, rfl, by omega, by omega, by omega, by omega, hst, by omega⟩
        case measure => simp [intOf]; omega
    · have hgs := mul_bound ⟨hG0, (by omega : G < 4294967296)⟩ rs
      have hor2 := or_add R u0 ⟨hR0, hR1⟩ r0
      by_cases htest : R * 4294967296 + u0 < G * second
      · have hQG2 := g_dec top second u0 head G R Q hGR.out htest F1.out (by omega)
        have hst := hdec hQG2
        clear hdec
        by_cases hbr : 4294967295 < R + top
        · have hx := g_break top second u0 head (G - 1) (R + top) hst.out (by omega) hH2 (by omega) rs r0.1 (by omega)
          have hx2 := F2.out (G - 1) (by omega) hx.1 hx.2
          have HX : Hid (G - 1 ≤ Q + 1 ∧ G - 1 ≤ 4294967295) := ⟨hx2, hx.1⟩
          clear hx hx2
          go_wp2
          go_ret
          exact ⟨⟨G - 1, rfl, by omega, HX.out.1, HX.out.2⟩, _, rfl⟩
        · go_wp2
          go_roundw
          case rel => exact ⟨⟨_, rfl⟩, G - 1, R + top, rfl, rfl, by omega, by omega, by omega, by omega, hst, by omega⟩
          case measure => simp [intOf]; omega
      · have hx := F2.out G hG0 (by omega) (g_exit top second u0 head G R hGR.out (by omega))
        clear hdec
        go_wp2
        go_ret
        exact ⟨⟨G, rfl, hQG, hx, by omega⟩, _, rfl⟩

set_option maxRecDepth 100000 in
set_option maxHeartbeats 1600000 in
theorem quotientLimb_any {base g j m L c gb ob : Nat} {w : World} {A U C ys : List Int} (cu bc : Nat) (hw : Win base g j (m + 2) L c gb ob w A U C ys) (hn : m ≤ 17592186044413) (htop : 2147483648 ≤ ys.getD (m + 1) 0) (hlt : val U < 4294967296 * val ys) :
    Calls Tryd.prog 92 #[.slice (some ⟨g, j, none⟩) (m + 2 + 1) cu, .slice (some ⟨gb, ob, none⟩) (m + 2) bc] w fun e w' => ∃ U', e = .returned (.int .u32 (val U / val ys)) ∧ (0 ≤ val U / val ys ∧ val U / val ys < 4294967296) ∧ val U' = val U % val ys ∧ Win base g j (m + 2) L c gb ob w' A U' C ys ∧ Kept2 w w' g none := by
  have hb0 : 0 < val ys := by
    have h1 := (val_bound hw.ly).1
    have h2 := (val_bound hw.limU).1
    omega
  have hu0 := (val_bound hw.limU).1
  have hdm : val ys * (val U / val ys) + val U % val ys = val U := Int.mul_ediv_add_emod _ _
  have q0 : 0 ≤ val U / val ys := Int.ediv_nonneg hu0 (by omega)
  have q1 : val U / val ys < 4294967296 := Int.ediv_lt_of_lt_mul hb0 hlt
  have m0 : 0 ≤ val U % val ys := Int.emod_nonneg _ (by omega)
  have m1 : val U % val ys < val ys := Int.emod_lt_of_pos _ hb0
  have hbw := (val_bound hw.ly).2
  have hpw : pw ys.length ≤ pw (m + 2 + 1) := pw_mono (by rw [hw.lys]; omega)
  generalize val U / val ys = Q at *
  generalize val U % val ys = r at *
  rw [Int.mul_comm] at hdm
  have g1 := guessLimb_any Q cu bc hw hn htop q0 q1 (by omega) (by rw [Int.add_mul]; omega)
  have HD : Hid (Q * val ys + r = val U) := hdm
  have HB : Hid (0 < val ys ∧ val ys ≤ pw (m + 2 + 1) ∧ r < val ys) := ⟨hb0, by omega, m1⟩
  clear hdm hlt hpw hb0 hu0 m1 hbw
  go_enter Tryd.func92, Tryd.ntmps92
  go_wp2_with fail
  refine (g1).mono ?_
  rintro e w1 ⟨⟨G, rfl, hG1, hG2, hG3⟩, k, rfl⟩
  clear g1
  have hw1 : Win base g j (m + 2) L c gb ob (w.drewN k) A U C ys := ⟨hw.lA, hw.lU, hw.lL, hw.own, hw.ne, hw.lt, hw.ly, hw.lys, hw.cell⟩
  have hk1 : Kept2 w (w.drewN k) g none := ⟨rfl, rfl, rfl, Nat.le_refl _, fun _ _ _ _ => rfl⟩
  go_wp2_with fail
  refine (takeTimes_any G cu bc (by omega) (by omega) hw1 (by omega)).mono ?_
  rintro e w2 ⟨U2, β, rfl, hβ, hv2, hw2, hk2⟩
  have b2 := val_bound hw2.limU
  rw [hw2.lU] at b2
  have hcase : (G = Q ∧ β = 0 ∧ val U2 = r) ∨ (G = Q + 1 ∧ β = 1 ∧ val U2 = r - val ys + pw (m + 2 + 1)) := by
    have h1 := HD.out
    have h2 := HB.out
    by_cases hg : G = Q
    · subst hg
      left
      rcases hβ with rfl | rfl
      · exact ⟨rfl, rfl, by omega⟩
      · exfalso; omega
    · right
      have hg : G = Q + 1 := by omega
      subst hg
      rw [Int.add_mul] at hv2
      rcases hβ with rfl | rfl
      · exfalso; omega
      · exact ⟨rfl, rfl, by omega⟩
  rcases hcase with ⟨rfl, rfl, hv⟩ | ⟨rfl, rfl, hv⟩
  · have HV : Hid (val U2 = r) := hv
    clear hv hv2 b2
    go_wp2
    go_ret
    exact ⟨U2, rfl, ⟨q0, q1⟩, HV.out, hw2, hk1.trans hk2⟩
  · have HV : Hid (val U2 = r - val ys + pw (m + 2 + 1)) := hv
    clear hv hv2 b2
    go_wp2_with fail
    refine (addBack_any cu bc hw2 (by omega)).mono ?_
    rintro e w3 ⟨U3, kk, rfl, hv3, hw3, hk3⟩
    have b3 := val_bound hw3.limU
    rw [hw3.lU] at b3
    have HV3 : Hid (val U3 = r) := by
      unfold Hid
      rw [HV.out] at hv3
      have h2 := HB.out
      have e1 : val U3 + kk * pw (m + 2 + 1) = r + 1 * pw (m + 2 + 1) := by omega
      have e2 : (val U3 + kk * pw (m + 2 + 1)) % pw (m + 2 + 1) = (r + 1 * pw (m + 2 + 1)) % pw (m + 2 + 1) := by rw [e1]
      rw [Int.add_mul_emod_self_right, Int.add_mul_emod_self_right, Int.emod_eq_of_lt b3.1 b3.2, Int.emod_eq_of_lt m0 (by omega)] at e2
      exact e2
    clear hv3 b3
    go_wp2
    go_ret
    exact ⟨U3, ret_int (by omega), ⟨q0, q1⟩, HV3.out, hw3, (hk1.trans hk2).trans hk3⟩
end Go.Proofs.YtibciilhfpgjjadDoor
