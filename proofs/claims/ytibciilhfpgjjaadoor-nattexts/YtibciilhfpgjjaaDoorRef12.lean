/- The document's DivMod. -/
import Derived.Test.YtibciilhfpgjjaaDoorRef11
namespace Go.Proofs.YtibciilhfpgjjaaDoor
set_option linter.unusedVariables false
set_option linter.unusedSimpArgs false
open Go.RowKit

/-- What a division answers: quotient and rest. -/
def RefDivs (w : World) (xs ys : List Int) (e : Ending) (w' : World) : Prop :=
  ∃ qs rs a c a' c', e = .returned (.tuple #[.slice a qs.length c, .slice a' rs.length c', .bool true]) ∧ Own w.heap.size w' (.slice a qs.length c) qs ∧ Own w.heap.size w' (.slice a' rs.length c') rs ∧ can qs ∧ can rs ∧ val xs = val qs * val ys + val rs ∧ val rs < val ys ∧ Below w.heap.size w w'

theorem refDivMod_zero {B1 : Nat} {w : World} {v1 v2 : Value} {ys : List Int} (h2 : Rd B1 w v2 ys) (hn : ys.length ≤ 1000000) (h0 : val ys = 0) :
    Calls Tryd.prog 33 #[v1, v2] w fun e w' => e = .returned (.tuple #[.slice none 0 0, .slice none 0 0, .bool false]) ∧ Below w.heap.size w w' := by
  have ht : (tr ys).length = 0 := by rw [can_zero (tr_can h2.lim), val_tr]; exact h0
  go_enter Tryd.func33, Tryd.ntmps33
  go_wp2_with fail
  refine (refTrim_rd h2 (by omega)).mono ?_
  rintro e wa ⟨a1, q1, rfl, o1, ba⟩
  rw [ht]
  go_wp2
  go_ret3
  exact ⟨rfl, ba⟩

theorem len_of_lt {zs : List Int} (h : can zs) {L : Nat} (hv : val zs < pw L) : zs.length ≤ L := (can_len_pw h L).2 hv

theorem quot_le {A B q r : Int} (h : A = q * B + r) (hB : 0 < B) (hq : 0 ≤ q) (hr : 0 ≤ r) : q ≤ A := by
  have : q * 1 ≤ q * B := Int.mul_le_mul_of_nonneg_left (by omega) hq
  omega

set_option maxRecDepth 100000 in
set_option maxHeartbeats 3200000 in
theorem refDivMod_any {B1 B2 : Nat} {w : World} {v1 v2 : Value} {xs ys : List Int} (h1 : Rd B1 w v1 xs) (b1 : B1 ≤ w.heap.size) (h2 : Rd B2 w v2 ys) (b2 : B2 ≤ w.heap.size) (n1 : xs.length ≤ 1000000) (n2 : ys.length ≤ 1000000) (h0 : ¬ val ys = 0) :
    Calls Tryd.prog 33 #[v1, v2] w fun e w' => RefDivs w xs ys e w' := by
  have hA := val_bound h1.lim
  have hY := val_bound h2.lim
  have ht : ¬ (tr ys).length = 0 := by rw [can_zero (tr_can h2.lim), val_tr]; exact h0
  have HA : Hid (0 ≤ val xs ∧ val xs < pw xs.length) := hA
  have HY : Hid (0 < val ys ∧ val ys < pw ys.length) := ⟨by omega, hY.2⟩
  clear hA hY h0
  go_enter Tryd.func33, Tryd.ntmps33
  go_wp2_with fail
  refine (refTrim_rd h2 (by omega)).mono ?_
  rintro e wa ⟨a1, q1, rfl, o1, ba⟩
  have ra1 := h1.below (ba.mono b1)
  have sa := ba.size
  clear o1
  generalize (tr ys).length = T at ht
  go_wp2_with fail
  refine (refBits_any ra1 (by omega)).mono ?_
  rintro e wb ⟨nb, rfl, hbits, bb⟩
  have bw : Below w.heap.size w wb := ba.trans (bb.mono sa)
  have hnb : nb ≤ 32 * xs.length := by
    rcases hbits with ⟨_, rfl⟩ | ⟨k1, k2, k3⟩
    · omega
    · by_cases hle : nb ≤ 32 * xs.length
      · exact hle
      · have h3 := p2_mono (show 32 * xs.length ≤ nb - 1 by omega)
        rw [← pw_p2] at h3
        have := HA.out; omega
  have HS : Hid (sh (val xs) nb = 0) := sh_bits hbits
  clear hbits
  go_wp2
  go_loopw [7, 8, 9] (fun q r ii wr => ∃ (i : Nat) (qs rs : List Int) (a : Option Addr) (c : Nat) (a' : Option Addr) (c' : Nat), i ≤ nb ∧ ii = .int .i64 ((i : Int) - 1) ∧ can qs ∧ can rs ∧ Hid (sh (val xs) i = val qs * val ys + val rs ∧ val rs < val ys) ∧ q = .slice a qs.length c ∧ r = .slice a' rs.length c' ∧ Own w.heap.size wr (.slice a qs.length c) qs ∧ Own w.heap.size wr (.slice a' rs.length c') rs ∧ Below w.heap.size w wr)
    (fun _ _ ii _ => (intOf ii + 1).toNat)
  case atStart => exact ⟨nb, [], [], none, 0, none, 0, Nat.le_refl _, by go_num, can_nil, can_nil, (by unfold Hid; rw [HS.out]; have := HY.out; simp [val]; omega), rfl, rfl, own_nil _ _, own_nil _ _, bw⟩
  case round =>
    obtain ⟨i, qs, rs, a, c, a', c', hib, rfl, cq, cr, hval, rfl, rfl, oq, or, hbl⟩ := hrel
    have hs := hbl.size
    by_cases hi0 : i = 0
    · subst hi0
      have HF : Hid (val xs = val qs * val ys + val rs ∧ val rs < val ys) := by
        have := hval.out; rw [sh_zero] at this; exact this
      go_wp2
      go_ret3
      exact ⟨qs, rs, a, c, a', c', rfl, oq, or, cq, cr, HF.out.1, HF.out.2, hbl⟩
    · obtain ⟨k, rfl⟩ : ∃ k, i = k + 1 := ⟨i - 1, by omega⟩
      have rw1 := h1.below (hbl.mono b1)
      have rw2 := h2.below (hbl.mono b2)
      obtain ⟨m, hm⟩ : ∃ m, Hid (m = sh (val xs) k % 2) := ⟨_, rfl⟩
      have hm01 : 0 ≤ m ∧ m ≤ 1 := by have := hm.out; omega
      have hrl : rs.length ≤ ys.length := len_of_lt cr (by have := hval.out; have := HY.out; omega)
      have hqn := val_bound cq.1
      have hrn := val_bound cr.1
      have hql : qs.length ≤ xs.length := len_of_lt cq (by
        have h3 := quot_le hval.out.1 HY.out.1 hqn.1 hrn.1
        have h4 := sh_le HA.out.1 (k + 1)
        have := HA.out; omega)
      have HN : Hid (0 ≤ val qs ∧ 0 ≤ val rs) := ⟨hqn.1, hrn.1⟩
      clear hqn hrn
      have eik : (((k + 1 : Nat) : Int) - 1) = (k : Int) := by omega
      rw [eik]
      go_wp2_with fail
      refine (refBit_any k m hm rw1 (by omega) (by omega)).mono ?_
      rintro e w' ⟨rfl, rfl⟩
      go_wp2_with fail
      refine (refTwice_any m hm01 or.rd (Nat.le_refl _) (by omega)).mono ?_
      rintro e w2 ⟨r2, c2, v2', a2, q2, rfl, o2, bl2⟩
      have s2 := bl2.size
      have bw2 : Below w.heap.size w w2 := hbl.trans (bl2.mono hs)
      have oq2 := oq.below bl2 (Nat.le_refl _)
      have hst := divBit_step (val xs) (val ys) (val qs) (val rs) m k hval.out.1 hm.out
      have HST : Hid (sh (val xs) k = (2 * val qs) * val ys + (2 * val rs + m) ∧ sh (val xs) k = (2 * val qs + 1) * val ys + (2 * val rs + m - val ys)) := hst
      have HV2 : Hid (val r2 = 2 * val rs + m) := v2'
      have hr2l : r2.length ≤ ys.length + 1 := len_of_lt c2 (by
        rw [v2', pw_succ]
        have := hval.out; have := HY.out; omega)
      clear hst v2'
      have rd2 := h2.below (bw2.mono b2)
      by_cases hge : val ys ≤ val r2
      · obtain ⟨cm, hcm, hcm0⟩ : ∃ cm, cmpI (val r2) (val ys) = cm ∧ 0 ≤ cm := by
          by_cases he : val r2 = val ys
          · exact ⟨0, cmpI_eq he, by omega⟩
          · exact ⟨1, cmpI_gt (by omega), by omega⟩
        have HGE : Hid (val ys ≤ val r2) := hge
        clear hge
        go_wp2_with fail
        refine (refCompare_rd o2.rd rd2 (by omega) (by omega) (by omega)).mono ?_
        rintro e w3 ⟨rfl, bl3⟩
        rw [hcm]
        clear hcm
        have s3 := bl3.size
        have bw3 : Below w.heap.size w w3 := bw2.trans (bl3.mono (by omega))
        have rd3 := h2.below (bw3.mono b2)
        have o23 := o2.below bl3 (Nat.le_refl _)
        have oq3 := oq2.below bl3 (Nat.le_refl _)
        go_wp2_with fail
        refine (refMinus_any o23.rd (Nat.le_refl _) rd3 (by omega) (by omega) (by omega)).mono ?_
        rintro e w4 ⟨bl4, hmin⟩
        rw [if_neg (by have := HGE.out; omega)] at hmin
        obtain ⟨r4, a4, c4, can4, v4, rfl, o4⟩ := hmin
        have s4 := bl4.size
        have bw4 : Below w.heap.size w w4 := bw3.trans (bl4.mono (by omega))
        have oq4 := oq3.below bl4 (Nat.le_refl _)
        have HV4 : Hid (val r4 = val r2 - val ys) := v4
        clear v4
        go_wp2_with fail
        refine (refTwice_any 1 (by omega) oq4.rd (Nat.le_refl _) (by omega)).mono ?_
        rintro e w5 ⟨q5, can5, v5, a5, c5, rfl, o5, bl5⟩
        have s5 := bl5.size
        have HV5 : Hid (val q5 = 2 * val qs + 1) := v5
        clear v5
        go_wp2
        go_roundw
        case rel => exact ⟨k, q5, r4, a5, c5, a4, c4, by omega, by go_num, can5, can4, (by
          unfold Hid; rw [HV5.out, HV4.out, HV2.out]; refine ⟨HST.out.2, ?_⟩; have := hval.out; omega), rfl, rfl, o5.mono (by omega), (o4.below bl5 (Nat.le_refl _)).mono (by omega), bw4.trans (bl5.mono (by omega))⟩
        case measure => simp [intOf]
      · have hcm := cmpI_lt (show val r2 < val ys by omega)
        have HGE : Hid (val r2 < val ys) := by unfold Hid; omega
        clear hge
        go_wp2_with fail
        refine (refCompare_rd o2.rd rd2 (by omega) (by omega) (by omega)).mono ?_
        rintro e w3 ⟨rfl, bl3⟩
        rw [hcm]
        clear hcm
        have s3 := bl3.size
        have bw3 : Below w.heap.size w w3 := bw2.trans (bl3.mono (by omega))
        have o23 := o2.below bl3 (Nat.le_refl _)
        have oq3 := oq2.below bl3 (Nat.le_refl _)
        go_wp2_with fail
        refine (refTwice_any 0 (by omega) oq3.rd (Nat.le_refl _) (by omega)).mono ?_
        rintro e w5 ⟨q5, can5, v5, a5, c5, rfl, o5, bl5⟩
        have s5 := bl5.size
        have HV5 : Hid (val q5 = 2 * val qs) := by unfold Hid; omega
        clear v5
        go_wp2
        go_roundw
        case rel => exact ⟨k, q5, r2, a5, c5, a2, q2, by omega, by go_num, can5, c2, (by
          unfold Hid; rw [HV5.out]; refine ⟨?_, HGE.out⟩; rw [HV2.out]; exact HST.out.1), rfl, rfl, o5.mono (by omega), (o23.below bl5 (Nat.le_refl _)).mono (by omega), bw3.trans (bl5.mono (by omega))⟩
        case measure => simp [intOf]
end Go.Proofs.YtibciilhfpgjjaaDoor
