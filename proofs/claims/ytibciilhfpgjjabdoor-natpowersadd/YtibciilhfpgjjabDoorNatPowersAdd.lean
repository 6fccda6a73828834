/- The statement NatPowersAdd's walk: a to m and n together is a to m times a to n. -/
import Derived.Test.YtibciilhfpgjjabDoorPowers
namespace Go.Proofs.YtibciilhfpgjjabDoor
set_option linter.unusedVariables false
set_option linter.unusedSimpArgs false
open Go.RowKit

theorem pw_pow (a k : Nat) : pw a ^ k = pw (a * k) := by unfold pw; rw [Int.pow_mul]

/-- Powers of numbers of at most L limbs. -/
theorem pow_limbs {xs : List Int} (h : lim xs) (L k M : Nat) (hl : xs.length ≤ L) (hk : L * k < M) : val xs ^ k < pw M := by
  have hb := val_bound h
  have h1 := pw_mono hl
  have h2 := pow_le_pow hb.1 (show val xs ≤ pw L by omega) k
  rw [pw_pow] at h2
  have h3 := pw_mono (j := L * k + 1) (k := M) hk
  rw [pw_succ] at h3
  have := pw_pos (L * k)
  omega

theorem power_at {Br : Nat} {w : World} {v : Value} {xs : List Int} (n M : Int) (k K : Nat) (en : n = k) (eM : M = K) (h : Rd Br w v xs) (hBr : Br ≤ w.heap.size) (hl : xs.length ≤ 8796093022207) (hn : k < 9223372036854775808) (hM : K ≤ 2147483647) (hv : val xs ^ k < pw K) :
    Calls Tryd.prog 16 #[v, .int .i64 n, .int .i64 M] w fun e w' => Below w.heap.size w w' ∧ ∃ zs a c, can zs ∧ val zs = val xs ^ k ∧ zs.length ≤ K ∧ e = .returned (.tuple #[.slice a zs.length c, .bool true]) ∧ Own w.heap.size w' (.slice a zs.length c) zs := by
  subst en eM
  refine (power_any k K h hBr hl hn hM).mono ?_
  rintro e w' ⟨hb, _, h2⟩
  obtain ⟨zs, a, c, h3, h4, h5, h6⟩ := h2 hv
  exact ⟨hb, zs, a, c, h3, h4, (can_len_pw h3 K).2 (by rw [h4]; exact hv), h5, h6⟩

set_option maxRecDepth 100000 in
set_option maxHeartbeats 3200000 in
theorem natPowersAdd_walk {w : World} {v1 : Value} {x1 : List Int} {m n : Int} (h1 : Rd w.heap.size w v1 x1) (hm : 0 ≤ m ∧ m < 256) (hn : 0 ≤ n ∧ n < 256) (htab : Lib.TabIs Tryd.prog w "internal/strconv.uint64pow10" .u64 Lib.pow10Tab) :
    Calls Tryd.prog 4 #[v1, .int .u8 m, .int .u8 n] w fun e w' => e = .returned (.bool true) ∧ Below w.heap.size w w' := by
  obtain ⟨m, rfl⟩ := Int.eq_ofNat_of_zero_le hm.1
  obtain ⟨n, rfl⟩ := Int.eq_ofNat_of_zero_le hn.1
  go_enter Tryd.func4, Tryd.ntmps4
  go_wp2_with fail
  refine (few_rd h1).mono ?_
  rintro e w' ⟨y1, p1, q1, _, l1, rfl, r1, rfl⟩
  clear h1
  have hcap : y1.length ≤ q1 ∧ q1 ≤ 9223372036854775807 := by
    obtain ⟨_, a, c, e, e1, e2, _⟩ := r1
    cases e; exact ⟨e1, e2⟩
  by_cases h4 : 4 < y1.length
  case' pos =>
    have r2 : Rd w.heap.size w (.slice p1 4 q1) (y1.take 4) := r1.take 4 (by omega)
    have l2 : (y1.take 4).length ≤ 4 := by simp; omega
    generalize y1.take 4 = z at r2 l2
  case' neg =>
    obtain ⟨z, hz⟩ : ∃ z, z = y1 := ⟨_, rfl⟩
    have r2 : Rd w.heap.size w (.slice p1 y1.length q1) z := by rw [hz]; exact r1
    have l2 : z.length ≤ 4 := by rw [hz]; omega
    clear hz
  all_goals
    go_wp2_with fail
    refine (power_at ((m : Int) % 20) 200 (m % 20) 200 (by omega) rfl r2 (Nat.le_refl _) (by omega) (by omega) (by omega) (pow_limbs r2.lim 4 _ _ l2 (by omega))).mono ?_
    rintro e wa ⟨ba, za, aa, qa, ca, va, la, rfl, oa⟩
    have sa := ba.size
    have ra := r2.below ba
    go_wp2_with fail
    refine (power_at ((n : Int) % 20) 200 (n % 20) 200 (by omega) rfl ra (by omega) (by omega) (by omega) (by omega) (pow_limbs r2.lim 4 _ _ l2 (by omega))).mono ?_
    rintro e wb ⟨bb, zb, ab, qb, cb, vb, lb, rfl, ob⟩
    have sb := bb.size
    have rb := ra.below (bb.mono sa)
    go_wp2_with fail
    refine (power_at ((m : Int) % 20 + (n : Int) % 20) 400 (m % 20 + n % 20) 400 (by omega) rfl rb (by omega) (by omega) (by omega) (by omega) (pow_limbs r2.lim 4 _ _ l2 (by omega))).mono ?_
    rintro e wc ⟨bc, zc, ac, qc, cc, vc, lc, rfl, oc⟩
    have sc := bc.size
    have HV : Hid (val za * val zb = val zc) := by unfold Hid; rw [va, vb, vc, Int.pow_add]
    clear va vb vc
    have b3 : Below w.heap.size w wc := ba.trans ((bb.mono sa).trans (bc.mono (by omega)))
    have oa3 := (oa.below bb (Nat.le_refl _)).below bc (Nat.le_refl _)
    have ob3 := ob.below bc (Nat.le_refl _)
    go_wp2_with fail
    refine (live_any _ (tabIs_below htab b3)).mono ?_
    rintro e wd ⟨rfl, bd⟩
    have sd := bd.size
    have oa4 := oa3.below bd (Nat.le_refl _)
    have ob4 := ob3.below bd (Nat.le_refl _)
    have oc4 := oc.below bd (Nat.le_refl _)
    go_wp2_with fail
    refine (prod2 oa4.rd ob4.rd (Nat.le_refl _) (Nat.le_refl _) (by omega) (by omega)).mono ?_
    rintro e we ⟨ze, ce, ve, le, ae, qe, rfl, oe, be⟩
    rw [HV.out] at ve
    have hcm := cmpI_eq ve
    clear ve
    go_wp2_with fail
    refine (compare_bl oe.rd (oc4.rd.below be)).mono ?_
    rintro e wf ⟨rfl, bf⟩
    rw [hcm]
    have se := be.size
    go_wp2
    go_ret
    exact ⟨rfl, b3.trans ((bd.mono (by omega)).trans ((be.mono (by omega)).trans (bf.mono (by omega))))⟩
end Go.Proofs.YtibciilhfpgjjabDoor
