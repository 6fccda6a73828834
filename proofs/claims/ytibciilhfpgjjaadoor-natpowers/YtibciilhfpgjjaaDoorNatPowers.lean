/- The statement NatPowers' walk: powers are exact, or have too many limbs. -/
import Derived.Test.YtibciilhfpgjjaaDoorRef10
import Derived.Test.YtibciilhfpgjjaaDoorLive
namespace Go.Proofs.YtibciilhfpgjjaaDoor
set_option linter.unusedVariables false
set_option linter.unusedSimpArgs false
open Go.RowKit

theorem power_to {Br : Nat} {w : World} {v : Value} {xs : List Int} (n M : Int) (k K : Nat) (V : Int) (en : n = k) (eM : M = K) (hV : Hid (V = val xs ^ k)) (h : Rd Br w v xs) (hBr : Br ≤ w.heap.size) (hl : xs.length ≤ 1000000) (hn : k < 9223372036854775808) (hM : K ≤ 1000000) :
    Calls Tryd.prog 36 #[v, .int .i64 n, .int .i64 M] w fun e w' => PowersTo w V K e w' := by
  subst en eM
  refine (power_any k K h hBr (by omega) hn (by omega)).mono ?_
  rintro e w' ⟨hb, h1, h2⟩
  rw [← hV.out] at h1 h2
  exact ⟨hb, h1, h2⟩

theorem refPower_to {Br : Nat} {w : World} {v : Value} {xs : List Int} (n M : Int) (k K : Nat) (V : Int) (en : n = k) (eM : M = K) (hV : Hid (V = val xs ^ k)) (h : Rd Br w v xs) (hBr : Br ≤ w.heap.size) (hl : xs.length ≤ 1000000) (hn : k < 9223372036854775808) (hM : K ≤ 1000000) :
    Calls Tryd.prog 37 #[v, .int .i64 n, .int .i64 M] w fun e w' => PowersTo w V K e w' := by
  subst en eM
  exact refPower_walk k K V h hBr hl hn hM hV

set_option maxRecDepth 100000 in
set_option maxHeartbeats 3200000 in
theorem natPowers_walk {w : World} {v1 : Value} {x1 : List Int} {n m : Int} (h1 : Rd w.heap.size w v1 x1) (hn : 0 ≤ n ∧ n < 65536) (hm : 0 ≤ m ∧ m < 256) (htab : Lib.TabIs Tryd.prog w "internal/strconv.uint64pow10" .u64 Lib.pow10Tab) :
    Calls Tryd.prog 6 #[v1, .int .u16 n, .int .u8 m] w fun e w' => e = .returned (.bool true) ∧ Below w.heap.size w w' := by
  obtain ⟨m, rfl⟩ := Int.eq_ofNat_of_zero_le hm.1
  obtain ⟨n, rfl⟩ := Int.eq_ofNat_of_zero_le hn.1
  go_enter Tryd.func6, Tryd.ntmps6
  go_wp2_with fail
  refine (few_rd h1).mono ?_
  rintro e w' ⟨y1, p1, q1, _, l1, rfl, r1, rfl⟩
  clear h1
  have hcap : y1.length ≤ q1 ∧ q1 ≤ 9223372036854775807 := by
    obtain ⟨_, a, c, e, e1, e2, _⟩ := r1
    cases e; exact ⟨e1, e2⟩
  by_cases h8 : 8 < y1.length
  case' pos =>
    have r2 : Rd w.heap.size w (.slice p1 8 q1) (y1.take 8) := r1.take 8 (by omega)
    have l2 : (y1.take 8).length ≤ 8 := by simp; omega
    generalize y1.take 8 = z at r2 l2
  case' neg =>
    obtain ⟨z, hz⟩ : ∃ z, z = y1 := ⟨_, rfl⟩
    have r2 : Rd w.heap.size w (.slice p1 y1.length q1) z := by rw [hz]; exact r1
    have l2 : z.length ≤ 8 := by rw [hz]; omega
    clear hz
  all_goals
    obtain ⟨V, hV⟩ : ∃ V, Hid (V = val z ^ n) := ⟨_, rfl⟩
    go_wp2_with fail
    refine (power_to (n : Int) ((m : Int) % 64) n (m % 64) V rfl (by omega) hV r2 (Nat.le_refl _) (by omega) (by omega) (by omega)).mono ?_
    rintro e wa ⟨ba, na, ya⟩
    have sa := ba.size
    have ra := r2.below ba
    by_cases hbig : pw (m % 64) ≤ V
    · obtain rfl := na hbig
      go_wp2_with fail
      refine (refPower_to (n : Int) ((m : Int) % 64) n (m % 64) V rfl (by omega) hV ra (by omega) (by omega) (by omega) (by omega)).mono ?_
      rintro e wb ⟨bb, nb, yb⟩
      obtain rfl := nb hbig
      have sb := bb.size
      go_wp2_with fail
      refine (power_neg _ _ (by omega)).mono ?_
      rintro e w' ⟨rfl, hw⟩
      have hw := hw.symm
      subst hw
      have b2 : Below w.heap.size w wb := ba.trans (bb.mono sa)
      go_wp2_with fail
      refine (live_any _ (tabIs_below htab b2)).mono ?_
      rintro e wd ⟨rfl, bd⟩
      have sd := bd.size
      go_wp2_with fail
      refine (same_nil _ _ _ _ _).mono ?_
      rintro e w' ⟨rfl, rfl⟩
      go_wp2
      go_ret
      exact ⟨rfl, b2.trans (bd.mono (by omega))⟩
    · have hlt : V < pw (m % 64) := by omega
      obtain ⟨za, aa, qa, ca, va, rfl, oa⟩ := ya hlt
      go_wp2_with fail
      refine (refPower_to (n : Int) ((m : Int) % 64) n (m % 64) V rfl (by omega) hV ra (by omega) (by omega) (by omega) (by omega)).mono ?_
      rintro e wb ⟨bb, nb, yb⟩
      obtain ⟨zb, ab, qb, cb, vb, rfl, ob⟩ := yb hlt
      obtain rfl := can_inj ca cb (va.trans vb.symm)
      clear va vb hlt hbig na ya nb yb
      have sb := bb.size
      go_wp2_with fail
      refine (power_neg _ _ (by omega)).mono ?_
      rintro e w' ⟨rfl, hw⟩
      have hw := hw.symm
      subst hw
      have b2 : Below w.heap.size w wb := ba.trans (bb.mono sa)
      have oa2 := oa.below bb (Nat.le_refl _)
      go_wp2_with fail
      refine (live_any _ (tabIs_below htab b2)).mono ?_
      rintro e wd ⟨rfl, bd⟩
      have sd := bd.size
      go_wp2_with fail
      refine (same_rd (oa2.below bd (Nat.le_refl _)).rd (ob.below bd (Nat.le_refl _)).rd).mono ?_
      rintro e we ⟨rfl, be⟩
      go_wp2
      go_ret
      exact ⟨rfl, b2.trans ((bd.mono (by omega)).trans (be.mono (by omega)))⟩
end Go.Proofs.YtibciilhfpgjjaaDoor
