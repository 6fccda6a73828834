/- The statement NatBack's walk: quotient and rest make the number; by their greatest divisor two numbers have none in common. -/
import Derived.Test.YtibciilhfpgjjabDoorGcds
namespace Go.Proofs.YtibciilhfpgjjabDoor
set_option linter.unusedVariables false
set_option linter.unusedSimpArgs false
open Go.RowKit

theorem gI_dvd (x y : Int) (hx : 0 ≤ x) (hy : 0 ≤ y) : (∃ k, x = k * gI x y ∧ 0 ≤ k) ∧ ∃ k, y = k * gI x y ∧ 0 ≤ k := by
  unfold gI
  obtain ⟨a, ha⟩ := Nat.gcd_dvd_left x.toNat y.toNat
  obtain ⟨b, hb⟩ := Nat.gcd_dvd_right x.toNat y.toNat
  refine ⟨⟨a, ?_, by omega⟩, ⟨b, ?_, by omega⟩⟩
  · rw [← Int.natCast_mul, Nat.mul_comm, ← ha]; omega
  · rw [← Int.natCast_mul, Nat.mul_comm, ← hb]; omega

theorem gI_pos (x y : Int) (hx : 0 ≤ x) (hy : 0 < y) : 0 < gI x y := by
  unfold gI
  have := Nat.gcd_pos_of_pos_right x.toNat (show 0 < y.toNat by omega)
  omega

theorem rest_zero (x q g s k : Int) (h : x = q * g + s) (h0 : 0 ≤ s) (h1 : s < g) (hk : x = k * g) : s = 0 := by
  have e : (q * g + s) % g = s := by rw [Int.add_comm, Int.add_mul_emod_self_right, Int.emod_eq_of_lt h0 h1]
  rw [← h, hk, Int.mul_emod_left] at e
  exact e.symm

theorem gI_rest (x y p t : Int) (hx : 0 ≤ x) (hy : 0 < y) (hp : 0 ≤ p) (ht : 0 ≤ t) (h1 : x = p * gI x y) (h2 : y = t * gI x y) : gI p t = 1 := by
  have hg := gI_pos x y hx hy
  obtain ⟨a, rfl⟩ := Int.eq_ofNat_of_zero_le hp
  obtain ⟨b, rfl⟩ := Int.eq_ofNat_of_zero_le ht
  obtain ⟨g, eg⟩ := Int.eq_ofNat_of_zero_le (Int.le_of_lt hg)
  rw [eg] at h1 h2 hg
  have e1 : x.toNat = a * g := by rw [h1, ← Int.natCast_mul]; exact Int.toNat_natCast _
  have e2 : y.toNat = b * g := by rw [h2, ← Int.natCast_mul]; exact Int.toNat_natCast _
  have e3 : Nat.gcd x.toNat y.toNat = g := by unfold gI at eg; omega
  rw [e1, e2, Nat.gcd_mul_right] at e3
  have e4 : Nat.gcd a b = 1 := by
    have : Nat.gcd a b * g = 1 * g := by rw [e3, Nat.one_mul]
    exact Nat.eq_of_mul_eq_mul_right (by omega) this
  unfold gI
  simp only [Int.toNat_natCast, e4]
  rfl

theorem can_val_zero {xs : List Int} (h : can xs) (h0 : val xs = 0) : xs = [] := List.eq_nil_of_length_eq_zero ((can_zero h).2 h0)

set_option maxRecDepth 100000 in
set_option maxHeartbeats 6400000 in
theorem natBack_walk {w : World} {v1 v2 : Value} {x1 x2 : List Int} (h1 : Rd w.heap.size w v1 x1) (h2 : Rd w.heap.size w v2 x2) (htab : Lib.TabIs Tryd.prog w "internal/strconv.uint64pow10" .u64 Lib.pow10Tab) :
    Calls Tryd.prog 3 #[v1, v2] w fun e w' => e = .returned (.bool true) ∧ Below w.heap.size w w' := by
  go_enter Tryd.func3, Tryd.ntmps3
  go_wp2_with fail
  refine (few_rd h1).mono ?_
  rintro e w' ⟨y1, p1, q1, _, l1, rfl, r1, rfl⟩
  go_wp2_with fail
  refine (few_rd h2).mono ?_
  rintro e w' ⟨y2, p2', q2, _, l2, rfl, r2, rfl⟩
  clear h1 h2
  have n1 := (val_bound r1.lim).1
  have n2 := (val_bound r2.lim).1
  by_cases hz : val y2 = 0
  · have HZ : Hid (val y2 = 0) := hz
    go_wp2_with fail
    refine (divMod_zero r2 hz).mono ?_
    rintro e w' ⟨rfl, hw⟩
    have hw := hw.symm
    subst hw
    clear hz n1 n2
    go_wp2_with fail
    refine (live_any _ htab).mono ?_
    rintro e wb ⟨rfl, bb⟩
    go_wp2_with fail
    refine (trim_rd (r2.below bb) (by omega)).mono ?_
    rintro e wc ⟨a3, c3, rfl, o3, b3⟩
    have e0 : (tr y2).length = 0 := by rw [can_zero (tr_can r2.lim), val_tr]; exact HZ.out
    rw [e0]
    have sb := bb.size
    go_wp2
    go_ret
    exact ⟨rfl, bb.trans (b3.mono sb)⟩
  · have hpos : 0 < val y2 := by omega
    go_wp2_with fail
    refine (divMod_any r1 (Nat.le_refl _) r2 (Nat.le_refl _) hz (by omega) (by omega)).mono ?_
    rintro e wa ⟨qs, rs, a3, c3, a4, c4, rfl, oq, or, cq, cr, hval, hlt, lq, lr, ba⟩
    have sa := ba.size
    have HV : Hid (val y1 = val qs * val y2 + val rs ∧ val rs < val y2) := ⟨hval, hlt⟩
    have HP : Hid (0 < val y2 ∧ 0 ≤ val y1) := ⟨hpos, n1⟩
    clear hz n1 n2 hpos hval hlt
    have ra1 := r1.below ba
    have ra2 := r2.below ba
    go_wp2_with fail
    refine (prod2 oq.rd ra2 (Nat.le_refl _) sa (by omega) (by omega)).mono ?_
    rintro e wb ⟨zb, cb, vb, lb, ab, qb, rfl, ob, bb⟩
    have sb := bb.size
    have HB : Hid (val zb = val qs * val y2) := vb
    clear vb
    have or2 := or.below bb (Nat.le_refl _)
    go_wp2_with fail
    refine (sum2 ob.rd or2.rd (Nat.le_refl _) (Nat.le_refl _) (by omega) (by omega)).mono ?_
    rintro e wc ⟨zc, cc, vc, lc, ac, qc, rfl, oc, bc⟩
    have sc := bc.size
    rw [HB.out, ← HV.out.1] at vc
    have hcm := cmpI_eq vc
    clear vc
    have bac : Below w.heap.size w wc := ba.trans ((bb.mono sa).trans (bc.mono (by omega)))
    go_wp2_with fail
    refine (compare_bl oc.rd (r1.below bac)).mono ?_
    rintro e wd ⟨rfl, bd⟩
    rw [hcm]
    have sd := bd.size
    have bad : Below w.heap.size w wd := bac.trans (bd.mono (by omega))
    have or4 := (or2.below bc (Nat.le_refl _)).below bd (Nat.le_refl _)
    have hcm2 := cmpI_lt HV.out.2
    go_wp2_with fail
    refine (compare_bl or4.rd (r2.below bad)).mono ?_
    rintro e we ⟨rfl, be⟩
    rw [hcm2]
    have se := be.size
    have bae : Below w.heap.size w we := bad.trans (be.mono (by omega))
    have re1 := r1.below bae
    have re2 := r2.below bae
    clear hcm hcm2 or2 or4 or oq ob oc ra1 ra2
    go_wp2_with fail
    refine (gcd2 re1 re2 (by omega) (by omega) 40 (by omega) l1 l2).mono ?_
    rintro e wf ⟨g, cg, vg, lg, ag, qg, rfl, og, bf⟩
    have sf := bf.size
    have baf : Below w.heap.size w wf := bae.trans (bf.mono (by omega))
    have hgp : 0 < val g := by rw [vg]; exact gI_pos _ _ HP.out.2 HP.out.1
    have HG : Hid (val g = gI (val y1) (val y2)) := vg
    clear vg
    have rf1 := r1.below baf
    go_wp2_with fail
    refine (divMod_any rf1 (by omega) og.rd (Nat.le_refl _) (by omega) (by omega) (by omega)).mono ?_
    rintro e wg ⟨ps, ss, a5, c5, a6, c6, rfl, op, os, cp, cs, hval5, hlt5, lp, ls, bg⟩
    have sg := bg.size
    obtain ⟨⟨k1, hk1, hk1n⟩, ⟨k2, hk2, hk2n⟩⟩ := gI_dvd (val y1) (val y2) HP.out.2 (by have := HP.out; omega)
    have hs0 := rest_zero _ _ _ _ k1 hval5 (val_bound cs.1).1 hlt5 (by rw [HG.out]; exact hk1)
    obtain rfl := can_val_zero cs hs0
    have HP1 : Hid (val y1 = val ps * gI (val y1) (val y2)) := by unfold Hid; rw [← HG.out, hval5, hs0]; simp
    clear hval5 hlt5 hs0 hk1 hk1n
    have bag : Below w.heap.size w wg := baf.trans (bg.mono (by omega))
    have rg2 := r2.below bag
    have og2 := og.below bg (Nat.le_refl _)
    go_wp2_with fail
    refine (divMod_any rg2 (by omega) og2.rd (Nat.le_refl _) (by omega) (by omega) (by omega)).mono ?_
    rintro e wh ⟨ts, us, a7, c7, a8, c8, rfl, ot, ou, ct, cu, hval7, hlt7, lt', lu, bh⟩
    have sh := bh.size
    have hu0 := rest_zero _ _ _ _ k2 hval7 (val_bound cu.1).1 hlt7 (by rw [HG.out]; exact hk2)
    obtain rfl := can_val_zero cu hu0
    have HP2 : Hid (val y2 = val ts * gI (val y1) (val y2)) := by unfold Hid; rw [← HG.out, hval7, hu0]; simp
    clear hval7 hlt7 hu0 hk2 hk2n
    have hone := gI_rest _ _ _ _ HP.out.2 HP.out.1 (val_bound cp.1).1 (val_bound ct.1).1 HP1.out HP2.out
    have HONE : Hid (gI (val ps) (val ts) = 1) := hone
    clear hone hgp
    have bah : Below w.heap.size w wh := bag.trans (bh.mono (by omega))
    have op2 := op.below bh (Nat.le_refl _)
    go_wp2_with fail
    refine (live_any _ (tabIs_below htab bah)).mono ?_
    rintro e wi ⟨rfl, bi⟩
    have si := bi.size
    have op3 := op2.below bi (Nat.le_refl _)
    have ot3 := ot.below bi (Nat.le_refl _)
    go_wp2_with fail
    refine (gcd2 op3.rd ot3.rd (Nat.le_refl _) (Nat.le_refl _) 44 (by omega) (by omega) (by omega)).mono ?_
    rintro e wj ⟨zj, cj, vj, lj, aj, qj, rfl, oj, bj⟩
    have sj := bj.size
    rw [HONE.out] at vj
    go_wp2_with fail
    refine (of_any 1 (by omega) (by omega) _).mono ?_
    intro e wk hm
    rw [of_small 1 (by omega) (by omega)] at hm
    obtain ⟨ak, ck, rfl, ok, bk⟩ := hm
    have hcm : cmpI (val zj) (val [(1 : Int)]) = 0 := cmpI_eq (by rw [vj]; decide)
    clear vj
    have oj2 := oj.below bk (Nat.le_refl _)
    go_wp2_with fail
    refine (compare_bl oj2.rd ok.rd).mono ?_
    rintro e wl ⟨rfl, bl⟩
    rw [hcm]
    have sk := bk.size
    go_wp2
    go_ret
    exact ⟨rfl, bah.trans ((bi.mono (by omega)).trans ((bj.mono (by omega)).trans ((bk.mono (by omega)).trans (bl.mono (by omega)))))⟩
end Go.Proofs.YtibciilhfpgjjabDoor
