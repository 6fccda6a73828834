/- The statement NatDivides' walk: quotients, what is left, and greatest divisors are exact. -/
import Derived.Test.YtibciilhfpgjjaaDoorRefC
import Derived.Test.YtibciilhfpgjjaaDoorNatSums
namespace Go.Proofs.YtibciilhfpgjjaaDoor
set_option linter.unusedVariables false
set_option linter.unusedSimpArgs false
open Go.RowKit

set_option maxRecDepth 100000 in
set_option maxHeartbeats 6400000 in
theorem natDivides_walk {w : World} {v1 v2 : Value} {x1 x2 : List Int} (h1 : Rd w.heap.size w v1 x1) (h2 : Rd w.heap.size w v2 x2) (htab : Lib.TabIs Tryd.prog w "internal/strconv.uint64pow10" .u64 Lib.pow10Tab) :
    Calls Tryd.prog 5 #[v1, v2] w fun e w' => e = .returned (.bool true) ∧ Below w.heap.size w w' := by
  go_enter Tryd.func5, Tryd.ntmps5
  go_wp2_with fail
  refine (own_any h1 (Nat.le_refl _)).mono ?_
  rintro e wa ⟨y1, u1, hy1, l1, rfl, R1, ba⟩
  obtain ⟨g1, k1, rfl⟩ := R1.form
  have sa := ba.size
  go_wp2_with fail
  refine (own_any (h2.below ba) sa).mono ?_
  rintro e wb ⟨y2, u2, hy2, l2, rfl, R2, bb⟩
  obtain ⟨g2, k2, rfl⟩ := R2.form
  have bb' := ba.trans (bb.mono sa)
  have sb := bb'.size
  have Q1 := R1.below bb (Nat.le_refl _)
  clear R1
  go_wp2_with fail
  refine (divMod_form Q1.rd (Nat.le_refl _) R2.rd (Nat.le_refl _) (by omega) (by omega)).mono ?_
  rintro e wc ⟨qs, rs, a3, c3, a4, c4, b, rfl, oq, or, hsp, bc⟩
  have bc' := bb'.trans (bc.mono sb)
  have sc := bc'.size
  have S1 := Q1.below bc (Nat.le_refl _)
  have S2 := R2.below bc (Nat.le_refl _)
  clear Q1 R2
  go_wp2_with fail
  refine (few_rd (h1.below bc')).mono ?_
  rintro e w' ⟨z1, p1, q1, hz1, _, rfl, r1, rfl⟩
  obtain rfl : z1 = y1 := by rw [hz1.out, hy1.out]
  go_wp2_with fail
  refine (few_rd (h2.below bc')).mono ?_
  rintro e w' ⟨z2, p2, q2, hz2, _, rfl, r2, rfl⟩
  obtain rfl : z2 = y2 := by rw [hz2.out, hy2.out]
  go_wp2_with fail
  refine (refDivMod_form r1 sc r2 sc (by omega) (by omega)).mono ?_
  rintro e wd ⟨qs2, rs2, a5, c5, a6, c6, b2, rfl, oq2, or2, hsp2, bd⟩
  obtain ⟨rfl, rfl, rfl⟩ := DivSpec.unique hsp.out hsp2.out
  clear hsp hsp2 r1 r2
  have bd' := bc'.trans (bd.mono sc)
  have sd := bd'.size
  have T1 := S1.below bd (Nat.le_refl _)
  have T2 := S2.below bd (Nat.le_refl _)
  have oq' := oq.below bd (Nat.le_refl _)
  have or' := or.below bd (Nat.le_refl _)
  clear S1 S2 oq or
  go_wp2_with fail
  refine (live_any _ (tabIs_below htab bd')).mono ?_
  rintro e we ⟨rfl, be⟩
  have be' := bd'.trans (be.mono sd)
  have se := be'.size
  have or3 := or'.below be (Nat.le_refl _)
  have or4 := or2.below be (Nat.le_refl _)
  go_wp2_with fail
  refine (same_rd (oq'.below be (Nat.le_refl _)).rd (oq2.below be (Nat.le_refl _)).rd).mono ?_
  rintro e wf ⟨rfl, bf⟩
  have bf' := be'.trans (bf.mono se)
  have sf := bf'.size
  clear oq' oq2 or' or2
  go_wp2_with fail
  refine (same_rd (or3.below bf (Nat.le_refl _)).rd (or4.below bf (Nat.le_refl _)).rd).mono ?_
  rintro e wg ⟨rfl, bg⟩
  have bg' := bf'.trans (bg.mono sf)
  have sg := bg'.size
  clear or3 or4
  have U1 := ((T1.below be (Nat.le_refl _)).below bf (Nat.le_refl _)).below bg (Nat.le_refl _)
  have U2 := ((T2.below be (Nat.le_refl _)).below bf (Nat.le_refl _)).below bg (Nat.le_refl _)
  clear T1 T2
  go_wp2_with fail
  refine (gcd2 U1.rd U2.rd (Nat.le_refl _) (Nat.le_refl _) 40 (by omega) l1 l2).mono ?_
  rintro e wh ⟨zh, ch, vh, lh, ah, qh, rfl, oh, bh⟩
  have bh' := bg'.trans (bh.mono sg)
  have sh' := bh'.size
  go_wp2_with fail
  refine (few_rd (h1.below bh')).mono ?_
  rintro e w' ⟨t1, p4, q4, ht1, _, rfl, r4, rfl⟩
  obtain rfl : t1 = z1 := by rw [ht1.out, hy1.out]
  go_wp2_with fail
  refine (few_rd (h2.below bh')).mono ?_
  rintro e w' ⟨t2, p5, q5, ht2, _, rfl, r5, rfl⟩
  obtain rfl : t2 = z2 := by rw [ht2.out, hy2.out]
  have hM := many2 r4 r5 sh' sh'
  have bi : Below wh.heap.size wh (wh.alloc (.cells #[.slice p4 t1.length q4, .slice p5 t2.length q5] 22)) := (Below.refl _ _).alloc (Nat.le_refl _) _
  have bi' := bh'.trans (bi.mono sh')
  have si := bi'.size
  go_wp2_with fail
  refine (refGcd_any (M := 40) hM (by omega) (by omega) (fun j hj => by match j, hj with | 0, _ => exact l1 | 1, _ => exact l2)).mono ?_
  rintro e wj ⟨zj, cj, vj, aj, qj, rfl, oj, bj⟩
  obtain rfl : zh = zj := can_inj ch cj (by
    rw [vh, vj]
    show _ = gI (gI 0 (val t1)) (val t2)
    rw [gI_zero_left _ (val_bound r4.lim).1])
  clear vh vj hM r4 r5
  have bj' := bi'.trans (bj.mono si)
  have sj := bj'.size
  go_wp2_with fail
  refine (same_rd ((oh.below bi (Nat.le_refl _)).below bj (Nat.le_refl _)).rd oj.rd).mono ?_
  rintro e wk ⟨rfl, bk⟩
  have bk' := bj'.trans (bk.mono sj)
  have sk := bk'.size
  clear oh oj
  go_wp2_with fail
  refine (gcd_none _).mono ?_
  rintro e wl ⟨rfl, bl⟩
  have bl' := bk'.trans (bl.mono sk)
  have sl := bl'.size
  have V1 := ((((U1.below bh (Nat.le_refl _)).below bi (Nat.le_refl _)).below bj (Nat.le_refl _)).below bk (Nat.le_refl _)).below bl (Nat.le_refl _)
  have V2 := ((((U2.below bh (Nat.le_refl _)).below bi (Nat.le_refl _)).below bj (Nat.le_refl _)).below bk (Nat.le_refl _)).below bl (Nat.le_refl _)
  clear U1 U2
  go_wp2_with fail
  refine (kept_any V1 (h1.below bl') hy1 l1).mono ?_
  rintro e ws ⟨rfl, bs⟩
  have bs' := bl'.trans (bs.mono sl)
  have ss := bs'.size
  go_wp2_with fail
  refine (kept_any (V2.below bs (Nat.le_refl _)) (h2.below bs') hy2 l2).mono ?_
  rintro e wt ⟨rfl, bt⟩
  have bt' := bs'.trans (bt.mono ss)
  go_wp2
  go_ret
  exact ⟨rfl, bt'⟩
end Go.Proofs.YtibciilhfpgjjaaDoor
