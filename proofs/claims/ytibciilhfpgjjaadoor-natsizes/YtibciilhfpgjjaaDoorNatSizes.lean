/- The statement NatSizes' walk: numbers are compared, measured, and cut to their limbs. -/
import Derived.Test.YtibciilhfpgjjaaDoorRef5
namespace Go.Proofs.YtibciilhfpgjjaaDoor
set_option linter.unusedVariables false
set_option linter.unusedSimpArgs false
open Go.RowKit

theorem smallV_form (n : Int) : ∃ A B, smallV n = .tuple #[.int .i64 A, .bool B] := ⟨_, _, rfl⟩

set_option maxRecDepth 100000 in
set_option maxHeartbeats 3200000 in
theorem natSizes_walk {w : World} {v1 v2 : Value} {x1 x2 : List Int} {n : Int} (h1 : Rd w.heap.size w v1 x1) (h2 : Rd w.heap.size w v2 x2) (hnb : 0 ≤ n ∧ n < 18446744073709551616) (hs2 : x2.length * 4 ≤ 140737488355328) (htab : Lib.TabIs Tryd.prog w "internal/strconv.uint64pow10" .u64 Lib.pow10Tab) :
    Calls Tryd.prog 3 #[v1, v2, .int .u64 n] w fun e w' => e = .returned (.bool true) ∧ Below w.heap.size w w' := by
  obtain ⟨hn0, hn1⟩ := hnb
  go_enter Tryd.func3, Tryd.ntmps3
  go_wp2_with fail
  refine (own_any h1 (Nat.le_refl _)).mono ?_
  rintro e wa ⟨ys, x, hys, hyl, rfl, hR, ba⟩
  have sa := ba.size
  go_wp2_with fail
  refine (small_any hR.rd (by omega)).mono ?_
  rintro e w' ⟨rfl, rfl⟩
  obtain ⟨A, Bb, hAB⟩ := smallV_form (val ys)
  rw [hAB]
  go_wp2_with fail
  refine (few_rd (h1.below ba)).mono ?_
  rintro e w' ⟨y1, p1, q1, hy1, l1, rfl, r1, rfl⟩
  have e1 : y1 = ys := by rw [hy1.out, hys.out]
  subst e1
  go_wp2_with fail
  refine (refSmall_any r1 (by omega)).mono ?_
  rintro e wb ⟨rfl, bb⟩
  rw [hAB]
  have bb' := ba.trans (bb.mono sa)
  have sb := bb'.size
  have R2 := hR.below bb (Nat.le_refl _)
  clear hAB r1 hy1
  go_wp2_with fail
  refine (live_any _ (tabIs_below htab bb')).mono ?_
  rintro e wc ⟨rfl, bc⟩
  have bc' := bb'.trans (bc.mono sb)
  have sc := bc'.size
  have R3 := R2.below bc (Nat.le_refl _)
  clear R2 hR
  go_wp2_with fail
  refine (right_any R3.rd).mono ?_
  rintro e w' ⟨rfl, rfl⟩
  go_wp2_with fail
  refine (few_rd (h1.below bc')).mono ?_
  rintro e w' ⟨y2, p2, q2, hy2, l2, rfl, r2, rfl⟩
  have e2 : y2 = y1 := by rw [hy2.out, hys.out]
  subst e2
  go_wp2_with fail
  refine (refRight_any r2).mono ?_
  rintro e w' ⟨rfl, rfl⟩
  generalize rightB y2 = rB
  go_wp2_with fail
  refine (trim_rd R3.rd (by omega)).mono ?_
  rintro e wd ⟨a3, q3, rfl, o3, bd⟩
  have bd' := bc'.trans (bd.mono sc)
  have sd := bd'.size
  go_wp2_with fail
  refine (few_rd (h1.below bd')).mono ?_
  rintro e w' ⟨y3, p3, q3', hy3, l3, rfl, r3, rfl⟩
  have e3 : y3 = y2 := by rw [hy3.out, hys.out]
  subst e3
  go_wp2_with fail
  refine (refTrim_rd r3 (by omega)).mono ?_
  rintro e we ⟨a4, q4, rfl, o4, be⟩
  have be' := bd'.trans (be.mono sd)
  have se := be'.size
  go_wp2_with fail
  refine (same_rd (o3.below be (Nat.le_refl _)).rd o4.rd).mono ?_
  rintro e wf ⟨rfl, bf⟩
  have bf' := be'.trans (bf.mono se)
  have sf := bf'.size
  have R4 := ((R3.below bd (Nat.le_refl _)).below be (Nat.le_refl _)).below bf (Nat.le_refl _)
  clear R3 o3 o4 r2 r3
  go_wp2_with fail
  refine (of_any n hn0 hn1 _).mono ?_
  rintro e wg ⟨a5, q5, rfl, o5, bg⟩
  have bg' := bf'.trans (bg.mono sf)
  have sg := bg'.size
  go_wp2_with fail
  refine (refOf_any n hn0 hn1 _).mono ?_
  rintro e wh ⟨a6, q6, rfl, o6, bh⟩
  have bh' := bg'.trans (bh.mono sg)
  have sh := bh'.size
  go_wp2_with fail
  refine (same_rd (o5.below bh (Nat.le_refl _)).rd o6.rd).mono ?_
  rintro e wi ⟨rfl, bi⟩
  have bi' := bh'.trans (bi.mono sh)
  have si := bi'.size
  have R5 := ((R4.below bg (Nat.le_refl _)).below bh (Nat.le_refl _)).below bi (Nat.le_refl _)
  clear R4 o5 o6
  go_wp2_with fail
  refine (compare_bl R5.rd (h2.below bi')).mono ?_
  rintro e wj ⟨rfl, bj⟩
  have bj' := bi'.trans (bj.mono si)
  have sj := bj'.size
  go_wp2_with fail
  refine (few_rd (h1.below bj')).mono ?_
  rintro e w' ⟨y4, p4, q4', hy4, l4, rfl, r4, rfl⟩
  have e4 : y4 = y3 := by rw [hy4.out, hys.out]
  subst e4
  go_wp2_with fail
  refine (refCompare_rd r4 (h2.below bj') sj (by omega) hs2).mono ?_
  rintro e wk ⟨rfl, bk⟩
  have bk' := bj'.trans (bk.mono sj)
  have sk := bk'.size
  generalize cmpI (val y4) (val x2) = cc
  have R6 := (R5.below bj (Nat.le_refl _)).below bk (Nat.le_refl _)
  clear R5 r4
  go_wp2_with fail
  refine (bits_any R6.rd (by omega)).mono ?_
  rintro e w' ⟨b1, rfl, hb1, lb1, rfl⟩
  go_wp2_with fail
  refine (few_rd (h1.below bk')).mono ?_
  rintro e w' ⟨y5, p5, q5', hy5, l5, rfl, r5, rfl⟩
  have e5 : y5 = y4 := by rw [hy5.out, hys.out]
  subst e5
  go_wp2_with fail
  refine (refBits_any r5 (by omega)).mono ?_
  rintro e wl ⟨b2, rfl, hb2, bl⟩
  have eb : b1 = b2 := isBits_unique hb1 hb2 (val_bound r5.lim).1
  subst eb
  have bl' := bk'.trans (bl.mono sk)
  have sl := bl'.size
  have R7 := R6.below bl (Nat.le_refl _)
  clear R6 r5 hb1 hb2
  go_wp2_with fail
  refine (kept_any R7 (h1.below bl') hys hyl).mono ?_
  rintro e wm ⟨rfl, bm⟩
  go_wp2
  go_ret
  exact ⟨rfl, bl'.trans (bm.mono sl)⟩
end Go.Proofs.YtibciilhfpgjjaaDoor
