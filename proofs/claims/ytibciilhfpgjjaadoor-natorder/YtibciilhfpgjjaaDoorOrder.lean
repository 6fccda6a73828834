/- The statement NatOrder's walk: sums and products do not hang on the order. -/
import Derived.Test.YtibciilhfpgjjaaDoorLists
namespace Go.Proofs.YtibciilhfpgjjaaDoor
set_option linter.unusedVariables false
set_option linter.unusedSimpArgs false
open Go.RowKit

set_option maxRecDepth 100000 in
set_option maxHeartbeats 3200000 in
theorem natOrder_walk {w : World} {v1 v2 v3 : Value} {x1 x2 x3 : List Int} (h1 : Rd w.heap.size w v1 x1) (h2 : Rd w.heap.size w v2 x2) (h3 : Rd w.heap.size w v3 x3) (htab : Lib.TabIs Tryd.prog w "internal/strconv.uint64pow10" .u64 Lib.pow10Tab) :
    Calls Tryd.prog 8 #[v1, v2, v3] w fun e w' => e = .returned (.bool true) ∧ Below w.heap.size w w' := by
  go_enter Tryd.func8, Tryd.ntmps8
  go_wp2_with fail
  refine (few_rd h1).mono ?_
  rintro e w' ⟨y1, p1, q1, _, l1, rfl, r1, rfl⟩
  go_wp2_with fail
  refine (few_rd h2).mono ?_
  rintro e w' ⟨y2, p2, q2, _, l2, rfl, r2, rfl⟩
  go_wp2_with fail
  refine (few_rd h3).mono ?_
  rintro e w' ⟨y3, p3, q3, _, l3, rfl, r3, rfl⟩
  clear h1 h2 h3
  go_wp2_with fail
  refine (live_any _ htab).mono ?_
  rintro e wa ⟨rfl, ba⟩
  have sa := ba.size
  go_wp2_with fail
  refine (sum3 (r1.below ba) (r2.below ba) (r3.below ba) sa sa sa (by omega) (by omega) (by omega)).mono ?_
  rintro e wb ⟨zb, cb, vb, lb, ab, qb, rfl, ob, bb⟩
  have bb' := ba.trans (bb.mono sa)
  have sb := bb'.size
  go_wp2_with fail
  refine (sum3 (r3.below bb') (r1.below bb') (r2.below bb') sb sb sb (by omega) (by omega) (by omega)).mono ?_
  rintro e wc ⟨zc, cc, vc, lc, ac, qc, rfl, oc, bc⟩
  have bc' := bb'.trans (bc.mono sb)
  have sc := bc'.size
  go_wp2_with fail
  refine (compare_bl (ob.below bc (Nat.le_refl _)).rd oc.rd).mono ?_
  rintro e wd ⟨rfl, bd⟩
  rw [cmpI_eq (show val zb = val zc by rw [vb, vc]; omega)]
  have bd' := bc'.trans (bd.mono sc)
  have sd := bd'.size
  clear ob oc bc bb vb vc
  go_wp2_with fail
  refine (prod3 (r1.below bd') (r2.below bd') (r3.below bd') sd sd sd (by omega) (by omega) (by omega)).mono ?_
  rintro e we ⟨ze, ce, ve, le, ae, qe, rfl, oe, be⟩
  have be' := bd'.trans (be.mono sd)
  have se := be'.size
  go_wp2_with fail
  refine (prod3 (r3.below be') (r2.below be') (r1.below be') se se se (by omega) (by omega) (by omega)).mono ?_
  rintro e wf ⟨zf, cf, vf, lf, af, qf, rfl, of, bf⟩
  have bf' := be'.trans (bf.mono se)
  have sf := bf'.size
  go_wp2_with fail
  refine (compare_bl (oe.below bf (Nat.le_refl _)).rd of.rd).mono ?_
  rintro e wg ⟨rfl, bg⟩
  rw [cmpI_eq (show val ze = val zf by rw [ve, vf]; simp only [Int.mul_assoc, Int.mul_comm, Int.mul_left_comm])]
  have bg' := bf'.trans (bg.mono sf)
  have sg := bg'.size
  clear oe of be bf ve vf
  go_wp2_with fail
  refine (sum2 (r2.below bg') (r3.below bg') sg sg (by omega) (by omega)).mono ?_
  rintro e wh ⟨zh, ch, vh, lh, ah, qh, rfl, oh, bh⟩
  have bh' := bg'.trans (bh.mono sg)
  have sh := bh'.size
  go_wp2_with fail
  refine (prod2 (r1.below bh') oh.rd sh (Nat.le_refl _) (by omega) (by omega)).mono ?_
  rintro e wi ⟨zi, ci, vi, li, ai, qi, rfl, oi, bi⟩
  have bi' := bh'.trans (bi.mono sh)
  have si := bi'.size
  go_wp2_with fail
  refine (prod2 (r1.below bi') (r2.below bi') si si (by omega) (by omega)).mono ?_
  rintro e wj ⟨zj, cj, vj, lj, aj, qj, rfl, oj, bj⟩
  have bj' := bi'.trans (bj.mono si)
  have sj := bj'.size
  go_wp2_with fail
  refine (prod2 (r1.below bj') (r3.below bj') sj sj (by omega) (by omega)).mono ?_
  rintro e wk ⟨zk, ck, vk, lk, ak, qk, rfl, ok, bk⟩
  have bk' := bj'.trans (bk.mono sj)
  have sk := bk'.size
  go_wp2_with fail
  refine (sum2 (oj.below bk (Nat.le_refl _)).rd ok.rd (Nat.le_refl _) (Nat.le_refl _) (by omega) (by omega)).mono ?_
  rintro e wl ⟨zl, cl, vl, ll, al, ql, rfl, ol, bl⟩
  have bl' := bk'.trans (bl.mono sk)
  have sl := bl'.size
  have oi2 : Own wh.heap.size wl (.slice ai zi.length qi) zi := ((oi.below bj (Nat.le_refl _)).below bk (Nat.le_refl _)).below bl (Nat.le_refl _)
  go_wp2_with fail
  refine (compare_bl oi2.rd ol.rd).mono ?_
  rintro e wm ⟨rfl, bm⟩
  rw [cmpI_eq (show val zi = val zl by rw [vi, vl, vh, vj, vk, Int.mul_add])]
  go_wp2
  go_ret
  exact ⟨rfl, bl'.trans (bm.mono sl)⟩
end Go.Proofs.YtibciilhfpgjjaaDoor
