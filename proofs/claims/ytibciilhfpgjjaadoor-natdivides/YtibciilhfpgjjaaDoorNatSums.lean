/- The statement NatSums' walk: sums, products and differences are exact. -/
import Derived.Test.YtibciilhfpgjjaaDoorRef9
namespace Go.Proofs.YtibciilhfpgjjaaDoor
set_option linter.unusedVariables false
set_option linter.unusedSimpArgs false
open Go.RowKit

theorem Roomy.form {base : Nat} {w : World} {v : Value} {ys : List Int} (h : Roomy base w v ys) : ∃ g c, v = .slice (some ⟨g, 0, none⟩) ys.length c := by
  obtain ⟨g, c, rfl, _⟩ := h
  exact ⟨g, c, rfl⟩

/-- What both Minus hand back, in one form. -/
theorem minuses_form {w w' : World} {n : Int} {e : Ending} (h : Minuses w n e w') : ∃ zs a c b, Hid (b = decide (0 ≤ n)) ∧ Hid (can zs ∧ val zs = if n < 0 then 0 else n) ∧ e = .returned (.tuple #[.slice a zs.length c, .bool b]) ∧ Own w.heap.size w' (.slice a zs.length c) zs ∧ Below w.heap.size w w' := by
  obtain ⟨hb, h⟩ := h
  by_cases hn : n < 0
  · rw [if_pos hn] at h
    exact ⟨[], none, 0, false, by unfold Hid; rw [decide_eq_false (by omega)], ⟨can_nil, by rw [if_pos hn]; rfl⟩, h, ⟨lim_nil, World.ownsRow_nil _ _ _ _⟩, hb⟩
  · rw [if_neg hn] at h
    obtain ⟨zs, a, c, cz, vz, he, ho⟩ := h
    exact ⟨zs, a, c, true, by unfold Hid; rw [decide_eq_true (by omega)], ⟨cz, by rw [if_neg hn]; exact vz⟩, he, ho, hb⟩

set_option maxRecDepth 100000 in
set_option maxHeartbeats 6400000 in
theorem natSums_walk {w : World} {v1 v2 v3 : Value} {x1 x2 x3 : List Int} (h1 : Rd w.heap.size w v1 x1) (h2 : Rd w.heap.size w v2 x2) (h3 : Rd w.heap.size w v3 x3) (htab : Lib.TabIs Tryd.prog w "internal/strconv.uint64pow10" .u64 Lib.pow10Tab) :
    Calls Tryd.prog 4 #[v1, v2, v3] w fun e w' => e = .returned (.bool true) ∧ Below w.heap.size w w' := by
  go_enter Tryd.func4, Tryd.ntmps4
  go_wp2_with fail
  refine (own_any h1 (Nat.le_refl _)).mono ?_
  rintro e wa ⟨y1, u1, hy1, l1, rfl, R1, ba⟩
  obtain ⟨g1, k1, rfl⟩ := R1.form
  have sa := ba.size
  go_wp2_with fail
  refine (own_any (h2.below ba) sa).mono ?_
  rintro e wb ⟨y2, u2, hy2, l2, rfl, R2, bb⟩
  obtain ⟨g2, k2, rfl⟩ := R2.form
  have bb' := ba.trans (bb.mono sa)
  have sb := bb'.size
  go_wp2_with fail
  refine (own_any (h3.below bb') sb).mono ?_
  rintro e wc ⟨y3, u3, hy3, l3, rfl, R3, bc⟩
  obtain ⟨g3, k3, rfl⟩ := R3.form
  have bc' := bb'.trans (bc.mono sb)
  have sc := bc'.size
  have Q1 := (R1.below bb (Nat.le_refl _)).below bc (Nat.le_refl _)
  have Q2 := R2.below bc (Nat.le_refl _)
  clear R1 R2
  go_wp2_with fail
  refine (few_rd (h1.below bc')).mono ?_
  rintro e w' ⟨z1, p1, q1, hz1, _, rfl, r1, rfl⟩
  obtain rfl : z1 = y1 := by rw [hz1.out, hy1.out]
  go_wp2_with fail
  refine (few_rd (h2.below bc')).mono ?_
  rintro e w' ⟨z2, p2, q2, hz2, _, rfl, r2, rfl⟩
  obtain rfl : z2 = y2 := by rw [hz2.out, hy2.out]
  go_wp2_with fail
  refine (few_rd (h3.below bc')).mono ?_
  rintro e w' ⟨z3, p3, q3, hz3, _, rfl, r3, rfl⟩
  obtain rfl : z3 = y3 := by rw [hz3.out, hy3.out]
  have hM := many3 r1 r2 r3 sc sc sc
  have bd : Below wc.heap.size wc (wc.alloc (.cells #[.slice p1 z1.length q1, .slice p2 z2.length q2, .slice p3 z3.length q3] 22)) := (Below.refl _ _).alloc (Nat.le_refl _) _
  have S1 := Q1.below bd (Nat.le_refl _)
  have S2 := Q2.below bd (Nat.le_refl _)
  have S3 := R3.below bd (Nat.le_refl _)
  clear Q1 Q2 R3
  go_wp2_with fail
  have bd' := bc'.trans (bd.mono sc)
  have sd := bd'.size
  refine (minus_any S1.rd (Nat.le_refl _) S2.rd (Nat.le_refl _) (by omega)).mono ?_
  rintro e we ⟨hmin, _⟩
  obtain ⟨m1, ma, mc, mb, hmb, hmv, rfl, om, be⟩ := minuses_form hmin
  have be' := bd'.trans (be.mono sd)
  have se := be'.size
  clear hmin
  go_wp2_with fail
  refine (few_rd (h1.below be')).mono ?_
  rintro e w' ⟨t1, p4, q4, ht1, _, rfl, r4, rfl⟩
  obtain rfl : t1 = z1 := by rw [ht1.out, hy1.out]
  go_wp2_with fail
  refine (few_rd (h2.below be')).mono ?_
  rintro e w' ⟨t2, p5, q5, ht2, _, rfl, r5, rfl⟩
  obtain rfl : t2 = z2 := by rw [ht2.out, hy2.out]
  go_wp2_with fail
  refine (refMinus_any r4 se r5 se (by omega) (by omega)).mono ?_
  rintro e wf hmin
  obtain ⟨m2, na, nc, nb, hnb, hnv, rfl, on, bf⟩ := minuses_form hmin
  obtain rfl : mb = nb := by rw [hmb.out, hnb.out]
  obtain rfl : m1 = m2 := can_inj hmv.out.1 hnv.out.1 (by rw [hmv.out.2, hnv.out.2])
  clear hmin hmb hnb hmv hnv
  have bf' := be'.trans (bf.mono se)
  have sf := bf'.size
  have om2 := om.below bf (Nat.le_refl _)
  have hM2 := (hM.below be).below bf
  have T1 := (S1.below be (Nat.le_refl _)).below bf (Nat.le_refl _)
  have T2 := (S2.below be (Nat.le_refl _)).below bf (Nat.le_refl _)
  have T3 := (S3.below be (Nat.le_refl _)).below bf (Nat.le_refl _)
  clear S1 S2 S3 hM om r1 r2 r3 r4 r5
  go_wp2_with fail
  refine (live_any _ (tabIs_below htab bf')).mono ?_
  rintro e wg ⟨rfl, bg⟩
  have bg' := bf'.trans (bg.mono sf)
  have sg := bg'.size
  have U1 := T1.below bg (Nat.le_refl _)
  have U2 := T2.below bg (Nat.le_refl _)
  have U3 := T3.below bg (Nat.le_refl _)
  have hM3 := hM2.below bg
  have om3 := om2.below bg (Nat.le_refl _)
  have on3 := on.below bg (Nat.le_refl _)
  clear T1 T2 T3 hM2 om2 on
  go_wp2_with fail
  refine (sum3 U1.rd U2.rd U3.rd (Nat.le_refl _) (Nat.le_refl _) (Nat.le_refl _) (by omega) (by omega) (by omega)).mono ?_
  rintro e wh ⟨zh, ch, vh, lh, ah, qh, rfl, oh, bh⟩
  have bh' := bg'.trans (bh.mono sg)
  have sh := bh'.size
  have hM4 := hM3.below bh
  go_wp2_with fail
  refine (refSum_any hM4 (by omega) (by simp [sumL]; omega)).mono ?_
  rintro e wi ⟨zi, ci, vi, ai, qi, rfl, oi, bi⟩
  obtain rfl : zh = zi := can_inj ch ci (by rw [vh, vi]; simp [sumV])
  have bi' := bh'.trans (bi.mono sh)
  have si := bi'.size
  have hM5 := hM4.below bi
  go_wp2_with fail
  refine (same_rd (oh.below bi (Nat.le_refl _)).rd oi.rd).mono ?_
  rintro e wj ⟨rfl, bj⟩
  have bj' := bi'.trans (bj.mono si)
  have sj := bj'.size
  have V1 := ((U1.below bh (Nat.le_refl _)).below bi (Nat.le_refl _)).below bj (Nat.le_refl _)
  have V2 := ((U2.below bh (Nat.le_refl _)).below bi (Nat.le_refl _)).below bj (Nat.le_refl _)
  have V3 := ((U3.below bh (Nat.le_refl _)).below bi (Nat.le_refl _)).below bj (Nat.le_refl _)
  have hM6 := hM5.below bj
  have om4 := ((om3.below bh (Nat.le_refl _)).below bi (Nat.le_refl _)).below bj (Nat.le_refl _)
  have on4 := ((on3.below bh (Nat.le_refl _)).below bi (Nat.le_refl _)).below bj (Nat.le_refl _)
  clear U1 U2 U3 hM3 hM4 hM5 om3 on3 oh oi vh vi
  go_wp2_with fail
  refine (prod3 V1.rd V2.rd V3.rd (Nat.le_refl _) (Nat.le_refl _) (Nat.le_refl _) (by omega) (by omega) (by omega)).mono ?_
  rintro e wk ⟨zk, ck, vk, lk, ak, qk, rfl, ok, bk⟩
  have bk' := bj'.trans (bk.mono sj)
  have sk := bk'.size
  have hM7 := hM6.below bk
  go_wp2_with fail
  refine (refProduct_any hM7 (by omega) (by simp [sumL]; omega)).mono ?_
  rintro e wl ⟨zl, cl, vl, al, ql, rfl, ol, bl⟩
  obtain rfl : zk = zl := can_inj ck cl (by rw [vk, vl]; simp [prodV])
  have bl' := bk'.trans (bl.mono sk)
  have sl := bl'.size
  go_wp2_with fail
  refine (same_rd (ok.below bl (Nat.le_refl _)).rd ol.rd).mono ?_
  rintro e wm ⟨rfl, bm⟩
  have bm' := bl'.trans (bm.mono sl)
  have sm := bm'.size
  have W1 := ((V1.below bk (Nat.le_refl _)).below bl (Nat.le_refl _)).below bm (Nat.le_refl _)
  have W2 := ((V2.below bk (Nat.le_refl _)).below bl (Nat.le_refl _)).below bm (Nat.le_refl _)
  have W3 := ((V3.below bk (Nat.le_refl _)).below bl (Nat.le_refl _)).below bm (Nat.le_refl _)
  have om5 := ((om4.below bk (Nat.le_refl _)).below bl (Nat.le_refl _)).below bm (Nat.le_refl _)
  have on5 := ((on4.below bk (Nat.le_refl _)).below bl (Nat.le_refl _)).below bm (Nat.le_refl _)
  clear V1 V2 V3 hM6 hM7 om4 on4 ok ol vk vl
  go_wp2_with fail
  refine (same_rd om5.rd on5.rd).mono ?_
  rintro e wn ⟨rfl, bn⟩
  have bn' := bm'.trans (bn.mono sm)
  have sn := bn'.size
  clear om5 on5
  go_wp2_with fail
  refine (sum_none _).mono ?_
  rintro e wo ⟨rfl, bo⟩
  have bo' := bn'.trans (bo.mono sn)
  have so := bo'.size
  go_wp2_with fail
  refine (product_none _).mono ?_
  rintro e wp ⟨ap, qp, rfl, op, bp⟩
  have bp' := bo'.trans (bp.mono so)
  have sp := bp'.size
  have hone : Own wp.heap.size (wp.alloc (.cells #[.int .u32 1] 39)) (.slice (some ⟨wp.heap.size, 0, none⟩) 1 1) [1] := ⟨can_one.1, World.ownsRow_lit wp #[.int .u32 1] 1 (Nat.le_refl _) (by unfold maxLen; omega) rfl⟩
  have bq : Below wp.heap.size wp (wp.alloc (.cells #[.int .u32 1] 39)) := (Below.refl _ _).alloc (Nat.le_refl _) _
  have bq' := bp'.trans (bq.mono sp)
  have sq := bq'.size
  go_wp2_with fail
  refine (same_rd (op.below bq (Nat.le_refl _)).rd hone.rd).mono ?_
  rintro e wr ⟨rfl, br⟩
  have br' := bq'.trans (br.mono sq)
  have sr := br'.size
  have X1 := ((((W1.below bn (Nat.le_refl _)).below bo (Nat.le_refl _)).below bp (Nat.le_refl _)).below bq (Nat.le_refl _)).below br (Nat.le_refl _)
  have X2 := ((((W2.below bn (Nat.le_refl _)).below bo (Nat.le_refl _)).below bp (Nat.le_refl _)).below bq (Nat.le_refl _)).below br (Nat.le_refl _)
  have X3 := ((((W3.below bn (Nat.le_refl _)).below bo (Nat.le_refl _)).below bp (Nat.le_refl _)).below bq (Nat.le_refl _)).below br (Nat.le_refl _)
  clear W1 W2 W3 op hone
  go_wp2_with fail
  refine (kept_any X1 (h1.below br') hy1 l1).mono ?_
  rintro e ws ⟨rfl, bs⟩
  have bs' := br'.trans (bs.mono sr)
  have ss := bs'.size
  go_wp2_with fail
  refine (kept_any (X2.below bs (Nat.le_refl _)) (h2.below bs') hy2 l2).mono ?_
  rintro e wt ⟨rfl, bt⟩
  have bt' := bs'.trans (bt.mono ss)
  have st := bt'.size
  go_wp2_with fail
  refine (kept_any ((X3.below bs (Nat.le_refl _)).below bt (Nat.le_refl _)) (h3.below bt') hy3 l3).mono ?_
  rintro e wu ⟨rfl, bu⟩
  go_wp2
  go_ret
  exact ⟨rfl, bt'.trans (bu.mono st)⟩
end Go.Proofs.YtibciilhfpgjjaaDoor
