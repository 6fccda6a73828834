/- The statement NatDivisors' walk: the greatest divisor of three divides each, in any order. -/
import Derived.Test.YtibciilhfpgjjabDoorNatBack
import Derived.Deep.RegionHeld3
namespace Go.Proofs.YtibciilhfpgjjabDoor
set_option linter.unusedVariables false
set_option linter.unusedSimpArgs false
open Go.RowKit

theorem gI_assoc (x y z : Int) (hx : 0 ≤ x) (hy : 0 ≤ y) (hz : 0 ≤ z) : gI (gI x y) z = gI (gI z x) y := by
  unfold gI
  simp only [Int.toNat_natCast]
  rw [Nat.gcd_comm z.toNat x.toNat, Nat.gcd_assoc, Nat.gcd_assoc, Nat.gcd_comm y.toNat z.toNat]

theorem many_drew {w : World} {Lb k : Nat} {vs : List Value} {xss : List (List Int)} (h : Many w Lb k vs xss) : Many w.drew Lb k vs xss := ⟨h.lv, h.lx, h.lt, h.cell, h.rd⟩

theorem Makes.undrew {w w' : World} {e : Ending} {xs : List Int} (h : Makes w.drew e w' xs) : Makes w e w' xs := by
  obtain ⟨a, c, he, ho, hb⟩ := h
  exact ⟨a, c, he, ho, ⟨hb.os, hb.tape, hb.output, hb.size, hb.block⟩⟩

theorem gI_dvd3 (x y z : Int) (hx : 0 ≤ x) (hy : 0 ≤ y) (hz : 0 ≤ z) : (∃ k, x = k * gI (gI x y) z) ∧ (∃ k, y = k * gI (gI x y) z) ∧ ∃ k, z = k * gI (gI x y) z := by
  obtain ⟨⟨a, ha, _⟩, ⟨b, hb, _⟩⟩ := gI_dvd x y hx hy
  obtain ⟨⟨c, hc, _⟩, ⟨d, hd, _⟩⟩ := gI_dvd (gI x y) z (gI_nonneg _ _) hz
  refine ⟨⟨a * c, ?_⟩, ⟨b * c, ?_⟩, ⟨d, hd⟩⟩
  · rw [Int.mul_assoc, ← hc]; exact ha
  · rw [Int.mul_assoc, ← hc]; exact hb

set_option maxRecDepth 100000 in
set_option maxHeartbeats 6400000 in
theorem natDivisors_walk {w : World} {v1 v2 v3 : Value} {x1 x2 x3 : List Int} (h1 : Rd w.heap.size w v1 x1) (h2 : Rd w.heap.size w v2 x2) (h3 : Rd w.heap.size w v3 x3) (htab : Lib.TabIs Tryd.prog w "internal/strconv.uint64pow10" .u64 Lib.pow10Tab) :
    Calls Tryd.prog 6 #[v1, v2, v3] w fun e w' => e = .returned (.bool true) ∧ Below w.heap.size w w' := by
  go_enter Tryd.func6, Tryd.ntmps6
  go_wp2_with fail
  refine (few_rd h1).mono ?_
  rintro e w' ⟨y1, p1, q1, _, l1, rfl, r1, rfl⟩
  go_wp2_with fail
  refine (few_rd h2).mono ?_
  rintro e w' ⟨y2, p2', q2, _, l2, rfl, r2, rfl⟩
  go_wp2_with fail
  refine (few_rd h3).mono ?_
  rintro e w' ⟨y3, p3, q3, _, l3, rfl, r3, rfl⟩
  clear h1 h2 h3
  have n1 := (val_bound r1.lim).1
  have n2 := (val_bound r2.lim).1
  have n3 := (val_bound r3.lim).1
  have HN : Hid (0 ≤ val y1 ∧ 0 ≤ val y2 ∧ 0 ≤ val y3) := ⟨n1, n2, n3⟩
  clear n1 n2 n3
  have b0 : Below w.heap.size w (w.alloc (.cells #[.slice p1 y1.length q1, .slice p2' y2.length q2, .slice p3 y3.length q3] 22)) := (Below.refl _ w).alloc (Nat.le_refl _) _
  have k0 : (w.alloc (.cells #[.slice p1 y1.length q1, .slice p2' y2.length q2, .slice p3 y3.length q3] 22)).cell? ⟨w.heap.size, 0, none⟩ = some (.slice p1 y1.length q1) := by simp
  have k1 : (w.alloc (.cells #[.slice p1 y1.length q1, .slice p2' y2.length q2, .slice p3 y3.length q3] 22)).cell? ⟨w.heap.size, 1, none⟩ = some (.slice p2' y2.length q2) := by simp
  have k2 : (w.alloc (.cells #[.slice p1 y1.length q1, .slice p2' y2.length q2, .slice p3 y3.length q3] 22)).cell? ⟨w.heap.size, 2, none⟩ = some (.slice p3 y3.length q3) := by simp
  have s0 : w.heap.size < (w.alloc (.cells #[.slice p1 y1.length q1, .slice p2' y2.length q2, .slice p3 y3.length q3] 22)).heap.size := by simp
  have t1 := r1.below b0
  have t2 := r2.below b0
  have t3 := r3.below b0
  have htab0 := tabIs_below htab b0
  have hM0 := many3 r1 r2 r3 (Nat.le_refl _) (Nat.le_refl _) (Nat.le_refl _)
  go_wp2
  generalize hA : w.alloc (.cells #[.slice p1 y1.length q1, .slice p2' y2.length q2, .slice p3 y3.length q3] 22) = wA at *
  have hm1 := many_drew (many3 t1 t2 t3 (by omega) (by omega) (by omega))
  have hcells : ∀ {B : Nat} {w' : World}, Below wA.heap.size wA w' → w'.cell? ⟨w.heap.size, 0, none⟩ = some (.slice p1 y1.length q1) ∧ w'.cell? ⟨w.heap.size, 1, none⟩ = some (.slice p2' y2.length q2) ∧ w'.cell? ⟨w.heap.size, 2, none⟩ = some (.slice p3 y3.length q3) := fun hb => ⟨(hb.cell (p := ⟨w.heap.size, 0, none⟩) s0).trans k0, (hb.cell (p := ⟨w.heap.size, 1, none⟩) s0).trans k1, (hb.cell (p := ⟨w.heap.size, 2, none⟩) s0).trans k2⟩
  go_region_held3 (fun w' => w'.cell? ⟨w.heap.size, 0, none⟩ = some (.slice p1 y1.length q1) ∧ w'.cell? ⟨w.heap.size, 1, none⟩ = some (.slice p2' y2.length q2) ∧ w'.cell? ⟨w.heap.size, 2, none⟩ = some (.slice p3 y3.length q3))
    (first | go_keep | exact hcells (B := 0) ba)
    ((go_at_call 14; refine (gcd_any (M := 40) (by exact hm1) (by omega) (by omega) (fun j hj => by match j, hj with | 0, _ => exact l1 | 1, _ => exact l2 | 2, _ => exact l3)).mono ?_; rintro e wa ⟨za, ca, va, la, hma⟩; obtain ⟨aa, qa, rfl, oa, ba⟩ := Makes.undrew (Makes.alloc (w := wA.drew) hma)))
  have sa := ba.size
  have HVA : Hid (val za = gI (gI (val y1) (val y2)) (val y3)) := by
    unfold Hid; rw [va]; show gI (gI (gI 0 (val y1)) (val y2)) (val y3) = _
    rw [gI_zero_left _ HN.out.1]
  clear hma va hm1
  obtain ⟨c0, c1, c2⟩ := hcells (B := 0) ba
  have u1 := t1.below (ba.mono (by omega))
  have u2 := t2.below (ba.mono (by omega))
  have u3 := t3.below (ba.mono (by omega))
  have hm2 := many_drew (many3 u3 u1 u2 (by omega) (by omega) (by omega))
  have oad : Own wA.heap.size wa.drew (.slice aa za.length qa) za := oa
  have has := gI_assoc (val y1) (val y2) (val y3) HN.out.1 HN.out.2.1 HN.out.2.2
  have HAS : Hid (gI (gI (val y1) (val y2)) (val y3) = gI (gI (val y3) (val y1)) (val y2)) := has
  clear has
  go_wp2
  go_region_held3 (fun w' => w'.cell? ⟨w.heap.size, 0, none⟩ = some (.slice p1 y1.length q1) ∧ w'.cell? ⟨w.heap.size, 1, none⟩ = some (.slice p2' y2.length q2) ∧ w'.cell? ⟨w.heap.size, 2, none⟩ = some (.slice p3 y3.length q3))
    (first | go_keep | exact hcells (B := 0) bw | exact hcells (B := 0) bwd)
    (first
      | (go_at_call 14; refine (gcd_any (M := 40) (by exact hm2) (by omega) (by omega) (fun j hj => by match j, hj with | 0, _ => exact l3 | 1, _ => exact l1 | 2, _ => exact l2)).mono ?_; rintro e wb ⟨zb, cb, vb, lb, hmb⟩; obtain ⟨ab, qb, rfl, ob, bb⟩ := Makes.undrew (Makes.alloc (w := wa.drew) hmb); have bw := ba.trans (bb.mono sa))
      | (go_at_call 11; refine (compare_bl (oa.below bb (Nat.le_refl _)).rd ob.rd).mono ?_; rintro e wd ⟨rfl, bd⟩; have bwd := bw.trans (bd.mono (Nat.le_trans sa bb.size)); rw [cmpI_eq (show val za = val zb by rw [HVA.out, vb, HAS.out]; show _ = gI (gI (gI 0 (val y3)) (val y1)) (val y2); rw [gI_zero_left _ HN.out.2.2])]))
  have od := (oa.below bb (Nat.le_refl _)).below bd (Nat.le_refl _)
  have sd := bwd.size
  have HDV : Hid (∀ i, i < 3 → ∃ k, val ([y1, y2, y3].getD i []) = k * val za) := by
    obtain ⟨d1, d2, d3⟩ := gI_dvd3 _ _ _ HN.out.1 HN.out.2.1 HN.out.2.2
    rw [← HVA.out] at d1 d2 d3
    intro i hi
    match i, hi with
    | 0, _ => exact d1
    | 1, _ => exact d2
    | 2, _ => exact d3
  have HLV : Hid (∀ i, i < 3 → ([y1, y2, y3].getD i []).length ≤ 40) := by
    intro i hi
    match i, hi with
    | 0, _ => exact l1
    | 1, _ => exact l2
    | 2, _ => exact l3
  clear hmb vb lb ob cb hm2 HVA HAS oad oa u1 u2 u3 c0 c1 c2 t1 t2 t3
  have htabd := tabIs_below htab0 bwd
  have hMd : Many wd w.heap.size 3 [.slice p1 y1.length q1, .slice p2' y2.length q2, .slice p3 y3.length q3] [y1, y2, y3] := ⟨rfl, rfl, by omega, fun j hj => (bwd.cell (p := ⟨w.heap.size, j, none⟩) s0).trans (hM0.cell j hj), fun j hj => ((hM0.rd j hj).below bwd).mono (by omega)⟩
  clear hM0
  go_wp2
  go_loopw [9] (fun ii wr => ∃ (i : Nat), i ≤ 3 ∧ ii = .int .i64 i ∧ Below wd.heap.size wd wr)
    (fun ii _ => 3 - (intOf ii).toNat)
  case atStart => exact ⟨0, by omega, rfl, Below.refl _ _⟩
  case round =>
    obtain ⟨i, hi3, rfl, hbl⟩ := hrel
    have hs := hbl.size
    by_cases hlt : i < 3
    · have hcell : wr.cell? ⟨w.heap.size, i, none⟩ = some ([Value.slice p1 y1.length q1, .slice p2' y2.length q2, .slice p3 y3.length q3].getD i (.bool false)) := (hbl.cell hMd.lt).trans (hMd.cell i hlt)
      have hrd := (hMd.rd i hlt).below hbl
      obtain ⟨kd, hkd⟩ := HDV.out i hlt
      have hll := HLV.out i hlt
      generalize [Value.slice p1 y1.length q1, .slice p2' y2.length q2, .slice p3 y3.length q3].getD i (.bool false) = V at *
      generalize [y1, y2, y3].getD i [] = ys at *
      have rg := (od.below hbl (Nat.le_refl _)).rd
      by_cases hz : val za = 0
      · have hy0 : (tr ys).length = 0 := by rw [can_zero (tr_can hrd.lim), val_tr, hkd, hz]; simp
        go_wp2_with fail
        refine (divMod_zero rg hz).mono ?_
        rintro e w' ⟨rfl, hw⟩
        have hw := hw.symm
        subst hw
        clear hkd hz
        go_wp2_with fail
        refine (trim_rd hrd (by omega)).mono ?_
        rintro e w2 ⟨a3, c3, rfl, o3, b3⟩
        rw [hy0]
        go_wp2
        go_roundw
        case rel => exact ⟨i + 1, by omega, by go_num, hbl.trans (b3.mono hs)⟩
        case measure => simp [intOf]; omega
      · have HZ : Hid (¬ val za = 0 ∧ val ys = kd * val za) := ⟨hz, hkd⟩
        clear hkd
        go_wp2_with fail
        refine (divMod_any hrd (by omega) rg (Nat.le_refl _) hz (by omega) (by omega)).mono ?_
        rintro e w2 ⟨qs, rs, a3, c3, a4, c4, rfl, oq, or, cq, cr, hv, hl, _, _, b3⟩
        have hr0 := rest_zero _ _ _ _ kd hv (val_bound cr.1).1 hl HZ.out.2
        obtain rfl := can_val_zero cr hr0
        clear hz hr0 hv hl
        go_wp2
        go_roundw
        case rel => exact ⟨i + 1, by omega, by go_num, hbl.trans (b3.mono hs)⟩
        case measure => simp [intOf]; omega
    · obtain rfl : i = 3 := by omega
      go_wp2_with fail
      refine (live_any _ (tabIs_below htabd hbl)).mono ?_
      rintro e w2 ⟨rfl, b3⟩
      go_wp2
      go_ret
      exact ⟨rfl, b0.trans ((bwd.mono (by omega)).trans ((hbl.mono (by omega)).trans (b3.mono (by omega))))⟩
end Go.Proofs.YtibciilhfpgjjabDoor
