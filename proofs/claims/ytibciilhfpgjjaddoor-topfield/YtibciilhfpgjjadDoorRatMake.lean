/- rat.limited, rat.Make, rat.withSign. -/
import Derived.Test.YtibciilhfpgjjadDoorRatRight
import Derived.Test.YtibciilhfpgjjadDoorGcdMath
import Derived.Handy
namespace Go.Proofs.YtibciilhfpgjjadDoor
set_option linter.unusedVariables false
set_option linter.unusedSimpArgs false
open Go.RowKit

/-- A size with its sign. -/
def sg (b : Bool) (x : Int) : Int := if b then -x else x
theorem sg_mul (b : Bool) (x y : Int) : sg b (x * y) = sg b x * y := by unfold sg; split <;> simp [Int.neg_mul]
theorem sg_zero (b : Bool) : sg b 0 = 0 := by unfold sg; split <;> rfl
theorem sg_false (x : Int) : sg false x = x := rfl

/-- N by D in lowest terms has too many limbs. -/
def Big (N D : Int) : Prop := ∃ b ns ds, can ns ∧ can ds ∧ 0 < ds.length ∧ gI (val ns) (val ds) = 1 ∧ sg b (val ns) * D = N * val ds ∧ (32 < ns.length ∨ 32 < ds.length)

/-- What the making of N by D answers: it is too great, or in lowest terms. -/
def RMakes (w : World) (N D : Int) (e : Ending) (w' : World) : Prop :=
  Below w.heap.size w w' ∧ ((e = .returned (.tuple #[(.agg #[.bool false, .slice none 0 0, .slice none 0 0]), .int .i64 8]) ∧ Big N D) ∨ ∃ b ns ds a1 c1 a2 c2, e = .returned (.tuple #[.agg #[.bool b, .slice a1 ns.length c1, .slice a2 ds.length c2], .int .i64 0]) ∧ Own w.heap.size w' (.slice a1 ns.length c1) ns ∧ Own w.heap.size w' (.slice a2 ds.length c2) ds ∧ RightP b ns ds ∧ sg b (val ns) * D = N * val ds)

theorem limited_ok (b : Bool) (a1 a2 : Option Addr) (n1 c1 n2 c2 : Nat) (w : World) (h1 : n1 ≤ 32) (h2 : n2 ≤ 32) :
    Calls Tryd.prog 34 #[.bool b, .slice a1 n1 c1, .slice a2 n2 c2] w fun e w' => e = .returned (.tuple #[.agg #[.bool (b && decide (0 < n1)), .slice a1 n1 c1, .slice a2 n2 c2], .int .i64 0]) ∧ Below w.heap.size w w' := by
  have q1 : ¬ 32 < n1 := by omega
  have q2 : ¬ 32 < n2 := by omega
  go_enter Tryd.func34, Tryd.ntmps34
  cases b with
  | false =>
    go_wp2
    go_returns
    exact ⟨rfl, (Below.refl _ _).alloc (Nat.le_refl _) _⟩
  | true =>
    by_cases h0 : 0 < n1
    · rw [decide_eq_true h0]
      go_wp2
      go_returns
      exact ⟨rfl, (Below.refl _ _).alloc (Nat.le_refl _) _⟩
    · rw [decide_eq_false h0]
      go_wp2
      go_returns
      exact ⟨rfl, (Below.refl _ _).alloc (Nat.le_refl _) _⟩
theorem limited_no (b : Bool) (a1 a2 : Option Addr) (n1 c1 n2 c2 : Nat) (w : World) (h : 32 < n1 ∨ (¬ 32 < n1 ∧ 32 < n2)) :
    Calls Tryd.prog 34 #[.bool b, .slice a1 n1 c1, .slice a2 n2 c2] w fun e w' => e = .returned (.tuple #[(.agg #[.bool false, .slice none 0 0, .slice none 0 0]), .int .i64 8]) ∧ Below w.heap.size w w' := by
  go_enter Tryd.func34, Tryd.ntmps34
  rcases h with h | ⟨h, h'⟩
  all_goals
    go_wp2
    go_returns
    exact ⟨rfl, (Below.refl _ _).alloc (Nat.le_refl _) _⟩

/-- rat.limited of limbs in lowest terms. -/
theorem limited_any {w0 w : World} {b : Bool} {a1 a2 : Option Addr} {c1 c2 : Nat} {ns ds : List Int} (N D : Int) (hb : Below w0.heap.size w0 w) (o1 : Own w0.heap.size w (.slice a1 ns.length c1) ns) (o2 : Own w0.heap.size w (.slice a2 ds.length c2) ds) (cn : can ns) (cd : can ds) (hd : 0 < ds.length) (hg : gI (val ns) (val ds) = 1) (hv : sg b (val ns) * D = N * val ds) :
    Calls Tryd.prog 34 #[.bool b, .slice a1 ns.length c1, .slice a2 ds.length c2] w fun e w' => RMakes w0 N D e w' := by
  by_cases h1 : 32 < ns.length
  · refine (limited_no b a1 a2 _ c1 _ c2 w (Or.inl h1)).mono ?_
    rintro e w' ⟨rfl, hb'⟩
    exact ⟨hb.trans (hb'.mono hb.size), Or.inl ⟨rfl, b, ns, ds, cn, cd, hd, hg, hv, Or.inl h1⟩⟩
  · by_cases h2 : 32 < ds.length
    · refine (limited_no b a1 a2 _ c1 _ c2 w (Or.inr ⟨h1, h2⟩)).mono ?_
      rintro e w' ⟨rfl, hb'⟩
      exact ⟨hb.trans (hb'.mono hb.size), Or.inl ⟨rfl, b, ns, ds, cn, cd, hd, hg, hv, Or.inr h2⟩⟩
    · refine (limited_ok b a1 a2 _ c1 _ c2 w (by omega) (by omega)).mono ?_
      rintro e w' ⟨rfl, hb'⟩
      refine ⟨hb.trans (hb'.mono hb.size), Or.inr ⟨_, ns, ds, a1, c1, a2, c2, rfl, o1.below hb' (Nat.le_refl _), o2.below hb' (Nat.le_refl _), ⟨by omega, by omega, cn, cd, ?_, hd, hg⟩, ?_⟩⟩
      · rintro ⟨hx, hz⟩
        rw [decide_eq_false (by omega)] at hx
        simp at hx
      · by_cases h0 : 0 < ns.length
        · rw [decide_eq_true h0, Bool.and_true]; exact hv
        · have hz := (can_zero cn).1 (by omega)
          rw [hz, sg_zero] at hv
          rw [hz, sg_zero]; exact hv

/-- A variable of three cells. -/
def Box3 (w : World) (B ty : Nat) (x y z : Value) : Prop := w.heap[B]? = some (.cells #[x, y, z] ty (0, 0))
theorem box3_new (w : World) (x y z : Value) (t : Nat) : Box3 (w.alloc (.cells #[x, y, z] t)) w.heap.size t x y z := heap_alloc_new _ _
theorem Box3.below {w w' : World} {B ty base : Nat} {x y z : Value} (h : Box3 w B ty x y z) (hb : Below base w w') (hB : B < base) : Box3 w' B ty x y z := by
  unfold Box3; rw [hb.block B hB]; exact h
theorem Box3.c0 {w : World} {B ty : Nat} {x y z : Value} (h : Box3 w B ty x y z) : w.cell? ⟨B, 0, none⟩ = some x := by unfold Box3 at h; simp [World.cell?, h]
theorem Box3.c1 {w : World} {B ty : Nat} {x y z : Value} (h : Box3 w B ty x y z) : w.cell? ⟨B, 1, none⟩ = some y := by unfold Box3 at h; simp [World.cell?, h]
theorem Box3.c2 {w : World} {B ty : Nat} {x y z : Value} (h : Box3 w B ty x y z) : w.cell? ⟨B, 2, none⟩ = some z := by unfold Box3 at h; simp [World.cell?, h]
theorem Box3.f0 {w : World} {B ty : Nat} {x y z : Value} (h : Box3 w B ty x y z) : w.frozen? ⟨B, 0, none⟩ = false := by unfold Box3 at h; simp [World.frozen?, h]
theorem Box3.f1 {w : World} {B ty : Nat} {x y z : Value} (h : Box3 w B ty x y z) : w.frozen? ⟨B, 1, none⟩ = false := by unfold Box3 at h; simp [World.frozen?, h]
theorem Box3.f2 {w : World} {B ty : Nat} {x y z : Value} (h : Box3 w B ty x y z) : w.frozen? ⟨B, 2, none⟩ = false := by unfold Box3 at h; simp [World.frozen?, h]

theorem Box3.set {w2 : World} {B ty : Nat} {p q r : Value} (h : Box3 w2 B ty p q r) (x y z : Value) : Box3 (((w2.setCell ⟨B, 0, none⟩ x).setCell ⟨B, 1, none⟩ y).setCell ⟨B, 2, none⟩ z) B ty x y z := by
  unfold Box3 at h ⊢
  simp [World.setCell, Array.getElem?_modify, h]
theorem Below.set3 {base B : Nat} {w w2 : World} (h : Below base w w2) (hB : base ≤ B) (x y z : Value) : Below base w (((w2.setCell ⟨B, 0, none⟩ x).setCell ⟨B, 1, none⟩ y).setCell ⟨B, 2, none⟩ z) :=
  ((h.setCell (p := ⟨B, 0, none⟩) hB x).setCell (p := ⟨B, 1, none⟩) hB y).setCell (p := ⟨B, 2, none⟩) hB z
theorem Own.set3 {base B : Nat} {w2 : World} {v : Value} {xs : List Int} (h : Own base w2 v xs) (hB : B < base) (x y z : Value) : Own base (((w2.setCell ⟨B, 0, none⟩ x).setCell ⟨B, 1, none⟩ y).setCell ⟨B, 2, none⟩ z) v xs :=
  ((h.setCell (a := ⟨B, 0, none⟩) (ownBlock_ne h hB) x).setCell (a := ⟨B, 1, none⟩) (ownBlock_ne h hB) y).setCell (a := ⟨B, 2, none⟩) (ownBlock_ne h hB) z

/-- A number that was made, laid into the variable of the result. -/
theorem rmakes_done {w wR w2 : World} {N D : Int} {b : Bool} {ns ds : List Int} {x1 x2 : Option Addr} {y1 y2 : Nat} (b0 : Below w.heap.size w wR) (s0 : w.heap.size < wR.heap.size) (hb : Below wR.heap.size wR w2) (on : Own wR.heap.size w2 (.slice x1 ns.length y1) ns) (od : Own wR.heap.size w2 (.slice x2 ds.length y2) ds) (hr : RightP b ns ds) (hv : sg b (val ns) * D = N * val ds) :
    RMakes w N D (.returned (.tuple #[.agg #[.bool b, .slice x1 ns.length y1, .slice x2 ds.length y2], .int .i64 0])) (((w2.setCell ⟨w.heap.size, 0, none⟩ (.bool b)).setCell ⟨w.heap.size, 1, none⟩ (.slice x1 ns.length y1)).setCell ⟨w.heap.size, 2, none⟩ (.slice x2 ds.length y2)) :=
  ⟨Below.set3 (b0.trans (hb.mono (Nat.le_of_lt s0))) (Nat.le_refl _) _ _ _, Or.inr ⟨b, ns, ds, x1, y1, x2, y2, rfl, (Own.set3 on s0 _ _ _).mono (Nat.le_of_lt s0), (Own.set3 od s0 _ _ _).mono (Nat.le_of_lt s0), hr, hv⟩⟩
theorem rmakes_none {w wR w2 : World} {N D : Int} (b0 : Below w.heap.size w wR) (s0 : w.heap.size < wR.heap.size) (hb : Below wR.heap.size wR w2) (hbig : Big N D) (x y z : Value) :
    RMakes w N D (.returned (.tuple #[(.agg #[.bool false, .slice none 0 0, .slice none 0 0]), .int .i64 8])) (((w2.setCell ⟨w.heap.size, 0, none⟩ x).setCell ⟨w.heap.size, 1, none⟩ y).setCell ⟨w.heap.size, 2, none⟩ z) :=
  ⟨Below.set3 (b0.trans (hb.mono (Nat.le_of_lt s0))) (Nat.le_refl _) _ _ _, Or.inl ⟨rfl, hbig⟩⟩

set_option maxRecDepth 100000 in
set_option maxHeartbeats 3200000 in
theorem make_any {B1 B2 : Nat} {w : World} {v1 v2 : Value} {xs ys : List Int} (b : Bool) (N : Int) (h1 : Rd B1 w v1 xs) (b1 : B1 ≤ w.heap.size) (h2 : Rd B2 w v2 ys) (b2 : B2 ≤ w.heap.size) (n1 : xs.length ≤ 10000) (n2 : ys.length ≤ 10000) (hy : 0 < val ys) (hN : N = sg b (val xs)) :
    Calls Tryd.prog 46 #[.bool b, v1, v2] w fun e w' => RMakes w N (val ys) e w' := by
  have cu := tr_can h1.lim
  have cv := tr_can h2.lim
  have lu := tr_length_le xs
  have lv := tr_length_le ys
  have hvl : ¬ (tr ys).length = 0 := by rw [can_zero cv, val_tr]; omega
  have HV : Hid (val (tr xs) = val xs ∧ val (tr ys) = val ys ∧ 0 < val ys ∧ 0 ≤ val xs ∧ N = sg b (val xs)) := ⟨val_tr xs, val_tr ys, hy, (val_bound h1.lim).1, hN⟩
  clear hy hN
  have hR := box3_new w (.bool false) (.slice none 0 0) (.slice none 0 0) 24
  have b0 : Below w.heap.size w (w.alloc (.cells #[.bool false, .slice none 0 0, .slice none 0 0] 24)) := (Below.refl _ _).alloc (Nat.le_refl _) _
  have s0 : w.heap.size < (w.alloc (.cells #[.bool false, .slice none 0 0, .slice none 0 0] 24)).heap.size := by simp
  replace h1 := h1.below (b0.mono b1)
  replace h2 := h2.below (b0.mono b2)
  go_enter Tryd.func46, Tryd.ntmps46
  go_wp2_with fail
  generalize hA : w.alloc (.cells #[.bool false, .slice none 0 0, .slice none 0 0] 24) = wR at *
  clear hA
  refine (trim_rd h1 (by omega)).mono ?_
  rintro e wa ⟨a1, c1, rfl, o1, ba⟩
  have sa := ba.size
  go_wp2_with fail
  refine (trim_rd (h2.below (ba.mono (by omega))) (by omega)).mono ?_
  rintro e wb ⟨a2, c2, rfl, o2, bb⟩
  have sb := bb.size
  have bw : Below wR.heap.size wR wb := ba.trans (bb.mono sa)
  have o1' : Own wR.heap.size wb (.slice a1 (tr xs).length c1) (tr xs) := o1.below bb (Nat.le_refl _)
  have o2' : Own wR.heap.size wb (.slice a2 (tr ys).length c2) (tr ys) := o2.mono sa
  have hs := bw.size
  clear o1 o2 ba bb sa sb h1 h2
  generalize tr xs = us at *
  generalize tr ys = vs at *
  have hvp : 0 < vs.length := by omega
  have hvb : ((vs.length : Int) == 0) = false := by rw [beq_eq_false_iff_ne]; omega
  clear hvl
  go_wp2_with fail
  refine (isOne_any o2'.rd).mono ?_
  rintro e w' ⟨rfl, rfl⟩
  by_cases hone : vs = [1]
  · have HR : Hid (val vs = 1) := by unfold Hid; rw [hone]; decide
    rw [decide_eq_true hone]
    clear hone
    have hlim := limited_any (b := b) N (val ys) bw o1' o2' cu cv hvp (by rw [HR.out]; exact gI_one_right _) (by
      have h3 := HV.out
      rw [HR.out] at h3 ⊢
      rw [← h3.2.1, h3.2.2.2.2, h3.1])
    go_wp2_with fail
    refine hlim.mono ?_
    rintro e w2 ⟨hbw, ⟨rfl, hbig⟩ | ⟨b', ns, ds, x1, y1, x2, y2, rfl, on, od, hr, hv⟩⟩
    · have HBG : Hid (Big N (val ys)) := hbig
      clear hbig
      have hR2 := hR.below hbw s0
      have q0 := hR2.c0
      have q1 := hR2.c1
      have q2 := hR2.c2
      have p0 := hR2.f0
      have p1 := hR2.f1
      have p2 := hR2.f2
      go_wp2
      have hR3 := hR2.set (.bool false) (.slice none 0 0) (.slice none 0 0)
      have r0 := hR3.c0
      have r1 := hR3.c1
      have r2 := hR3.c2
      refine bodyPost_ret (v := .tuple #[.agg #[.bool false, .slice none 0 0, .slice none 0 0], .int .i64 8]) (by simp [results, Tryd.results46, go_sem, r0, r1, r2]) rfl ?_
      exact rmakes_none b0 s0 hbw HBG.out _ _ _
    · have HX : Hid (RightP b' ns ds ∧ sg b' (val ns) * val ys = N * val ds) := ⟨hr, hv⟩
      clear hr hv
      have hR2 := hR.below hbw s0
      have q0 := hR2.c0
      have q1 := hR2.c1
      have q2 := hR2.c2
      have p0 := hR2.f0
      have p1 := hR2.f1
      have p2 := hR2.f2
      go_wp2
      have hR3 := hR2.set (.bool b') (.slice x1 ns.length y1) (.slice x2 ds.length y2)
      have r0 := hR3.c0
      have r1 := hR3.c1
      have r2 := hR3.c2
      refine bodyPost_ret (v := .tuple #[.agg #[.bool b', .slice x1 ns.length y1, .slice x2 ds.length y2], .int .i64 0]) (by simp [results, Tryd.results46, go_sem, r0, r1, r2]) rfl ?_
      exact rmakes_done b0 s0 hbw on od HX.out.1 HX.out.2
  · rw [decide_eq_false hone]
    clear hone
    go_wp2_with fail
    refine (gcd2 o1'.rd o2'.rd (Nat.le_refl _) (Nat.le_refl _) 10000 (by omega) (by omega) (by omega)).mono ?_
    rintro e wg ⟨g, cg, vg, lg, ag, qg, rfl, og, bg⟩
    have sg' := bg.size
    have hgp : 0 < val g := by rw [vg]; exact gI_pos _ _ (by have := HV.out; omega) (by have := HV.out; omega)
    obtain ⟨⟨k1, hk1, _⟩, ⟨k2, hk2, _⟩⟩ := gI_dvd (val us) (val vs) (by have := HV.out; omega) (by have := HV.out; omega)
    rw [← vg] at hk1 hk2
    have HG : Hid (val g = gI (val us) (val vs) ∧ val us = k1 * val g ∧ val vs = k2 * val g) := ⟨vg, hk1, hk2⟩
    clear vg hk1 hk2
    have o1g := o1'.below bg (Nat.le_refl _)
    have o2g := o2'.below bg (Nat.le_refl _)
    have bwg : Below wR.heap.size wR wg := bw.trans (bg.mono hs)
    go_wp2_with fail
    refine (divMod_any o1g.rd (Nat.le_refl _) og.rd (Nat.le_refl _) (by omega) (by omega) (by omega)).mono ?_
    rintro e wh ⟨qs, rs, a5, c5, a6, c6, rfl, oq, or, cq, cr, hv5, hl5, lq, lr, bh⟩
    have hr0 := rest_zero _ _ _ _ k1 hv5 (val_bound cr.1).1 hl5 HG.out.2.1
    have HQ : Hid (val us = val qs * val g) := by unfold Hid; rw [hv5, hr0, Int.add_zero]
    clear hv5 hl5 hr0
    have o2h := o2g.below bh (Nat.le_refl _)
    have ogh := og.below bh (Nat.le_refl _)
    have bwh : Below wR.heap.size wR wh := bwg.trans (bh.mono (by omega))
    have sh' := bh.size
    go_wp2_with fail
    refine (divMod_any o2h.rd (Nat.le_refl _) ogh.rd (Nat.le_refl _) (by omega) (by omega) (by omega)).mono ?_
    rintro e wi ⟨ts, us2, a7, c7, a8, c8, rfl, ot, ou, ct, cu2, hv7, hl7, lt', lu2, bi⟩
    have hu0 := rest_zero _ _ _ _ k2 hv7 (val_bound cu2.1).1 hl7 HG.out.2.2
    have HT : Hid (val vs = val ts * val g) := by unfold Hid; rw [hv7, hu0, Int.add_zero]
    clear hv7 hl7 hu0
    have si := bi.size
    have bwi : Below wR.heap.size wR wi := bwh.trans (bi.mono (by omega))
    have oq2 : Own wR.heap.size wi (.slice a5 qs.length c5) qs := (oq.below bi (Nat.le_refl _)).mono (by omega)
    have ot2 : Own wR.heap.size wi (.slice a7 ts.length c7) ts := ot.mono (by omega)
    have h3 := HV.out
    have hqn := (val_bound cq.1).1
    have htn := (val_bound ct.1).1
    have hgg := gI_rest (val us) (val vs) (val qs) (val ts) (by omega) (by omega) hqn htn (by rw [← HG.out.1]; exact HQ.out) (by rw [← HG.out.1]; exact HT.out)
    have htp : 0 < ts.length := by
      by_cases h0 : ts.length = 0
      · have := (can_zero ct).1 h0
        have h4 := HT.out
        rw [this, Int.zero_mul] at h4
        omega
      · omega
    have hlim := limited_any (b := b) N (val ys) bwi oq2 ot2 cq ct htp hgg (by
      rw [h3.2.2.2.2, ← h3.1, ← h3.2.1, HQ.out, HT.out, sg_mul]
      simp only [Int.mul_assoc, Int.mul_comm, Int.mul_left_comm])
    clear h3 hqn htn hgg hgp
    go_wp2_with fail
    refine hlim.mono ?_
    rintro e w2 ⟨hbw, ⟨rfl, hbig⟩ | ⟨b', ns, ds, x1, y1, x2, y2, rfl, on, od, hr, hv⟩⟩
    · have HBG : Hid (Big N (val ys)) := hbig
      clear hbig
      have hR2 := hR.below hbw s0
      have q0 := hR2.c0
      have q1 := hR2.c1
      have q2 := hR2.c2
      have p0 := hR2.f0
      have p1 := hR2.f1
      have p2 := hR2.f2
      go_wp2
      have hR3 := hR2.set (.bool false) (.slice none 0 0) (.slice none 0 0)
      have r0 := hR3.c0
      have r1 := hR3.c1
      have r2 := hR3.c2
      refine bodyPost_ret (v := .tuple #[.agg #[.bool false, .slice none 0 0, .slice none 0 0], .int .i64 8]) (by simp [results, Tryd.results46, go_sem, r0, r1, r2]) rfl ?_
      exact rmakes_none b0 s0 hbw HBG.out _ _ _
    · have HX : Hid (RightP b' ns ds ∧ sg b' (val ns) * val ys = N * val ds) := ⟨hr, hv⟩
      clear hr hv
      have hR2 := hR.below hbw s0
      have q0 := hR2.c0
      have q1 := hR2.c1
      have q2 := hR2.c2
      have p0 := hR2.f0
      have p1 := hR2.f1
      have p2 := hR2.f2
      go_wp2
      have hR3 := hR2.set (.bool b') (.slice x1 ns.length y1) (.slice x2 ds.length y2)
      have r0 := hR3.c0
      have r1 := hR3.c1
      have r2 := hR3.c2
      refine bodyPost_ret (v := .tuple #[.agg #[.bool b', .slice x1 ns.length y1, .slice x2 ds.length y2], .int .i64 0]) (by simp [results, Tryd.results46, go_sem, r0, r1, r2]) rfl ?_
      exact rmakes_done b0 s0 hbw on od HX.out.1 HX.out.2
end Go.Proofs.YtibciilhfpgjjadDoor
