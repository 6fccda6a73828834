/- The document's neg, Neg, Abs. -/
import Derived.Test.YtonjbpnpknpbeaaGreatDoorJ7
namespace Go.Proofs.YtonjbpnpknpbeaaGreatDoor
set_option linter.unusedVariables false
set_option linter.unusedSimpArgs false
open Go.RowKit
section
variable {w : World} {b : Bool} {a1 a2 : Option Addr} {c1 c2 : Nat} {ns ds : List Int}
set_option maxRecDepth 100000 in
set_option maxHeartbeats 8000000 in
theorem refNeg_num (h1 : Rd w.heap.size w (.slice a1 ns.length c1) ns) (h2 : Rd w.heap.size w (.slice a2 ds.length c2) ds) (l1 : ns.length ≤ 10000) (l2 : ds.length ≤ 10000) (C : Hid (can ns ∧ can ds)) :
    Calls Tryz.prog 30 #[.agg #[.bool b, .slice a1 ns.length c1, .slice a2 ds.length c2]] w fun e w' => NumAns w (!b && decide (0 < ns.length)) ns ds e w' := by
  obtain ⟨X, R, g⟩ := in1_new (b := b) w h1 h2
  have s0 : w.heap.size ≤ w.heap.size + 1 := by omega
  clear h1 h2
  obtain ⟨x0, x1, x2⟩ := X.cells
  go_enter Tryz.func30, Tryz.ntmps30
  go_wp2_with fail
  clear x0 x1 x2
  generalize hA : (w.alloc (.cells #[.bool b, .slice a1 ns.length c1, .slice a2 ds.length c2] 24)).alloc (.cells #[.bool false, .slice none 0 0, .slice none 0 0] 24) = v at *
  clear hA
  refine (refCopied_any X.rn X.rd l1 l2 C).mono ?_
  rintro e wb ⟨kb, z1, y1, z2, y2, rfl, on, od⟩
  have g0 := g
  have s1 : w.heap.size ≤ v.heap.size := g.size
  cases b with
  | true =>
    have kc := below_alloc wb (.cells #[.bool false, .slice z1 ns.length y1, .slice z2 ds.length y2] 24)
    have R2 := (R.below kb).below kc
    have q0 := R2.box.c0
    have q1 := R2.box.c1
    have q2 := R2.box.c2
    have p0 := R2.box.f0
    have p1 := R2.box.f1
    have p2 := R2.box.f2
    go_wp2
    have hR3 := R2.box.set (.bool false) (.slice z1 ns.length y1) (.slice z2 ds.length y2)
    have r0 := hR3.c0
    have r1 := hR3.c1
    have r2 := hR3.c2
    refine bodyPost_ret (v := .agg #[.bool false, .slice z1 ns.length y1, .slice z2 ds.length y2]) (by simp [results, Tryz.results30, go_sem, r0, r1, r2]) rfl ?_
    have hbb : (!true && decide (0 < ns.length)) = false := by simp
    rw [hbb]
    exact ⟨Below.set3 (g0.trans ((kb.trans (kc.mono kb.size)).mono s1)) s0 _ _ _, z1, y1, z2, y2, rfl, (Own.set3 (on.alloc _) R.lt _ _ _).mono s1, (Own.set3 (od.alloc _) R.lt _ _ _).mono s1⟩
  | false =>
    by_cases hl : 0 < ns.length
    · have hlb : decide (0 < (ns.length : Int)) = true := decide_eq_true (by omega)
      have hln : decide (0 < ns.length) = true := decide_eq_true hl
      have kc := below_alloc wb (.cells #[.bool true, .slice z1 ns.length y1, .slice z2 ds.length y2] 24)
      have R2 := (R.below kb).below kc
      have q0 := R2.box.c0
      have q1 := R2.box.c1
      have q2 := R2.box.c2
      have p0 := R2.box.f0
      have p1 := R2.box.f1
      have p2 := R2.box.f2
      go_wp2
      have hR3 := R2.box.set (.bool true) (.slice z1 ns.length y1) (.slice z2 ds.length y2)
      have r0 := hR3.c0
      have r1 := hR3.c1
      have r2 := hR3.c2
      refine bodyPost_ret (v := .agg #[.bool true, .slice z1 ns.length y1, .slice z2 ds.length y2]) (by simp [results, Tryz.results30, go_sem, r0, r1, r2]) rfl ?_
      have hbb : (!false && decide (0 < ns.length)) = true := by rw [hln]; rfl
      rw [hbb]
      exact ⟨Below.set3 (g0.trans ((kb.trans (kc.mono kb.size)).mono s1)) s0 _ _ _, z1, y1, z2, y2, rfl, (Own.set3 (on.alloc _) R.lt _ _ _).mono s1, (Own.set3 (od.alloc _) R.lt _ _ _).mono s1⟩
    · have hlb : decide (0 < (ns.length : Int)) = false := decide_eq_false (by omega)
      have hln : decide (0 < ns.length) = false := decide_eq_false hl
      have kc := below_alloc wb (.cells #[.bool false, .slice z1 ns.length y1, .slice z2 ds.length y2] 24)
      have R2 := (R.below kb).below kc
      have q0 := R2.box.c0
      have q1 := R2.box.c1
      have q2 := R2.box.c2
      have p0 := R2.box.f0
      have p1 := R2.box.f1
      have p2 := R2.box.f2
      go_wp2
      have hR3 := R2.box.set (.bool false) (.slice z1 ns.length y1) (.slice z2 ds.length y2)
      have r0 := hR3.c0
      have r1 := hR3.c1
      have r2 := hR3.c2
      refine bodyPost_ret (v := .agg #[.bool false, .slice z1 ns.length y1, .slice z2 ds.length y2]) (by simp [results, Tryz.results30, go_sem, r0, r1, r2]) rfl ?_
      have hbb : (!false && decide (0 < ns.length)) = false := by rw [hln]; rfl
      rw [hbb]
      exact ⟨Below.set3 (g0.trans ((kb.trans (kc.mono kb.size)).mono s1)) s0 _ _ _, z1, y1, z2, y2, rfl, (Own.set3 (on.alloc _) R.lt _ _ _).mono s1, (Own.set3 (od.alloc _) R.lt _ _ _).mono s1⟩
end
end Go.Proofs.YtonjbpnpknpbeaaGreatDoor

/- The document's Floor: the whole number next to it. -/
namespace Go.Proofs.YtonjbpnpknpbeaaGreatDoor
set_option linter.unusedVariables false
set_option linter.unusedSimpArgs false
open Go.RowKit

theorem RMakes.from' {w0 w w' : World} {N D : Int} {e : Ending} (t : Below w0.heap.size w0 w) (h : RMakes w N D e w') : RMakes w0 N D e w' := by
  obtain ⟨hb, h⟩ := h
  refine ⟨t.trans (hb.mono t.size), ?_⟩
  rcases h with h | ⟨b, ns, ds, a1, c1, a2, c2, he, on, od, hr, hv⟩
  · exact Or.inl h
  · exact Or.inr ⟨b, ns, ds, a1, c1, a2, c2, he, on.mono t.size, od.mono t.size, hr, hv⟩

section
variable {w : World} {bx : Bool} {a1 a2 : Option Addr} {c1 c2 : Nat} {xn xd : List Int}
theorem in1_new' (w : World) (h1 : Rd w.heap.size w (.slice a1 xn.length c1) xn) (h2 : Rd w.heap.size w (.slice a2 xd.length c2) xd) :
    NVar ((w.alloc (.cells #[.bool bx, .slice a1 xn.length c1, .slice a2 xd.length c2] 24)).alloc (.cells #[.bool false, .slice none 0 0, .slice none 0 0] 24)) w.heap.size bx a1 xn c1 a2 xd c2 ∧ RVar ((w.alloc (.cells #[.bool bx, .slice a1 xn.length c1, .slice a2 xd.length c2] 24)).alloc (.cells #[.bool false, .slice none 0 0, .slice none 0 0] 24)) (w.heap.size + 1) ∧ Below w.heap.size w ((w.alloc (.cells #[.bool bx, .slice a1 xn.length c1, .slice a2 xd.length c2] 24)).alloc (.cells #[.bool false, .slice none 0 0, .slice none 0 0] 24)) := in1_new (b := bx) w h1 h2

end
end Go.Proofs.YtonjbpnpknpbeaaGreatDoor

/- The document's Ceil. -/
namespace Go.Proofs.YtonjbpnpknpbeaaGreatDoor
set_option linter.unusedVariables false
set_option linter.unusedSimpArgs false
open Go.RowKit
section
variable {w : World} {b : Bool} {a1 a2 : Option Addr} {c1 c2 : Nat} {ns ds : List Int}
end
end Go.Proofs.YtonjbpnpknpbeaaGreatDoor

/- The document's Times. -/
namespace Go.Proofs.YtonjbpnpknpbeaaGreatDoor
set_option linter.unusedVariables false
set_option linter.unusedSimpArgs false
open Go.RowKit
section
variable {w : World} {bx cy : Bool} {a1 a2 a3 a4 : Option Addr} {c1 c2 c3 c4 : Nat} {xn xd yn yd : List Int}
theorem in2_r (w : World) (h1 : Rd w.heap.size w (.slice a1 xn.length c1) xn) (h2 : Rd w.heap.size w (.slice a2 xd.length c2) xd) (h3 : Rd w.heap.size w (.slice a3 yn.length c3) yn) (h4 : Rd w.heap.size w (.slice a4 yd.length c4) yd) :
    NVar (((w.alloc (.cells #[.bool bx, .slice a1 xn.length c1, .slice a2 xd.length c2] 24)).alloc (.cells #[.bool cy, .slice a3 yn.length c3, .slice a4 yd.length c4] 24)).alloc (.cells #[.bool false, .slice none 0 0, .slice none 0 0] 24)) w.heap.size bx a1 xn c1 a2 xd c2 ∧ NVar (((w.alloc (.cells #[.bool bx, .slice a1 xn.length c1, .slice a2 xd.length c2] 24)).alloc (.cells #[.bool cy, .slice a3 yn.length c3, .slice a4 yd.length c4] 24)).alloc (.cells #[.bool false, .slice none 0 0, .slice none 0 0] 24)) (w.heap.size + 1) cy a3 yn c3 a4 yd c4 ∧ RVar (((w.alloc (.cells #[.bool bx, .slice a1 xn.length c1, .slice a2 xd.length c2] 24)).alloc (.cells #[.bool cy, .slice a3 yn.length c3, .slice a4 yd.length c4] 24)).alloc (.cells #[.bool false, .slice none 0 0, .slice none 0 0] 24)) (w.heap.size + 1 + 1) ∧ Below w.heap.size w (((w.alloc (.cells #[.bool bx, .slice a1 xn.length c1, .slice a2 xd.length c2] 24)).alloc (.cells #[.bool cy, .slice a3 yn.length c3, .slice a4 yd.length c4] 24)).alloc (.cells #[.bool false, .slice none 0 0, .slice none 0 0] 24)) := by
  obtain ⟨X, Y, g⟩ := nvar_in2 (bx := bx) (cy := cy) h1 h2 h3 h4
  have kz := below_alloc ((w.alloc (.cells #[.bool bx, .slice a1 xn.length c1, .slice a2 xd.length c2] 24)).alloc (.cells #[.bool cy, .slice a3 yn.length c3, .slice a4 yd.length c4] 24)) (.cells #[.bool false, .slice none 0 0, .slice none 0 0] 24)
  have R := rvar_new ((w.alloc (.cells #[.bool bx, .slice a1 xn.length c1, .slice a2 xd.length c2] 24)).alloc (.cells #[.bool cy, .slice a3 yn.length c3, .slice a4 yd.length c4] 24))
  rw [World.size_alloc, World.size_alloc] at R
  exact ⟨X.below kz, Y.below kz, R, g.trans (kz.mono g.size)⟩
theorem sg_bne (b c : Bool) (x y : Int) : sg (!(b == c)) (x * y) = sg b x * sg c y := by
  unfold sg
  cases b <;> cases c <;> simp [Int.neg_mul, Int.mul_neg]

set_option maxRecDepth 100000 in
set_option maxHeartbeats 16000000 in
theorem refTimes_rat (h1 : Rd w.heap.size w (.slice a1 xn.length c1) xn) (h2 : Rd w.heap.size w (.slice a2 xd.length c2) xd) (h3 : Rd w.heap.size w (.slice a3 yn.length c3) yn) (h4 : Rd w.heap.size w (.slice a4 yd.length c4) yd) (hx : Hid (RightP bx xn xd)) (hy : Hid (RightP cy yn yd)) :
    Calls Tryz.prog 27 #[.agg #[.bool bx, .slice a1 xn.length c1, .slice a2 xd.length c2], .agg #[.bool cy, .slice a3 yn.length c3, .slice a4 yd.length c4]] w fun e w' => RMakes w (sg bx (val xn) * sg cy (val yn)) (val xd * val yd) e w' := by
  obtain ⟨X, Y, R, g⟩ := in2_r (bx := bx) (cy := cy) w h1 h2 h3 h4
  have sr : w.heap.size ≤ w.heap.size + 1 + 1 := by omega
  have nx : w.heap.size ≠ w.heap.size + 1 + 1 := by omega
  have ny : w.heap.size + 1 ≠ w.heap.size + 1 + 1 := by omega
  clear h1 h2 h3 h4
  go_enter Tryz.func27, Tryz.ntmps27
  have l1 := hx.out.1
  have l2 := hx.out.2.1
  have l3 := hy.out.1
  have l4 := hy.out.2.1
  go_wp2
  generalize hA : ((w.alloc (.cells #[.bool bx, .slice a1 xn.length c1, .slice a2 xd.length c2] 24)).alloc (.cells #[.bool cy, .slice a3 yn.length c3, .slice a4 yd.length c4] 24)).alloc (.cells #[.bool false, .slice none 0 0, .slice none 0 0] 24) = v at *
  clear hA
  have hcells : ∀ {w' : World}, Below v.heap.size v w' → w'.cell? ⟨w.heap.size, 0, none⟩ = some (.bool bx) ∧ w'.cell? ⟨w.heap.size, 1, none⟩ = some (.slice a1 xn.length c1) ∧ w'.cell? ⟨w.heap.size, 2, none⟩ = some (.slice a2 xd.length c2) ∧ w'.cell? ⟨(w.heap.size + 1), 0, none⟩ = some (.bool cy) ∧ w'.cell? ⟨(w.heap.size + 1), 1, none⟩ = some (.slice a3 yn.length c3) ∧ w'.cell? ⟨(w.heap.size + 1), 2, none⟩ = some (.slice a4 yd.length c4) := fun hb => ⟨(X.below hb).k0, (X.below hb).k1, (X.below hb).k2, (Y.below hb).k0, (Y.below hb).k1, (Y.below hb).k2⟩
  obtain ⟨s0, s1, s2, s3, s4, s5⟩ := hcells (Below.refl _ _)
  go_region_held3 (fun w' => w'.cell? ⟨w.heap.size, 0, none⟩ = some (.bool bx) ∧ w'.cell? ⟨w.heap.size, 1, none⟩ = some (.slice a1 xn.length c1) ∧ w'.cell? ⟨w.heap.size, 2, none⟩ = some (.slice a2 xd.length c2) ∧ w'.cell? ⟨(w.heap.size + 1), 0, none⟩ = some (.bool cy) ∧ w'.cell? ⟨(w.heap.size + 1), 1, none⟩ = some (.slice a3 yn.length c3) ∧ w'.cell? ⟨(w.heap.size + 1), 2, none⟩ = some (.slice a4 yd.length c4))
    (first | (go_keep; done) | exact tw1 | exact tw2 | exact tw3 | exact tws)
    (first
      | (have j := tw2; go_at_call 32; refine (refMake_rat Z ot.rd lz2 lt2 (by rw [HT.out.2]; exact Int.mul_pos (right_pos hx.out).1 (right_pos hy.out).1)).mono ?_; intro e u3 hm6; rw [HZ.out.2, HT.out.2] at hm6; obtain ⟨bm6, b6, x5, n5, y5, x6, n6, y6, err, rfl, hform⟩ := (RMakes.from' t2 hm6).form; have tw3 := hcells bm6; have XF := X.below bm6; have YF := Y.below bm6; have RF := R.below bm6; have tws := And.intro (XF.box.other nx (.bool b6) (.slice x5 n5 y5) (.slice x6 n6 y6)).c0 (And.intro (XF.box.other nx (.bool b6) (.slice x5 n5 y5) (.slice x6 n6 y6)).c1 (And.intro (XF.box.other nx (.bool b6) (.slice x5 n5 y5) (.slice x6 n6 y6)).c2 (And.intro (YF.box.other ny (.bool b6) (.slice x5 n5 y5) (.slice x6 n6 y6)).c0 (And.intro (YF.box.other ny (.bool b6) (.slice x5 n5 y5) (.slice x6 n6 y6)).c1 (YF.box.other ny (.bool b6) (.slice x5 n5 y5) (.slice x6 n6 y6)).c2)))); have q0 := RF.box.c0; have q1 := RF.box.c1; have q2 := RF.box.c2; have p0 := RF.box.f0; have p1 := RF.box.f1; have p2 := RF.box.f2)
      | (have j := tw1; go_at_call_of 33 (Value.slice a2 xd.length c2); refine (refMul_any (X.below t1).rd (Nat.le_refl _) (Y.below t1).rd (Nat.le_refl _) (by omega) (by omega)).mono ?_; rintro e u2 ⟨ts, ct, vt, lt, z3, z4, rfl, ot, j2⟩; have t2 : Below v.heap.size v u2 := t1.trans (j2.mono t1.size); have tw2 := hcells t2; have HT : Hid (can ts ∧ val ts = val xd * val yd) := ⟨ct, vt⟩; clear vt ct; have lt2 : ts.length ≤ 10000 := (by omega); clear lt; have Z := (oz.rd.below j2).mono j2.size)
      | (go_at_call_of 33 (Value.slice a1 xn.length c1); refine (refMul_any (w := v.drew) X.rn (Nat.le_refl _) Y.rn (Nat.le_refl _) (by omega) (by omega)).mono ?_; rintro e u1 ⟨zs, cz, vz, lz, z1, z2, rfl, oz, j1⟩; have t1 : Below v.heap.size v u1 := below_undrew (w := v) (B := v.heap.size) j1; have tw1 := hcells t1; have HZ : Hid (can zs ∧ val zs = val xn * val yn) := ⟨cz, vz⟩; clear vz cz; have lz2 : zs.length ≤ 10000 := (by omega); clear lz))
  all_goals
    go_wp2
    have hR3 := RF.box.set (.bool b6) (.slice x5 n5 y5) (.slice x6 n6 y6)
    have r0 := hR3.c0
    have r1 := hR3.c1
    have r2 := hR3.c2
    refine bodyPost_ret (v := .tuple #[.agg #[.bool b6, .slice x5 n5 y5, .slice x6 n6 y6], .int .i64 err]) (by simp [results, Tryz.results27, go_sem, r0, r1, r2]) rfl ?_
    have hd := rform_done g sr R.lt bm6 hform
    rw [sg_bne] at hd
    exact hd
end
end Go.Proofs.YtonjbpnpknpbeaaGreatDoor

/- The document's Two: the sum of two. -/
namespace Go.Proofs.YtonjbpnpknpbeaaGreatDoor
set_option linter.unusedVariables false
set_option linter.unusedSimpArgs false
open Go.RowKit
section
variable {w : World} {bx cy : Bool} {a1 a2 a3 a4 : Option Addr} {c1 c2 c3 c4 : Nat} {xn xd yn yd : List Int}
set_option maxRecDepth 100000 in
set_option maxHeartbeats 16000000 in
theorem refTwo_rat (h1 : Rd w.heap.size w (.slice a1 xn.length c1) xn) (h2 : Rd w.heap.size w (.slice a2 xd.length c2) xd) (h3 : Rd w.heap.size w (.slice a3 yn.length c3) yn) (h4 : Rd w.heap.size w (.slice a4 yd.length c4) yd) (hx : Hid (RightP bx xn xd)) (hy : Hid (RightP cy yn yd)) :
    Calls Tryz.prog 21 #[.agg #[.bool bx, .slice a1 xn.length c1, .slice a2 xd.length c2], .agg #[.bool cy, .slice a3 yn.length c3, .slice a4 yd.length c4]] w fun e w' => RMakes w (sg bx (val xn) * val yd + sg cy (val yn) * val xd) (val xd * val yd) e w' := by
  obtain ⟨X, Y, R, g⟩ := in2_r (bx := bx) (cy := cy) w h1 h2 h3 h4
  have sr : w.heap.size ≤ w.heap.size + 1 + 1 := by omega
  have nx : w.heap.size ≠ w.heap.size + 1 + 1 := by omega
  have ny : w.heap.size + 1 ≠ w.heap.size + 1 + 1 := by omega
  clear h1 h2 h3 h4
  go_enter Tryz.func21, Tryz.ntmps21
  have l1 := hx.out.1
  have l2 := hx.out.2.1
  have l3 := hy.out.1
  have l4 := hy.out.2.1
  go_wp2
  generalize hA : ((w.alloc (.cells #[.bool bx, .slice a1 xn.length c1, .slice a2 xd.length c2] 24)).alloc (.cells #[.bool cy, .slice a3 yn.length c3, .slice a4 yd.length c4] 24)).alloc (.cells #[.bool false, .slice none 0 0, .slice none 0 0] 24) = v at *
  clear hA
  have hcells : ∀ {w' : World}, Below v.heap.size v w' → w'.cell? ⟨w.heap.size, 0, none⟩ = some (.bool bx) ∧ w'.cell? ⟨w.heap.size, 1, none⟩ = some (.slice a1 xn.length c1) ∧ w'.cell? ⟨w.heap.size, 2, none⟩ = some (.slice a2 xd.length c2) ∧ w'.cell? ⟨(w.heap.size + 1), 0, none⟩ = some (.bool cy) ∧ w'.cell? ⟨(w.heap.size + 1), 1, none⟩ = some (.slice a3 yn.length c3) ∧ w'.cell? ⟨(w.heap.size + 1), 2, none⟩ = some (.slice a4 yd.length c4) := fun hb => ⟨(X.below hb).k0, (X.below hb).k1, (X.below hb).k2, (Y.below hb).k0, (Y.below hb).k1, (Y.below hb).k2⟩
  obtain ⟨s0, s1, s2, s3, s4, s5⟩ := hcells (Below.refl _ _)
  go_region_held3 (fun w' => w'.cell? ⟨w.heap.size, 0, none⟩ = some (.bool bx) ∧ w'.cell? ⟨w.heap.size, 1, none⟩ = some (.slice a1 xn.length c1) ∧ w'.cell? ⟨w.heap.size, 2, none⟩ = some (.slice a2 xd.length c2) ∧ w'.cell? ⟨(w.heap.size + 1), 0, none⟩ = some (.bool cy) ∧ w'.cell? ⟨(w.heap.size + 1), 1, none⟩ = some (.slice a3 yn.length c3) ∧ w'.cell? ⟨(w.heap.size + 1), 2, none⟩ = some (.slice a4 yd.length c4))
    (first | (go_keep; done) | exact tw1 | exact tw2 | exact tw3)
    (first
      | (have j := tw2; go_at_call 42; refine (refSigned_any Z ot.rd 65 lz2 lt2 (by decide) HZ.out.1 HT.out.1).mono ?_; rintro e u3 ⟨j3, ss, z5, z6, bs, rfl, cs, ls, hs, os⟩; have t3 : Below v.heap.size v u3 := t2.trans (j3.mono t2.size); have tw3 := hcells t3; have HS : Hid (sg bs (val ss) = sg bx (val xn) * val yd + sg cy (val yn) * val xd) := (by unfold Hid; rw [hs.out, HZ.out.2, HT.out.2, sg_mul, sg_mul]); clear hs cs)
      | (have j := tw1; go_at_call_of 33 (Value.slice a3 yn.length c3); refine (refMul_any (Y.below t1).rn (Nat.le_refl _) (X.below t1).rd (Nat.le_refl _) (by omega) (by omega)).mono ?_; rintro e u2 ⟨ts, ct, vt, lt, z3, z4, rfl, ot, j2⟩; have t2 : Below v.heap.size v u2 := t1.trans (j2.mono t1.size); have tw2 := hcells t2; have HT : Hid (can ts ∧ val ts = val yn * val xd) := ⟨ct, vt⟩; clear vt ct; have lt2 : ts.length ≤ 65 := (by omega); clear lt; have Z := (oz.rd.below j2).mono j2.size)
      | (go_at_call_of 33 (Value.slice a1 xn.length c1); refine (refMul_any (w := v.drew) X.rn (Nat.le_refl _) Y.rd (Nat.le_refl _) (by omega) (by omega)).mono ?_; rintro e u1 ⟨zs, cz, vz, lz, z1, z2, rfl, oz, j1⟩; have t1 : Below v.heap.size v u1 := below_undrew (w := v) (B := v.heap.size) j1; have tw1 := hcells t1; have HZ : Hid (can zs ∧ val zs = val xn * val yd) := ⟨cz, vz⟩; clear vz cz; have lz2 : zs.length ≤ 65 := (by omega); clear lz))
  have NS := os.rd
  clear hcells s0 s1 s2 s3 s4 s5 tw1 tw2 tw3 Z os oz ot HZ HT j1 j2 j3 t1 t2 lz2 lt2
  replace X := X.below t3
  replace Y := Y.below t3
  replace R := R.below t3
  replace g := g.trans (t3.mono g.size)
  obtain ⟨X0, X1, X2⟩ := X.cells
  obtain ⟨Y0, Y1, Y2⟩ := Y.cells
  clear t3
  go_wp2_with fail
  clear X0 X1 X2 Y0 Y1 Y2
  refine (refMul_any X.rd (Nat.le_refl _) Y.rd (Nat.le_refl _) (by omega) (by omega)).mono ?_
  rintro e u4 ⟨ds, cd, vd, ld, d1, d2, rfl, od, k4⟩
  replace NS := (NS.below k4).mono k4.size
  replace X := X.below k4
  replace Y := Y.below k4
  replace R := R.below k4
  replace g := g.trans (k4.mono g.size)
  clear k4
  have HD : Hid (val ds = val xd * val yd ∧ 0 < val xd * val yd) := ⟨vd, Int.mul_pos (right_pos hx.out).1 (right_pos hy.out).1⟩
  clear vd cd
  go_wp2_with fail
  refine (refMake_rat NS od.rd (by omega) (by omega) (by rw [HD.out.1]; exact HD.out.2)).mono ?_
  intro e u5 hm6
  rw [HS.out, HD.out.1] at hm6
  obtain ⟨bm6, b6, x5, n5, y5, x6, n6, y6, err, rfl, hform⟩ := hm6.form
  have RF := R.below bm6
  have q0 := RF.box.c0
  have q1 := RF.box.c1
  have q2 := RF.box.c2
  have p0 := RF.box.f0
  have p1 := RF.box.f1
  have p2 := RF.box.f2
  go_wp2
  have hR3 := RF.box.set (.bool b6) (.slice x5 n5 y5) (.slice x6 n6 y6)
  have r0 := hR3.c0
  have r1 := hR3.c1
  have r2 := hR3.c2
  refine bodyPost_ret (v := .tuple #[.agg #[.bool b6, .slice x5 n5 y5, .slice x6 n6 y6], .int .i64 err]) (by simp [results, Tryz.results21, go_sem, r0, r1, r2]) rfl ?_
  exact rform_done g sr R.lt bm6 hform
end
end Go.Proofs.YtonjbpnpknpbeaaGreatDoor

/- The document's Sub. -/
namespace Go.Proofs.YtonjbpnpknpbeaaGreatDoor
set_option linter.unusedVariables false
set_option linter.unusedSimpArgs false
open Go.RowKit
section
variable {w : World} {bx cy : Bool} {a1 a2 a3 a4 : Option Addr} {c1 c2 c3 c4 : Nat} {xn xd yn yd : List Int}
set_option maxRecDepth 100000 in
set_option maxHeartbeats 16000000 in
theorem refSub_rat (h1 : Rd w.heap.size w (.slice a1 xn.length c1) xn) (h2 : Rd w.heap.size w (.slice a2 xd.length c2) xd) (h3 : Rd w.heap.size w (.slice a3 yn.length c3) yn) (h4 : Rd w.heap.size w (.slice a4 yd.length c4) yd) :
    Calls Tryz.prog 12 #[.agg #[.bool bx, .slice a1 xn.length c1, .slice a2 xd.length c2], .agg #[.bool cy, .slice a3 yn.length c3, .slice a4 yd.length c4]] w fun e w' => Gives w (RightP bx xn xd ∧ RightP cy yn yd) (sg bx (val xn) * val yd + sg (!cy) (val yn) * val xd) (val xd * val yd) e w' := by
  obtain ⟨X, Y, R, g⟩ := in2_r (bx := bx) (cy := cy) w h1 h2 h3 h4
  have sr : w.heap.size ≤ w.heap.size + 1 + 1 := by omega
  have nx : w.heap.size ≠ w.heap.size + 1 + 1 := by omega
  have ny : w.heap.size + 1 ≠ w.heap.size + 1 + 1 := by omega
  clear h1 h2 h3 h4
  go_enter Tryz.func12, Tryz.ntmps12
  obtain ⟨X0, X1, X2⟩ := X.cells
  go_wp2_with fail
  clear X0 X1 X2
  generalize hA : ((w.alloc (.cells #[.bool bx, .slice a1 xn.length c1, .slice a2 xd.length c2] 24)).alloc (.cells #[.bool cy, .slice a3 yn.length c3, .slice a4 yd.length c4] 24)).alloc (.cells #[.bool false, .slice none 0 0, .slice none 0 0] 24) = v at *
  clear hA
  refine (refRight_rat X.rn X.rd).mono ?_
  rintro e wa ⟨⟨r, rfl, hr⟩, ka⟩
  replace X := X.below ka
  replace Y := Y.below ka
  replace R := R.below ka
  replace g := g.trans (ka.mono g.size)
  clear ka
  cases r with
  | false =>
    have HP : Hid (¬ RightP bx xn xd) := fun h => by have := hr.2 h; cases this
    clear hr
    have q0 := R.box.c0
    have q1 := R.box.c1
    have q2 := R.box.c2
    have p0 := R.box.f0
    have p1 := R.box.f1
    have p2 := R.box.f2
    go_wp2
    have hR3 := R.box.set (.bool false) (.slice none 0 0) (.slice none 0 0)
    have r0 := hR3.c0
    have r1 := hR3.c1
    have r2 := hR3.c2
    refine bodyPost_ret (v := .tuple #[.agg #[.bool false, .slice none 0 0, .slice none 0 0], .int .i64 22]) (by simp [results, Tryz.results12, go_sem, r0, r1, r2]) rfl ?_
    exact gives_err (fun h => HP.out h.1) (Below.set3 g sr _ _ _)
  | true =>
    have hx : Hid (RightP bx xn xd) := hr.1 rfl
    clear hr
    obtain ⟨Y0, Y1, Y2⟩ := Y.cells
    go_wp2_with fail
    clear Y0 Y1 Y2
    refine (refRight_rat Y.rn Y.rd).mono ?_
    rintro e wb ⟨⟨r, rfl, hr⟩, kb⟩
    replace X := X.below kb
    replace Y := Y.below kb
    replace R := R.below kb
    replace g := g.trans (kb.mono g.size)
    clear kb
    cases r with
    | false =>
      have HP : Hid (¬ RightP cy yn yd) := fun h => by have := hr.2 h; cases this
      clear hr
      have q0 := R.box.c0
      have q1 := R.box.c1
      have q2 := R.box.c2
      have p0 := R.box.f0
      have p1 := R.box.f1
      have p2 := R.box.f2
      go_wp2
      have hR3 := R.box.set (.bool false) (.slice none 0 0) (.slice none 0 0)
      have r0 := hR3.c0
      have r1 := hR3.c1
      have r2 := hR3.c2
      refine bodyPost_ret (v := .tuple #[.agg #[.bool false, .slice none 0 0, .slice none 0 0], .int .i64 22]) (by simp [results, Tryz.results12, go_sem, r0, r1, r2]) rfl ?_
      exact gives_err (fun h => HP.out h.2) (Below.set3 g sr _ _ _)
    | true =>
      have hy : Hid (RightP cy yn yd) := hr.1 rfl
      clear hr
      have l1 := hx.out.1
      have l2 := hx.out.2.1
      have l3 := hy.out.1
      have l4 := hy.out.2.1
      have HB := right_with (!cy) hy.out
      go_wp2
      have hcells : ∀ {w' : World}, Below wb.heap.size wb w' → w'.cell? ⟨w.heap.size, 0, none⟩ = some (.bool bx) ∧ w'.cell? ⟨w.heap.size, 1, none⟩ = some (.slice a1 xn.length c1) ∧ w'.cell? ⟨w.heap.size, 2, none⟩ = some (.slice a2 xd.length c2) ∧ w'.cell? ⟨(w.heap.size + 1), 0, none⟩ = some (.bool cy) ∧ w'.cell? ⟨(w.heap.size + 1), 1, none⟩ = some (.slice a3 yn.length c3) ∧ w'.cell? ⟨(w.heap.size + 1), 2, none⟩ = some (.slice a4 yd.length c4) := fun hb => ⟨(X.below hb).k0, (X.below hb).k1, (X.below hb).k2, (Y.below hb).k0, (Y.below hb).k1, (Y.below hb).k2⟩
      obtain ⟨s0, s1, s2, s3, s4, s5⟩ := hcells (Below.refl _ _)
      have m1 : yn.length ≤ 10000 := by omega
      have m2 : yd.length ≤ 10000 := by omega
      have M : Hid (can yn ∧ can yd) := ⟨hy.out.2.2.1, hy.out.2.2.2.1⟩
      go_region_held3 (fun w' => w'.cell? ⟨w.heap.size, 0, none⟩ = some (.bool bx) ∧ w'.cell? ⟨w.heap.size, 1, none⟩ = some (.slice a1 xn.length c1) ∧ w'.cell? ⟨w.heap.size, 2, none⟩ = some (.slice a2 xd.length c2) ∧ w'.cell? ⟨(w.heap.size + 1), 0, none⟩ = some (.bool cy) ∧ w'.cell? ⟨(w.heap.size + 1), 1, none⟩ = some (.slice a3 yn.length c3) ∧ w'.cell? ⟨(w.heap.size + 1), 2, none⟩ = some (.slice a4 yd.length c4))
        (first | (go_keep; done) | exact tw1 | exact tw2 | exact tws)
        (first
          | (have j := tw1; go_at_call 21; refine (refTwo_rat (X.below t1).rn (X.below t1).rd on.rd od.rd hx HB.1).mono ?_; intro e u2 hm6; rw [HB.2] at hm6; obtain ⟨bm6, b6, x5, n5, y5, x6, n6, y6, err, rfl, hform⟩ := (RMakes.from' t1 hm6).form; have tw2 := hcells bm6; have XF := X.below bm6; have YF := Y.below bm6; have RF := R.below bm6; have tws := And.intro (XF.box.other nx (.bool b6) (.slice x5 n5 y5) (.slice x6 n6 y6)).c0 (And.intro (XF.box.other nx (.bool b6) (.slice x5 n5 y5) (.slice x6 n6 y6)).c1 (And.intro (XF.box.other nx (.bool b6) (.slice x5 n5 y5) (.slice x6 n6 y6)).c2 (And.intro (YF.box.other ny (.bool b6) (.slice x5 n5 y5) (.slice x6 n6 y6)).c0 (And.intro (YF.box.other ny (.bool b6) (.slice x5 n5 y5) (.slice x6 n6 y6)).c1 (YF.box.other ny (.bool b6) (.slice x5 n5 y5) (.slice x6 n6 y6)).c2)))); have q0 := RF.box.c0; have q1 := RF.box.c1; have q2 := RF.box.c2; have p0 := RF.box.f0; have p1 := RF.box.f1; have p2 := RF.box.f2)
          | (go_at_call 30; refine (refNeg_num (w := wb.drew) Y.rn Y.rd m1 m2 M).mono ?_; rintro e u1 ⟨j1, z1, y1, z2, y2, rfl, on, od⟩; have t1 : Below wb.heap.size wb u1 := below_undrew (w := wb) (B := wb.heap.size) j1; have tw1 := hcells t1))
      all_goals
        go_wp2
        have hR3 := RF.box.set (.bool b6) (.slice x5 n5 y5) (.slice x6 n6 y6)
        have r0 := hR3.c0
        have r1 := hR3.c1
        have r2 := hR3.c2
        refine bodyPost_ret (v := .tuple #[.agg #[.bool b6, .slice x5 n5 y5, .slice x6 n6 y6], .int .i64 err]) (by simp [results, Tryz.results12, go_sem, r0, r1, r2]) rfl ?_
        exact (rform_done g sr R.lt bm6 hform).gives ⟨hx.out, hy.out⟩
end
end Go.Proofs.YtonjbpnpknpbeaaGreatDoor

/- The document's Div, and rat.Div by 0. -/
namespace Go.Proofs.YtonjbpnpknpbeaaGreatDoor
set_option linter.unusedVariables false
set_option linter.unusedSimpArgs false
open Go.RowKit

/-- What a division by 0 answers. -/
def DivZ (P : Prop) (xn : List Int) (b : Bool) (ns ds : List Int) (err : Int) : Prop :=
  (¬ P ∧ err = 22 ∧ b = false ∧ ns = [] ∧ ds = []) ∨ (P ∧ 0 < xn.length ∧ err = 3 ∧ b = false ∧ ns = [] ∧ ds = []) ∨ (P ∧ xn.length = 0 ∧ err = 0 ∧ b = false ∧ ns = [1] ∧ ds = [1])
theorem DivZ.unique {P : Prop} {xn : List Int} {b c : Bool} {ns ds ms es : List Int} {e f : Int} (h : DivZ P xn b ns ds e) (k : DivZ P xn c ms es f) : c = b ∧ ms = ns ∧ es = ds ∧ f = e := by
  rcases h with ⟨hp, rfl, rfl, rfl, rfl⟩ | ⟨hp, h0, rfl, rfl, rfl, rfl⟩ | ⟨hp, h0, rfl, rfl, rfl, rfl⟩ <;> rcases k with ⟨kp, rfl, rfl, rfl, rfl⟩ | ⟨kp, k0, rfl, rfl, rfl, rfl⟩ | ⟨kp, k0, rfl, rfl, rfl, rfl⟩
  · exact ⟨rfl, rfl, rfl, rfl⟩
  · exact absurd kp hp
  · exact absurd kp hp
  · exact absurd hp kp
  · exact ⟨rfl, rfl, rfl, rfl⟩
  · omega
  · exact absurd hp kp
  · omega
  · exact ⟨rfl, rfl, rfl, rfl⟩
theorem whole_one {b : Bool} {ns ds : List Int} (h : WholeIs 1 b ns ds) : b = false ∧ ns = [1] ∧ ds = [1] := by
  obtain ⟨hb, cn, vn, _, hd⟩ := h
  exact ⟨hb, can_inj cn can_one (by rw [vn, one_val]; rfl), hd⟩

section
variable {w : World} {bx cy : Bool} {a1 a2 a3 a4 : Option Addr} {c1 c2 c3 c4 : Nat} {xn xd yn yd : List Int}
set_option maxRecDepth 100000 in
set_option maxHeartbeats 16000000 in
theorem refDiv_nz (h1 : Rd w.heap.size w (.slice a1 xn.length c1) xn) (h2 : Rd w.heap.size w (.slice a2 xd.length c2) xd) (h3 : Rd w.heap.size w (.slice a3 yn.length c3) yn) (h4 : Rd w.heap.size w (.slice a4 yd.length c4) yd) (h0 : 0 < yn.length) :
    Calls Tryz.prog 14 #[.agg #[.bool bx, .slice a1 xn.length c1, .slice a2 xd.length c2], .agg #[.bool cy, .slice a3 yn.length c3, .slice a4 yd.length c4]] w fun e w' => Gives w (RightP bx xn xd ∧ RightP cy yn yd) (sg bx (val xn) * sg cy (val yd)) (val xd * val yn) e w' := by
  obtain ⟨X, Y, R, g⟩ := in2_r (bx := bx) (cy := cy) w h1 h2 h3 h4
  have sr : w.heap.size ≤ w.heap.size + 1 + 1 := by omega
  have nx : w.heap.size ≠ w.heap.size + 1 + 1 := by omega
  have ny : w.heap.size + 1 ≠ w.heap.size + 1 + 1 := by omega
  clear h1 h2 h3 h4
  go_enter Tryz.func14, Tryz.ntmps14
  obtain ⟨X0, X1, X2⟩ := X.cells
  go_wp2_with fail
  clear X0 X1 X2
  generalize hA : ((w.alloc (.cells #[.bool bx, .slice a1 xn.length c1, .slice a2 xd.length c2] 24)).alloc (.cells #[.bool cy, .slice a3 yn.length c3, .slice a4 yd.length c4] 24)).alloc (.cells #[.bool false, .slice none 0 0, .slice none 0 0] 24) = v at *
  clear hA
  refine (refRight_rat X.rn X.rd).mono ?_
  rintro e wa ⟨⟨r, rfl, hr⟩, ka⟩
  replace X := X.below ka
  replace Y := Y.below ka
  replace R := R.below ka
  replace g := g.trans (ka.mono g.size)
  clear ka
  cases r with
  | false =>
    have HP : Hid (¬ RightP bx xn xd) := fun h => by have := hr.2 h; cases this
    clear hr
    have q0 := R.box.c0
    have q1 := R.box.c1
    have q2 := R.box.c2
    have p0 := R.box.f0
    have p1 := R.box.f1
    have p2 := R.box.f2
    go_wp2
    have hR3 := R.box.set (.bool false) (.slice none 0 0) (.slice none 0 0)
    have r0 := hR3.c0
    have r1 := hR3.c1
    have r2 := hR3.c2
    refine bodyPost_ret (v := .tuple #[.agg #[.bool false, .slice none 0 0, .slice none 0 0], .int .i64 22]) (by simp [results, Tryz.results14, go_sem, r0, r1, r2]) rfl ?_
    exact gives_err (fun h => HP.out h.1) (Below.set3 g sr _ _ _)
  | true =>
    have hx : Hid (RightP bx xn xd) := hr.1 rfl
    clear hr
    obtain ⟨Y0, Y1, Y2⟩ := Y.cells
    go_wp2_with fail
    clear Y0 Y1 Y2
    refine (refRight_rat Y.rn Y.rd).mono ?_
    rintro e wb ⟨⟨r, rfl, hr⟩, kb⟩
    replace X := X.below kb
    replace Y := Y.below kb
    replace R := R.below kb
    replace g := g.trans (kb.mono g.size)
    clear kb
    cases r with
    | false =>
      have HP : Hid (¬ RightP cy yn yd) := fun h => by have := hr.2 h; cases this
      clear hr
      have q0 := R.box.c0
      have q1 := R.box.c1
      have q2 := R.box.c2
      have p0 := R.box.f0
      have p1 := R.box.f1
      have p2 := R.box.f2
      go_wp2
      have hR3 := R.box.set (.bool false) (.slice none 0 0) (.slice none 0 0)
      have r0 := hR3.c0
      have r1 := hR3.c1
      have r2 := hR3.c2
      refine bodyPost_ret (v := .tuple #[.agg #[.bool false, .slice none 0 0, .slice none 0 0], .int .i64 22]) (by simp [results, Tryz.results14, go_sem, r0, r1, r2]) rfl ?_
      exact gives_err (fun h => HP.out h.2) (Below.set3 g sr _ _ _)
    | true =>
      have hy : Hid (RightP cy yn yd) := hr.1 rfl
      clear hr
      have l1 := hx.out.1
      have l2 := hx.out.2.1
      have l3 := hy.out.1
      have l4 := hy.out.2.1
      have hb0 : ((yn.length : Int) == 0) = false := by rw [beq_eq_false_iff_ne]; omega
      have HY0 : Hid (0 < val yn) := by
        have h5 := can_zero hy.out.2.2.1
        have h6 := (right_pos hy.out).2
        have h7 : ¬ val yn = 0 := fun e => by have := h5.2 e; omega
        unfold Hid; omega
      obtain ⟨X0, X1, X2⟩ := X.cells
      obtain ⟨Y0, Y1, Y2⟩ := Y.cells
      go_wp2
      clear X0 X1 X2 Y0 Y1 Y2
      have hcells : ∀ {w' : World}, Below wb.heap.size wb w' → w'.cell? ⟨w.heap.size, 0, none⟩ = some (.bool bx) ∧ w'.cell? ⟨w.heap.size, 1, none⟩ = some (.slice a1 xn.length c1) ∧ w'.cell? ⟨w.heap.size, 2, none⟩ = some (.slice a2 xd.length c2) ∧ w'.cell? ⟨(w.heap.size + 1), 0, none⟩ = some (.bool cy) ∧ w'.cell? ⟨(w.heap.size + 1), 1, none⟩ = some (.slice a3 yn.length c3) ∧ w'.cell? ⟨(w.heap.size + 1), 2, none⟩ = some (.slice a4 yd.length c4) := fun hb => ⟨(X.below hb).k0, (X.below hb).k1, (X.below hb).k2, (Y.below hb).k0, (Y.below hb).k1, (Y.below hb).k2⟩
      obtain ⟨s0, s1, s2, s3, s4, s5⟩ := hcells (Below.refl _ _)
      go_region_held3 (fun w' => w'.cell? ⟨w.heap.size, 0, none⟩ = some (.bool bx) ∧ w'.cell? ⟨w.heap.size, 1, none⟩ = some (.slice a1 xn.length c1) ∧ w'.cell? ⟨w.heap.size, 2, none⟩ = some (.slice a2 xd.length c2) ∧ w'.cell? ⟨(w.heap.size + 1), 0, none⟩ = some (.bool cy) ∧ w'.cell? ⟨(w.heap.size + 1), 1, none⟩ = some (.slice a3 yn.length c3) ∧ w'.cell? ⟨(w.heap.size + 1), 2, none⟩ = some (.slice a4 yd.length c4))
        (first | (go_keep; done) | exact tw1 | exact tw2 | exact tw3 | exact tws)
        (first
          | (have j := tw2; go_at_call 32; refine (refMake_rat Z ot.rd lz2 lt2 (by rw [HT.out.2]; exact Int.mul_pos (right_pos hx.out).1 HY0.out)).mono ?_; intro e u3 hm6; rw [HZ.out.2, HT.out.2] at hm6; obtain ⟨bm6, b6, x5, n5, y5, x6, n6, y6, err, rfl, hform⟩ := (RMakes.from' t2 hm6).form; have tw3 := hcells bm6; have XF := X.below bm6; have YF := Y.below bm6; have RF := R.below bm6; have tws := And.intro (XF.box.other nx (.bool b6) (.slice x5 n5 y5) (.slice x6 n6 y6)).c0 (And.intro (XF.box.other nx (.bool b6) (.slice x5 n5 y5) (.slice x6 n6 y6)).c1 (And.intro (XF.box.other nx (.bool b6) (.slice x5 n5 y5) (.slice x6 n6 y6)).c2 (And.intro (YF.box.other ny (.bool b6) (.slice x5 n5 y5) (.slice x6 n6 y6)).c0 (And.intro (YF.box.other ny (.bool b6) (.slice x5 n5 y5) (.slice x6 n6 y6)).c1 (YF.box.other ny (.bool b6) (.slice x5 n5 y5) (.slice x6 n6 y6)).c2)))); have q0 := RF.box.c0; have q1 := RF.box.c1; have q2 := RF.box.c2; have p0 := RF.box.f0; have p1 := RF.box.f1; have p2 := RF.box.f2)
          | (have j := tw1; go_at_call_of 33 (Value.slice a2 xd.length c2); refine (refMul_any (X.below t1).rd (Nat.le_refl _) (Y.below t1).rn (Nat.le_refl _) (by omega) (by omega)).mono ?_; rintro e u2 ⟨ts, ct, vt, lt, z3, z4, rfl, ot, j2⟩; have t2 : Below wb.heap.size wb u2 := t1.trans (j2.mono t1.size); have tw2 := hcells t2; have HT : Hid (can ts ∧ val ts = val xd * val yn) := ⟨ct, vt⟩; clear vt ct; have lt2 : ts.length ≤ 10000 := (by omega); clear lt; have Z := (oz.rd.below j2).mono j2.size)
          | (go_at_call_of 33 (Value.slice a1 xn.length c1); refine (refMul_any (w := wb.drew) X.rn (Nat.le_refl _) Y.rd (Nat.le_refl _) (by omega) (by omega)).mono ?_; rintro e u1 ⟨zs, cz, vz, lz, z1, z2, rfl, oz, j1⟩; have t1 : Below wb.heap.size wb u1 := below_undrew (w := wb) (B := wb.heap.size) j1; have tw1 := hcells t1; have HZ : Hid (can zs ∧ val zs = val xn * val yd) := ⟨cz, vz⟩; clear vz cz; have lz2 : zs.length ≤ 10000 := (by omega); clear lz))
      all_goals
        go_wp2
        have hR3 := RF.box.set (.bool b6) (.slice x5 n5 y5) (.slice x6 n6 y6)
        have r0 := hR3.c0
        have r1 := hR3.c1
        have r2 := hR3.c2
        refine bodyPost_ret (v := .tuple #[.agg #[.bool b6, .slice x5 n5 y5, .slice x6 n6 y6], .int .i64 err]) (by simp [results, Tryz.results14, go_sem, r0, r1, r2]) rfl ?_
        have hd := rform_done g sr R.lt bm6 hform
        rw [sg_bne] at hd
        exact hd.gives ⟨hx.out, hy.out⟩
set_option maxRecDepth 100000 in
set_option maxHeartbeats 16000000 in
theorem refDiv_z (h1 : Rd w.heap.size w (.slice a1 xn.length c1) xn) (h2 : Rd w.heap.size w (.slice a2 xd.length c2) xd) (h3 : Rd w.heap.size w (.slice a3 yn.length c3) yn) (h4 : Rd w.heap.size w (.slice a4 yd.length c4) yd) (h0 : yn.length = 0) :
    Calls Tryz.prog 14 #[.agg #[.bool bx, .slice a1 xn.length c1, .slice a2 xd.length c2], .agg #[.bool cy, .slice a3 yn.length c3, .slice a4 yd.length c4]] w fun e w' => ∃ b ns ds err, Hid (DivZ (RightP bx xn xd ∧ RightP cy yn yd) xn b ns ds err) ∧ RAns w b ns ds err e w' := by
  have hb0 : ((yn.length : Int) == 0) = true := by rw [beq_iff_eq]; omega
  clear h0
  obtain ⟨X, Y, R, g⟩ := in2_r (bx := bx) (cy := cy) w h1 h2 h3 h4
  have sr : w.heap.size ≤ w.heap.size + 1 + 1 := by omega
  have nx : w.heap.size ≠ w.heap.size + 1 + 1 := by omega
  have ny : w.heap.size + 1 ≠ w.heap.size + 1 + 1 := by omega
  clear h1 h2 h3 h4
  go_enter Tryz.func14, Tryz.ntmps14
  obtain ⟨X0, X1, X2⟩ := X.cells
  go_wp2_with fail
  clear X0 X1 X2
  generalize hA : ((w.alloc (.cells #[.bool bx, .slice a1 xn.length c1, .slice a2 xd.length c2] 24)).alloc (.cells #[.bool cy, .slice a3 yn.length c3, .slice a4 yd.length c4] 24)).alloc (.cells #[.bool false, .slice none 0 0, .slice none 0 0] 24) = v at *
  clear hA
  refine (refRight_rat X.rn X.rd).mono ?_
  rintro e wa ⟨⟨r, rfl, hr⟩, ka⟩
  replace X := X.below ka
  replace Y := Y.below ka
  replace R := R.below ka
  replace g := g.trans (ka.mono g.size)
  clear ka
  cases r with
  | false =>
    have HP : Hid (¬ RightP bx xn xd) := fun h => by have := hr.2 h; cases this
    clear hr
    have q0 := R.box.c0
    have q1 := R.box.c1
    have q2 := R.box.c2
    have p0 := R.box.f0
    have p1 := R.box.f1
    have p2 := R.box.f2
    go_wp2
    have hR3 := R.box.set (.bool false) (.slice none 0 0) (.slice none 0 0)
    have r0 := hR3.c0
    have r1 := hR3.c1
    have r2 := hR3.c2
    refine bodyPost_ret (v := .tuple #[.agg #[.bool false, .slice none 0 0, .slice none 0 0], .int .i64 22]) (by simp [results, Tryz.results14, go_sem, r0, r1, r2]) rfl ?_
    exact ⟨false, [], [], 22, Or.inl ⟨fun h => HP.out h.1, rfl, rfl, rfl, rfl⟩, Below.set3 g sr _ _ _, none, 0, none, 0, rfl, nil_rd _, nil_rd _⟩
  | true =>
    have hx : Hid (RightP bx xn xd) := hr.1 rfl
    clear hr
    obtain ⟨Y0, Y1, Y2⟩ := Y.cells
    go_wp2_with fail
    clear Y0 Y1 Y2
    refine (refRight_rat Y.rn Y.rd).mono ?_
    rintro e wb ⟨⟨r, rfl, hr⟩, kb⟩
    replace X := X.below kb
    replace Y := Y.below kb
    replace R := R.below kb
    replace g := g.trans (kb.mono g.size)
    clear kb
    cases r with
    | false =>
      have HP : Hid (¬ RightP cy yn yd) := fun h => by have := hr.2 h; cases this
      clear hr
      have q0 := R.box.c0
      have q1 := R.box.c1
      have q2 := R.box.c2
      have p0 := R.box.f0
      have p1 := R.box.f1
      have p2 := R.box.f2
      go_wp2
      have hR3 := R.box.set (.bool false) (.slice none 0 0) (.slice none 0 0)
      have r0 := hR3.c0
      have r1 := hR3.c1
      have r2 := hR3.c2
      refine bodyPost_ret (v := .tuple #[.agg #[.bool false, .slice none 0 0, .slice none 0 0], .int .i64 22]) (by simp [results, Tryz.results14, go_sem, r0, r1, r2]) rfl ?_
      exact ⟨false, [], [], 22, Or.inl ⟨fun h => HP.out h.2, rfl, rfl, rfl, rfl⟩, Below.set3 g sr _ _ _, none, 0, none, 0, rfl, nil_rd _, nil_rd _⟩
    | true =>
      have hy : Hid (RightP cy yn yd) := hr.1 rfl
      clear hr
      have l1 := hx.out.1
      have l2 := hx.out.2.1
      have l3 := hy.out.1
      have l4 := hy.out.2.1
      by_cases hx0 : xn.length = 0
      · have hx1 : ((xn.length : Int) == 0) = true := by rw [beq_iff_eq]; omega
        obtain ⟨X0, X1, X2⟩ := X.cells
        obtain ⟨Y0, Y1, Y2⟩ := Y.cells
        go_wp2_with fail
        clear X0 X1 X2 Y0 Y1 Y2
        refine (refOfInt_any 1 (by decide) (by decide) _).mono ?_
        rintro e wc ⟨k9, bo, os, od, o1, o2, o3, o4, HO, rfl, oo, oe⟩
        have R9 := R
        replace X := X.below k9
        replace Y := Y.below k9
        replace R := R.below k9
        replace g := g.trans (k9.mono g.size)
        have q0 := R.box.c0
        have q1 := R.box.c1
        have q2 := R.box.c2
        have p0 := R.box.f0
        have p1 := R.box.f1
        have p2 := R.box.f2
        go_wp2
        have hR3 := R.box.set (.bool bo) (.slice o1 os.length o2) (.slice o3 od.length o4)
        have r0 := hR3.c0
        have r1 := hR3.c1
        have r2 := hR3.c2
        refine bodyPost_ret (v := .tuple #[.agg #[.bool bo, .slice o1 os.length o2, .slice o3 od.length o4], .int .i64 0]) (by simp [results, Tryz.results14, go_sem, r0, r1, r2]) rfl ?_
        obtain ⟨e1, e2, e3⟩ := whole_one HO.out
        exact ⟨bo, os, od, 0, Or.inr (Or.inr ⟨⟨hx.out, hy.out⟩, hx0, rfl, e1, e2, e3⟩), Below.set3 g sr _ _ _, o1, o2, o3, o4, rfl, (Own.set3 oo R9.lt _ _ _).rd, (Own.set3 oe R9.lt _ _ _).rd⟩
      · have hx1 : ((xn.length : Int) == 0) = false := by rw [beq_eq_false_iff_ne]; omega
        obtain ⟨X0, X1, X2⟩ := X.cells
        obtain ⟨Y0, Y1, Y2⟩ := Y.cells
        have q0 := R.box.c0
        have q1 := R.box.c1
        have q2 := R.box.c2
        have p0 := R.box.f0
        have p1 := R.box.f1
        have p2 := R.box.f2
        go_wp2
        have hR3 := R.box.set (.bool false) (.slice none 0 0) (.slice none 0 0)
        have r0 := hR3.c0
        have r1 := hR3.c1
        have r2 := hR3.c2
        refine bodyPost_ret (v := .tuple #[.agg #[.bool false, .slice none 0 0, .slice none 0 0], .int .i64 3]) (by simp [results, Tryz.results14, go_sem, r0, r1, r2]) rfl ?_
        exact ⟨false, [], [], 3, Or.inr (Or.inl ⟨⟨hx.out, hy.out⟩, by omega, rfl, rfl, rfl, rfl⟩), Below.set3 g sr _ _ _, none, 0, none, 0, rfl, nil_rd _, nil_rd _⟩
end
end Go.Proofs.YtonjbpnpknpbeaaGreatDoor

/- rat.Div by 0. -/
namespace Go.Proofs.YtonjbpnpknpbeaaGreatDoor
set_option linter.unusedVariables false
set_option linter.unusedSimpArgs false
open Go.RowKit
section
variable {w : World} {bx cy : Bool} {a1 a2 a3 a4 : Option Addr} {c1 c2 c3 c4 : Nat} {xn xd yn yd : List Int}
set_option maxRecDepth 100000 in
set_option maxHeartbeats 16000000 in
theorem div_z (h1 : Rd w.heap.size w (.slice a1 xn.length c1) xn) (h2 : Rd w.heap.size w (.slice a2 xd.length c2) xd) (h3 : Rd w.heap.size w (.slice a3 yn.length c3) yn) (h4 : Rd w.heap.size w (.slice a4 yd.length c4) yd) (h0 : yn.length = 0) :
    Calls Tryz.prog 13 #[.agg #[.bool bx, .slice a1 xn.length c1, .slice a2 xd.length c2], .agg #[.bool cy, .slice a3 yn.length c3, .slice a4 yd.length c4]] w fun e w' => ∃ b ns ds err, Hid (DivZ (RightP bx xn xd ∧ RightP cy yn yd) xn b ns ds err) ∧ RAns w b ns ds err e w' := by
  have I := in2_new w (.bool bx) (.slice a1 xn.length c1) (.slice a2 xd.length c2) (.bool cy) (.slice a3 yn.length c3) (.slice a4 yd.length c4)
  have hb0 : decide ((yn.length : Int) > 0) = false := decide_eq_false (by omega)
  have hb1 : decide ((0 : Int) < yn.length) = false := decide_eq_false (by omega)
  have hb2 : decide (0 < yn.length) = false := decide_eq_false (by omega)
  clear h0
  go_enter Tryz.func13, Tryz.ntmps13
  go_wp2_with fail
  generalize hA : ((((w.alloc (.cells #[.bool bx, .slice a1 xn.length c1, .slice a2 xd.length c2] 24)).alloc (.cells #[.bool cy, .slice a3 yn.length c3, .slice a4 yd.length c4] 24)).alloc (.cells #[.bool false, .slice none 0 0, .slice none 0 0] 24)).alloc (.cells #[.bool bx, .slice a1 xn.length c1, .slice a2 xd.length c2, .bool cy, .slice a3 yn.length c3, .slice a4 yd.length c4] 24)) = v0 at *
  clear hA
  obtain ⟨hX, hY, hR, hT, g, s0⟩ := I
  have X : NVar v0 w.heap.size bx a1 xn c1 a2 xd c2 := ⟨by omega, hX, (h1.below g).mono g.size, (h2.below g).mono g.size⟩
  have Y : NVar v0 (w.heap.size + 1) cy a3 yn c3 a4 yd c4 := ⟨by omega, hY, (h3.below g).mono g.size, (h4.below g).mono g.size⟩
  have R : RVar v0 (w.heap.size + 1 + 1) := ⟨by omega, hR⟩
  have sr : w.heap.size ≤ w.heap.size + 1 + 1 := by omega
  clear hX hY hR h1 h2 h3 h4 s0
  refine (allRight2 hT X.rn X.rd Y.rn Y.rd (Nat.le_refl _)).mono ?_
  rintro e w0 ⟨⟨r, rfl, hr⟩, k0⟩
  replace X := X.below k0
  replace Y := Y.below k0
  replace R := R.below k0
  replace g := g.trans (k0.mono g.size)
  clear hT k0
  cases r with
  | false =>
    have HP : Hid (¬ (RightP bx xn xd ∧ RightP cy yn yd)) := fun h => by have := hr.2 h; cases this
    clear hr
    have q0 := R.box.c0
    have q1 := R.box.c1
    have q2 := R.box.c2
    have p0 := R.box.f0
    have p1 := R.box.f1
    have p2 := R.box.f2
    go_wp2
    have hR3 := R.box.set (.bool false) (.slice none 0 0) (.slice none 0 0)
    have r0 := hR3.c0
    have r1 := hR3.c1
    have r2 := hR3.c2
    refine bodyPost_ret (v := .tuple #[.agg #[.bool false, .slice none 0 0, .slice none 0 0], .int .i64 22]) (by simp [results, Tryz.results13, go_sem, r0, r1, r2]) rfl ?_
    exact ⟨false, [], [], 22, Or.inl ⟨HP.out, rfl, rfl, rfl, rfl⟩, Below.set3 g sr _ _ _, none, 0, none, 0, rfl, nil_rd _, nil_rd _⟩
  | true =>
    have HP : Hid (RightP bx xn xd ∧ RightP cy yn yd) := hr.1 rfl
    clear hr
    by_cases hx0 : xn.length = 0
    · have hx1 : decide ((xn.length : Int) > 0) = false := decide_eq_false (by omega)
      have hx2 : decide ((0 : Int) < xn.length) = false := decide_eq_false (by omega)
      have hx3 : decide (0 < xn.length) = false := decide_eq_false (by omega)
      have HX0 : Hid (xn.length = 0) := hx0
      clear hx0
      obtain ⟨X0, X1, X2⟩ := X.cells
      obtain ⟨Y0, Y1, Y2⟩ := Y.cells
      go_wp2_with fail
      clear X0 X1 X2 Y0 Y1 Y2
      refine (ofInt_any 1 (by decide) (by decide) _).mono ?_
      rintro e wc ⟨k9, bo, os, od, o1, o2, o3, o4, HO, rfl, oo, oe⟩
      have R9 := R
      replace X := X.below k9
      replace Y := Y.below k9
      replace R := R.below k9
      replace g := g.trans (k9.mono g.size)
      have q0 := R.box.c0
      have q1 := R.box.c1
      have q2 := R.box.c2
      have p0 := R.box.f0
      have p1 := R.box.f1
      have p2 := R.box.f2
      go_wp2
      have hR3 := R.box.set (.bool bo) (.slice o1 os.length o2) (.slice o3 od.length o4)
      have r0 := hR3.c0
      have r1 := hR3.c1
      have r2 := hR3.c2
      refine bodyPost_ret (v := .tuple #[.agg #[.bool bo, .slice o1 os.length o2, .slice o3 od.length o4], .int .i64 0]) (by simp [results, Tryz.results13, go_sem, r0, r1, r2]) rfl ?_
      obtain ⟨e1, e2, e3⟩ := whole_one HO.out
      exact ⟨bo, os, od, 0, Or.inr (Or.inr ⟨HP.out, HX0.out, rfl, e1, e2, e3⟩), Below.set3 g sr _ _ _, o1, o2, o3, o4, rfl, (Own.set3 oo R9.lt _ _ _).rd, (Own.set3 oe R9.lt _ _ _).rd⟩
    · have hx1 : decide ((xn.length : Int) > 0) = true := decide_eq_true (by omega)
      have hx2 : decide ((0 : Int) < xn.length) = true := decide_eq_true (by omega)
      have hx3 : decide (0 < xn.length) = true := decide_eq_true (by omega)
      obtain ⟨X0, X1, X2⟩ := X.cells
      obtain ⟨Y0, Y1, Y2⟩ := Y.cells
      have q0 := R.box.c0
      have q1 := R.box.c1
      have q2 := R.box.c2
      have p0 := R.box.f0
      have p1 := R.box.f1
      have p2 := R.box.f2
      go_wp2
      have hR3 := R.box.set (.bool false) (.slice none 0 0) (.slice none 0 0)
      have r0 := hR3.c0
      have r1 := hR3.c1
      have r2 := hR3.c2
      refine bodyPost_ret (v := .tuple #[.agg #[.bool false, .slice none 0 0, .slice none 0 0], .int .i64 3]) (by simp [results, Tryz.results13, go_sem, r0, r1, r2]) rfl ?_
      exact ⟨false, [], [], 3, Or.inr (Or.inl ⟨HP.out, by omega, rfl, rfl, rfl, rfl⟩), Below.set3 g sr _ _ _, none, 0, none, 0, rfl, nil_rd _, nil_rd _⟩
end
end Go.Proofs.YtonjbpnpknpbeaaGreatDoor

/- Variables that are only read; what a quotient answers. -/
namespace Go.Proofs.YtonjbpnpknpbeaaGreatDoor
set_option linter.unusedVariables false
set_option linter.unusedSimpArgs false
open Go.RowKit

/-- A variable that is only read from here on. -/
structure KVar (w : World) (k : Nat) (b : Bool) (a1 : Option Addr) (ns : List Int) (c1 : Nat) (a2 : Option Addr) (ds : List Int) (c2 : Nat) : Prop where
  lt : k < w.heap.size
  k0 : w.cell? ⟨k, 0, none⟩ = some (.bool b)
  k1 : w.cell? ⟨k, 1, none⟩ = some (.slice a1 ns.length c1)
  k2 : w.cell? ⟨k, 2, none⟩ = some (.slice a2 ds.length c2)
  rn : Rd w.heap.size w (.slice a1 ns.length c1) ns
  rd : Rd w.heap.size w (.slice a2 ds.length c2) ds

section
variable {w : World} {b c : Bool} {x1 x2 x3 x4 : Option Addr} {y1 y2 y3 y4 k j : Nat} {xn xd yn yd : List Int}
theorem KVar.below {w' : World} (h : KVar w k b x1 xn y1 x2 xd y2) (hb : Below w.heap.size w w') : KVar w' k b x1 xn y1 x2 xd y2 :=
  ⟨Nat.lt_of_lt_of_le h.lt hb.size, (hb.cell (p := ⟨k, 0, none⟩) h.lt).trans h.k0, (hb.cell (p := ⟨k, 1, none⟩) h.lt).trans h.k1, (hb.cell (p := ⟨k, 2, none⟩) h.lt).trans h.k2, (h.rn.below hb).mono hb.size, (h.rd.below hb).mono hb.size⟩
theorem NVar.kvar (h : NVar w k b x1 xn y1 x2 xd y2) : KVar w k b x1 xn y1 x2 xd y2 := ⟨h.lt, h.k0, h.k1, h.k2, h.rn, h.rd⟩
theorem KVar.cells (h : KVar w k b x1 xn y1 x2 xd y2) : w.cell? ⟨k, 0, none⟩ = some (.bool b) ∧ w.cell? ⟨k, 1, none⟩ = some (.slice x1 xn.length y1) ∧ w.cell? ⟨k, 2, none⟩ = some (.slice x2 xd.length y2) := ⟨h.k0, h.k1, h.k2⟩
theorem KVar.other {P1 P2 : Option Addr} {n1 n2 m1 m2 ty : Nat} (h : KVar w k b x1 xn y1 x2 xd y2) (P : Box3 w j ty (.bool c) (.slice P1 n1 m1) (.slice P2 n2 m2)) (hne : k ≠ j) (x y z : Value) : KVar (((w.setCell ⟨j, 0, none⟩ x).setCell ⟨j, 1, none⟩ y).setCell ⟨j, 2, none⟩ z) k b x1 xn y1 x2 xd y2 := by
  refine ⟨by simpa [World.setCell] using h.lt, ?_, ?_, ?_, h.rn.put' P _ _ _, h.rd.put' P _ _ _⟩
  · rw [cell_set3 hne]; exact h.k0
  · rw [cell_set3 hne]; exact h.k1
  · rw [cell_set3 hne]; exact h.k2
theorem KVar.by' (h : KVar w k b x1 xn y1 x2 xd y2) (P : NVar w j c x3 yn y3 x4 yd y4) (hne : k ≠ j) (x y z : Value) : KVar (((w.setCell ⟨j, 0, none⟩ x).setCell ⟨j, 1, none⟩ y).setCell ⟨j, 2, none⟩ z) k b x1 xn y1 x2 xd y2 := h.other P.box hne x y z
theorem RVar.nvar (h : RVar w k) : NVar w k false none [] 0 none [] 0 := ⟨h.lt, h.box, nil_rd _, nil_rd _⟩
theorem kv_old_old (V : RVar w k) (U : RVar w j) (hne : k ≠ j) (r1 : Rd w.heap.size w (.slice x1 xn.length y1) xn) (r2 : Rd w.heap.size w (.slice x2 xd.length y2) xd) (r3 : Rd w.heap.size w (.slice x3 yn.length y3) yn) (r4 : Rd w.heap.size w (.slice x4 yd.length y4) yd) :
    KVar ((((((w.setCell ⟨k, 0, none⟩ (.bool b)).setCell ⟨k, 1, none⟩ (.slice x1 xn.length y1)).setCell ⟨k, 2, none⟩ (.slice x2 xd.length y2)).setCell ⟨j, 0, none⟩ (.bool c)).setCell ⟨j, 1, none⟩ (.slice x3 yn.length y3)).setCell ⟨j, 2, none⟩ (.slice x4 yd.length y4)) k b x1 xn y1 x2 xd y2 ∧ KVar ((((((w.setCell ⟨k, 0, none⟩ (.bool b)).setCell ⟨k, 1, none⟩ (.slice x1 xn.length y1)).setCell ⟨k, 2, none⟩ (.slice x2 xd.length y2)).setCell ⟨j, 0, none⟩ (.bool c)).setCell ⟨j, 1, none⟩ (.slice x3 yn.length y3)).setCell ⟨j, 2, none⟩ (.slice x4 yd.length y4)) j c x3 yn y3 x4 yd y4 := by
  have A := V.nvar.put (c := b) r1 r2
  have B := U.nvar.by' V.nvar (fun h => hne h.symm) (.bool b) (.slice x1 xn.length y1) (.slice x2 xd.length y2)
  exact ⟨A.kvar.other B.box hne _ _ _, (B.put (c := c) (r3.put' V.box _ _ _) (r4.put' V.box _ _ _)).kvar⟩
theorem kv_new_old (U : RVar w j) (r1 : Rd w.heap.size w (.slice x1 xn.length y1) xn) (r2 : Rd w.heap.size w (.slice x2 xd.length y2) xd) (r3 : Rd w.heap.size w (.slice x3 yn.length y3) yn) (r4 : Rd w.heap.size w (.slice x4 yd.length y4) yd) :
    KVar ((((w.alloc (.cells #[.bool b, .slice x1 xn.length y1, .slice x2 xd.length y2] 24)).setCell ⟨j, 0, none⟩ (.bool c)).setCell ⟨j, 1, none⟩ (.slice x3 yn.length y3)).setCell ⟨j, 2, none⟩ (.slice x4 yd.length y4)) w.heap.size b x1 xn y1 x2 xd y2 ∧ KVar ((((w.alloc (.cells #[.bool b, .slice x1 xn.length y1, .slice x2 xd.length y2] 24)).setCell ⟨j, 0, none⟩ (.bool c)).setCell ⟨j, 1, none⟩ (.slice x3 yn.length y3)).setCell ⟨j, 2, none⟩ (.slice x4 yd.length y4)) j c x3 yn y3 x4 yd y4 := by
  have A := nvar_new (b := b) r1 r2
  have ka := below_alloc w (.cells #[.bool b, .slice x1 xn.length y1, .slice x2 xd.length y2] 24)
  have B := U.below ka
  exact ⟨A.kvar.other B.box (fun h => by have := U.lt; omega) _ _ _, (B.nvar.put (c := c) ((r3.below ka).mono ka.size) ((r4.below ka).mono ka.size)).kvar⟩
theorem kv_old_new (V : RVar w k) (r1 : Rd w.heap.size w (.slice x1 xn.length y1) xn) (r2 : Rd w.heap.size w (.slice x2 xd.length y2) xd) (r3 : Rd w.heap.size w (.slice x3 yn.length y3) yn) (r4 : Rd w.heap.size w (.slice x4 yd.length y4) yd) :
    KVar ((((w.setCell ⟨k, 0, none⟩ (.bool b)).setCell ⟨k, 1, none⟩ (.slice x1 xn.length y1)).setCell ⟨k, 2, none⟩ (.slice x2 xd.length y2)).alloc (.cells #[.bool c, .slice x3 yn.length y3, .slice x4 yd.length y4] 24)) k b x1 xn y1 x2 xd y2 ∧ KVar ((((w.setCell ⟨k, 0, none⟩ (.bool b)).setCell ⟨k, 1, none⟩ (.slice x1 xn.length y1)).setCell ⟨k, 2, none⟩ (.slice x2 xd.length y2)).alloc (.cells #[.bool c, .slice x3 yn.length y3, .slice x4 yd.length y4] 24)) w.heap.size c x3 yn y3 x4 yd y4 := by
  have A := V.nvar.put (c := b) r1 r2
  have szz : (((w.setCell ⟨k, 0, none⟩ (.bool b)).setCell ⟨k, 1, none⟩ (.slice x1 xn.length y1)).setCell ⟨k, 2, none⟩ (.slice x2 xd.length y2)).heap.size = w.heap.size := by simp [World.setCell]
  have q3 := r3.put' V.box (.bool b) (.slice x1 xn.length y1) (.slice x2 xd.length y2)
  have q4 := r4.put' V.box (.bool b) (.slice x1 xn.length y1) (.slice x2 xd.length y2)
  have B := nvar_new (b := c) q3 q4
  rw [szz] at B
  exact ⟨A.kvar.below (below_alloc _ _), B.kvar⟩
theorem kv_new_new (r1 : Rd w.heap.size w (.slice x1 xn.length y1) xn) (r2 : Rd w.heap.size w (.slice x2 xd.length y2) xd) (r3 : Rd w.heap.size w (.slice x3 yn.length y3) yn) (r4 : Rd w.heap.size w (.slice x4 yd.length y4) yd) :
    KVar ((w.alloc (.cells #[.bool b, .slice x1 xn.length y1, .slice x2 xd.length y2] 24)).alloc (.cells #[.bool c, .slice x3 yn.length y3, .slice x4 yd.length y4] 24)) w.heap.size b x1 xn y1 x2 xd y2 ∧ KVar ((w.alloc (.cells #[.bool b, .slice x1 xn.length y1, .slice x2 xd.length y2] 24)).alloc (.cells #[.bool c, .slice x3 yn.length y3, .slice x4 yd.length y4] 24)) (w.heap.size + 1) c x3 yn y3 x4 yd y4 := by
  have A := nvar_new (b := b) r1 r2
  have ka := below_alloc w (.cells #[.bool b, .slice x1 xn.length y1, .slice x2 xd.length y2] 24)
  have B := nvar_new (b := c) ((r3.below ka).mono ka.size) ((r4.below ka).mono ka.size)
  rw [World.size_alloc] at B
  exact ⟨A.kvar.below (below_alloc _ _), B.kvar⟩
end

/-- What a quotient answers. -/
def QuotSpec (P : Prop) (bx : Bool) (xn xd : List Int) (cy : Bool) (yn yd : List Int) (b : Bool) (ns ds : List Int) (err : Int) : Prop :=
  (yn.length = 0 ∧ DivZ P xn b ns ds err) ∨ (0 < yn.length ∧ OutSpec P (sg bx (val xn) * sg cy (val yd)) (val xd * val yn) b ns ds err)
theorem div_same {w w' : World} {bx cy : Bool} {xn xd yn yd : List Int} {e : Ending} {b : Bool} {ns ds : List Int} {err : Int} (HS : Hid (QuotSpec (RightP bx xn xd ∧ RightP cy yn yd) bx xn xd cy yn yd b ns ds err)) (h : ∃ c ms es f, Hid (QuotSpec (RightP bx xn xd ∧ RightP cy yn yd) bx xn xd cy yn yd c ms es f) ∧ RAns w c ms es f e w') : RAns w b ns ds err e w' := by
  obtain ⟨c, ms, es, f, HK, hr⟩ := h
  have hu : c = b ∧ ms = ns ∧ es = ds ∧ f = err := by
    rcases HS.out with ⟨h0, h1⟩ | ⟨h0, h1⟩ <;> rcases HK.out with ⟨k0, k1⟩ | ⟨k0, k1⟩
    · exact DivZ.unique h1 k1
    · omega
    · omega
    · refine OutSpec.unique (fun hP => Int.mul_pos (right_pos hP.1).1 ?_) h1 k1
      have h5 := can_low hP.2.2.2.1 h0
      have h6 := pw_pos (yn.length - 1)
      omega
  obtain ⟨rfl, rfl, rfl, rfl⟩ := hu
  exact hr
section
variable {w : World} {bx cy : Bool} {a1 a2 a3 a4 : Option Addr} {c1 c2 c3 c4 : Nat} {xn xd yn yd : List Int}
theorem div_all (h1 : Rd w.heap.size w (.slice a1 xn.length c1) xn) (h2 : Rd w.heap.size w (.slice a2 xd.length c2) xd) (h3 : Rd w.heap.size w (.slice a3 yn.length c3) yn) (h4 : Rd w.heap.size w (.slice a4 yd.length c4) yd) :
    Calls Tryz.prog 13 #[.agg #[.bool bx, .slice a1 xn.length c1, .slice a2 xd.length c2], .agg #[.bool cy, .slice a3 yn.length c3, .slice a4 yd.length c4]] w fun e w' => ∃ b ns ds err, Hid (QuotSpec (RightP bx xn xd ∧ RightP cy yn yd) bx xn xd cy yn yd b ns ds err) ∧ RAns w b ns ds err e w' := by
  by_cases h0 : yn.length = 0
  · refine (div_z h1 h2 h3 h4 h0).mono ?_
    rintro e w' ⟨b, ns, ds, err, HS, hr⟩
    exact ⟨b, ns, ds, err, Or.inl ⟨h0, HS.out⟩, hr⟩
  · refine (div_nz h1 h2 h3 h4 (Nat.le_refl _) (by omega)).mono ?_
    intro e w' h
    obtain ⟨b, ns, ds, err, HS, hr⟩ := h.spec
    exact ⟨b, ns, ds, err, Or.inr ⟨by omega, HS.out⟩, hr⟩
theorem refDiv_all (h1 : Rd w.heap.size w (.slice a1 xn.length c1) xn) (h2 : Rd w.heap.size w (.slice a2 xd.length c2) xd) (h3 : Rd w.heap.size w (.slice a3 yn.length c3) yn) (h4 : Rd w.heap.size w (.slice a4 yd.length c4) yd) :
    Calls Tryz.prog 14 #[.agg #[.bool bx, .slice a1 xn.length c1, .slice a2 xd.length c2], .agg #[.bool cy, .slice a3 yn.length c3, .slice a4 yd.length c4]] w fun e w' => ∃ b ns ds err, Hid (QuotSpec (RightP bx xn xd ∧ RightP cy yn yd) bx xn xd cy yn yd b ns ds err) ∧ RAns w b ns ds err e w' := by
  by_cases h0 : yn.length = 0
  · refine (refDiv_z h1 h2 h3 h4 h0).mono ?_
    rintro e w' ⟨b, ns, ds, err, HS, hr⟩
    exact ⟨b, ns, ds, err, Or.inl ⟨h0, HS.out⟩, hr⟩
  · refine (refDiv_nz h1 h2 h3 h4 (by omega)).mono ?_
    intro e w' h
    obtain ⟨b, ns, ds, err, HS, hr⟩ := h.spec
    exact ⟨b, ns, ds, err, Or.inr ⟨by omega, HS.out⟩, hr⟩
end
end Go.Proofs.YtonjbpnpknpbeaaGreatDoor

/- rat.Residue. -/
namespace Go.Proofs.YtonjbpnpknpbeaaGreatDoor
set_option linter.unusedVariables false
set_option linter.unusedSimpArgs false
open Go.RowKit

theorem big_cross {N D N' D' : Int} (hD : 0 < D) (h : N * D' = N' * D) (hb : Big N D) : Big N' D' := by
  obtain ⟨b, ns, ds, cn, cd, hd, hg, hv, hl⟩ := hb
  refine ⟨b, ns, ds, cn, cd, hd, hg, cancel hD ?_, hl⟩
  have e1 : sg b (val ns) * D' * D = sg b (val ns) * D * D' := by ac_rfl
  have e2 : N' * val ds * D = N' * D * val ds := by ac_rfl
  rw [e1, hv, e2, ← h]
  ac_rfl
theorem floor_cross {N D Q q : Int} (hD : 0 < D) (hq : 0 < q) (h : Q * D = N * q) : Q / q = N / D := by
  have e1 : Q * D / (q * D) = Q / q := Int.mul_ediv_mul_of_pos_left Q q hD
  have e2 : N * q / (D * q) = N / D := Int.mul_ediv_mul_of_pos_left N D hq
  rw [← e1, h, Int.mul_comm q D, e2]

theorem res_cross {Y T xd yd td : Int} {K : Int} (h : T * xd = K * td) : (Y * td + -T * yd) * (yd * xd) = (Y * xd + -K * yd) * (yd * td) := by
  have e1 : (Y * td + -T * yd) * (yd * xd) = Y * td * (yd * xd) + -(T * xd) * (yd * yd) := by
    rw [Int.add_mul, Int.neg_mul, Int.neg_mul, Int.neg_mul]
    congr 2
    ac_rfl
  have e2 : (Y * xd + -K * yd) * (yd * td) = Y * xd * (yd * td) + -(K * td) * (yd * yd) := by
    rw [Int.add_mul, Int.neg_mul, Int.neg_mul, Int.neg_mul]
    congr 2
    ac_rfl
  rw [e1, e2, h]
  congr 1
  ac_rfl
theorem whole_den {b : Bool} {ns ds : List Int} {F : Int} (cn : can ns) (cd : can ds) (hd : 0 < ds.length) (hg : gI (val ns) (val ds) = 1) (h : sg b (val ns) = F * val ds) : ds = [1] := by
  have dp : 0 < val ds := by have := can_low cd hd; have := pw_pos (ds.length - 1); omega
  have np := (val_bound cn.1).1
  refine limbs_of cd 1 (by omega) (by omega) ?_
  obtain ⟨n, en⟩ := Int.eq_ofNat_of_zero_le np
  obtain ⟨d, ed⟩ := Int.eq_ofNat_of_zero_le (Int.le_of_lt dp)
  rw [en, ed] at h
  have hdv : (d : Int) ∣ (n : Int) := by
    cases b with
    | false => exact ⟨F, by rw [sg_false] at h; rw [h, Int.mul_comm]⟩
    | true => exact ⟨-F, by simp [sg] at h; rw [Int.mul_neg, Int.mul_comm, ← h, Int.neg_neg]⟩
  have hdn : d ∣ n := Int.natCast_dvd_natCast.1 hdv
  rw [en, ed] at hg
  rw [ed]
  unfold gI at hg
  simp only [Int.toNat_natCast] at hg
  rw [Nat.gcd_eq_right hdn] at hg
  exact hg

/-- What stands in a residue's way. -/
def ResBig (N1 D1 X xd Y yd : Int) : Prop := Big N1 D1 ∨ Big (N1 / D1) 1 ∨ Big (X * (N1 / D1)) xd ∨ Big (Y * xd + -(X * (N1 / D1)) * yd) (yd * xd)
/-- What rat.Residue answers. -/
def Residues (w' : World) (k : Nat) (P : Prop) (bx : Bool) (xn xd : List Int) (cy : Bool) (yn yd : List Int) (b : Bool) (x1 : Option Addr) (n y1 : Nat) (x2 : Option Addr) (m y2 : Nat) (err : Int) : Prop :=
  (¬ P ∧ err = 22 ∧ b = false ∧ x1 = none ∧ n = 0 ∧ y1 = 0 ∧ x2 = none ∧ m = 0 ∧ y2 = 0) ∨
  (P ∧ xn.length = 0 ∧ err = 0 ∧ b = cy ∧ n = yn.length ∧ m = yd.length ∧ Own k w' (.slice x1 n y1) yn ∧ Own k w' (.slice x2 m y2) yd) ∨
  (P ∧ 0 < xn.length ∧ err = 8 ∧ b = false ∧ x1 = none ∧ n = 0 ∧ y1 = 0 ∧ x2 = none ∧ m = 0 ∧ y2 = 0 ∧ ResBig (sg cy (val yn) * sg bx (val xd)) (val yd * val xn) (sg bx (val xn)) (val xd) (sg cy (val yn)) (val yd)) ∨
  (P ∧ 0 < xn.length ∧ err = 0 ∧ ¬ ResBig (sg cy (val yn) * sg bx (val xd)) (val yd * val xn) (sg bx (val xn)) (val xd) (sg cy (val yn)) (val yd) ∧ ∃ ns ds, n = ns.length ∧ m = ds.length ∧ Own k w' (.slice x1 n y1) ns ∧ Own k w' (.slice x2 m y2) ds ∧ RightP b ns ds ∧ sg b (val ns) * (val yd * val xd) = (sg cy (val yn) * val xd + -(sg bx (val xn) * ((sg cy (val yn) * sg bx (val xd)) / (val yd * val xn))) * val yd) * val ds)
def ResGives (w : World) (P : Prop) (bx : Bool) (xn xd : List Int) (cy : Bool) (yn yd : List Int) (e : Ending) (w' : World) : Prop :=
  Below w.heap.size w w' ∧ ∃ b x1 n y1 x2 m y2 err, e = .returned (.tuple #[.agg #[.bool b, .slice x1 n y1, .slice x2 m y2], .int .i64 err]) ∧ Hid (Residues w' w.heap.size P bx xn xd cy yn yd b x1 n y1 x2 m y2 err)

section
variable {w : World} {bx cy : Bool} {a1 a2 a3 a4 : Option Addr} {c1 c2 c3 c4 : Nat} {xn xd yn yd : List Int}
theorem res_small {w' : World} {P : Prop} {e : Ending} (hb : Below w.heap.size w w') (he : e = .returned (.tuple #[.agg #[.bool false, .slice none 0 0, .slice none 0 0], .int .i64 22])) (hP : ¬ P) : ResGives w P bx xn xd cy yn yd e w' :=
  ⟨hb, false, none, 0, 0, none, 0, 0, 22, he, Or.inl ⟨hP, rfl, rfl, rfl, rfl, rfl, rfl, rfl, rfl⟩⟩
theorem res_big {w' : World} {P : Prop} {e : Ending} (hb : Below w.heap.size w w') (he : e = .returned (.tuple #[.agg #[.bool false, .slice none 0 0, .slice none 0 0], .int .i64 8])) (hP : P) (h0 : 0 < xn.length) (hB : ResBig (sg cy (val yn) * sg bx (val xd)) (val yd * val xn) (sg bx (val xn)) (val xd) (sg cy (val yn)) (val yd)) : ResGives w P bx xn xd cy yn yd e w' :=
  ⟨hb, false, none, 0, 0, none, 0, 0, 8, he, Or.inr (Or.inr (Or.inl ⟨hP, h0, rfl, rfl, rfl, rfl, rfl, rfl, rfl, rfl, hB⟩))⟩

end
end Go.Proofs.YtonjbpnpknpbeaaGreatDoor

/- The document's Residue. -/
namespace Go.Proofs.YtonjbpnpknpbeaaGreatDoor
set_option linter.unusedVariables false
set_option linter.unusedSimpArgs false
open Go.RowKit

theorem RVar.by' {w : World} {j k : Nat} {c : Bool} {a3 a4 : Option Addr} {c3 c4 : Nat} {ms es : List Int} (R : RVar w j) (P : NVar w k c a3 ms c3 a4 es c4) (h : j ≠ k) (x y z : Value) : RVar (((w.setCell ⟨k, 0, none⟩ x).setCell ⟨k, 1, none⟩ y).setCell ⟨k, 2, none⟩ z) j := by
  have szz : (((w.setCell ⟨k, 0, none⟩ x).setCell ⟨k, 1, none⟩ y).setCell ⟨k, 2, none⟩ z).heap.size = w.heap.size := by simp [World.setCell]
  exact ⟨by rw [szz]; exact R.lt, R.box.other h _ _ _⟩

section
variable {w : World} {bx cy : Bool} {a1 a2 a3 a4 : Option Addr} {c1 c2 c3 c4 : Nat} {xn xd yn yd : List Int}
end
end Go.Proofs.YtonjbpnpknpbeaaGreatDoor
