/- rat.times, rat.plus, rat.by. -/
import Derived.Test.YtibciilhfpgjjadDoorRatSum
import Derived.Deep.RegionHeld3
namespace Go.Proofs.YtibciilhfpgjjadDoor
set_option linter.unusedVariables false
set_option linter.unusedSimpArgs false
open Go.RowKit

theorem many_of {w : World} {Lb : Nat} {v1 v2 : Value} {x1 x2 : List Int} (lt : Lb < w.heap.size) (k0 : w.cell? ⟨Lb, 0, none⟩ = some v1) (k1 : w.cell? ⟨Lb, 1, none⟩ = some v2) (h1 : Rd w.heap.size w v1 x1) (h2 : Rd w.heap.size w v2 x2) : Many w Lb 2 [v1, v2] [x1, x2] where
  lv := rfl
  lx := rfl
  lt := lt
  cell := fun j hj => by
    match j, hj with
    | 0, _ => exact k0
    | 1, _ => exact k1
  rd := fun j hj => by
    match j, hj with
    | 0, _ => exact h1
    | 1, _ => exact h2

/-- A product of two that lie in a list. -/
theorem prod_at {w : World} {Lb : Nat} {v1 v2 : Value} {x1 x2 : List Int} (hm : Many w Lb 2 [v1, v2] [x1, x2]) (l1 : x1.length ≤ 1000) (l2 : x2.length ≤ 1000) :
    Calls Tryd.prog 47 #[.slice (some ⟨Lb, 0, none⟩) 2 2] w fun e w' => ∃ zs, can zs ∧ val zs = val x1 * val x2 ∧ zs.length ≤ 1 + (x1.length + x2.length) ∧ Makes w e w' zs := by
  refine (product_any hm (by omega) (by simp [sumL]; omega)).mono ?_
  rintro e w' ⟨zs, cz, vz, lz, hm⟩
  exact ⟨zs, cz, by rw [vz]; simp [prodV], by simpa [sumL] using lz, hm⟩

theorem Many.grow {w w' : World} {Lb k : Nat} {vs : List Value} {xss : List (List Int)} (h : Many w Lb k vs xss) (hb : Below w.heap.size w w') : Many w' Lb k vs xss where
  lv := h.lv
  lx := h.lx
  lt := Nat.lt_of_lt_of_le h.lt hb.size
  cell := fun j hj => (hb.cell h.lt).trans (h.cell j hj)
  rd := fun j hj => ((h.rd j hj).below hb).mono hb.size
theorem Makes.undrew {w w' : World} {e : Ending} {xs : List Int} (h : Makes w.drew e w' xs) : Makes w e w' xs := by
  obtain ⟨a, c, he, ho, hb⟩ := h
  exact ⟨a, c, he, ho, ⟨hb.os, hb.tape, hb.output, hb.size, hb.block⟩⟩
theorem below_alloc (w : World) (o : Obj) : Below w.heap.size w (w.alloc o) := (Below.refl _ _).alloc (Nat.le_refl _) _

theorem Box3.other {w2 : World} {B R ty : Nat} {p q r : Value} (h : Box3 w2 B ty p q r) (hne : B ≠ R) (x y z : Value) : Box3 (((w2.setCell ⟨R, 0, none⟩ x).setCell ⟨R, 1, none⟩ y).setCell ⟨R, 2, none⟩ z) B ty p q r := by
  unfold Box3 at h ⊢
  have hne' : ¬ R = B := fun e => hne e.symm
  simp [World.setCell, Array.getElem?_modify, hne', h]

/-- What a making answers, in one form: a number, and whether it is one. -/
def RForm (w : World) (N D : Int) (e : Ending) (w' : World) : Prop :=
  Below w.heap.size w w' ∧ ∃ b x1 n y1 x2 m y2 err, e = .returned (.tuple #[.agg #[.bool b, .slice x1 n y1, .slice x2 m y2], .int .i64 err]) ∧
    Hid ((err = 8 ∧ b = false ∧ x1 = none ∧ n = 0 ∧ y1 = 0 ∧ x2 = none ∧ m = 0 ∧ y2 = 0 ∧ Big N D) ∨ (err = 0 ∧ ∃ ns ds, n = ns.length ∧ m = ds.length ∧ Own w.heap.size w' (.slice x1 n y1) ns ∧ Own w.heap.size w' (.slice x2 m y2) ds ∧ RightP b ns ds ∧ sg b (val ns) * D = N * val ds))
theorem RMakes.form {w w' : World} {N D : Int} {e : Ending} (h : RMakes w N D e w') : RForm w N D e w' := by
  obtain ⟨hb, ⟨rfl, hbig⟩ | ⟨b, ns, ds, x1, y1, x2, y2, rfl, on, od, hr, hv⟩⟩ := h
  · exact ⟨hb, false, none, 0, 0, none, 0, 0, 8, rfl, Or.inl ⟨rfl, rfl, rfl, rfl, rfl, rfl, rfl, rfl, hbig⟩⟩
  · exact ⟨hb, b, x1, ns.length, y1, x2, ds.length, y2, 0, rfl, Or.inr ⟨rfl, ns, ds, rfl, rfl, on, od, hr, hv⟩⟩
theorem hform_mono {w2 : World} {k j : Nat} {N D err : Int} {b : Bool} {x1 x2 : Option Addr} {n m y1 y2 : Nat} (hk : j ≤ k) (h : Hid ((err = 8 ∧ b = false ∧ x1 = none ∧ n = 0 ∧ y1 = 0 ∧ x2 = none ∧ m = 0 ∧ y2 = 0 ∧ Big N D) ∨ (err = 0 ∧ ∃ ns ds, n = ns.length ∧ m = ds.length ∧ Own k w2 (.slice x1 n y1) ns ∧ Own k w2 (.slice x2 m y2) ds ∧ RightP b ns ds ∧ sg b (val ns) * D = N * val ds))) :
    Hid ((err = 8 ∧ b = false ∧ x1 = none ∧ n = 0 ∧ y1 = 0 ∧ x2 = none ∧ m = 0 ∧ y2 = 0 ∧ Big N D) ∨ (err = 0 ∧ ∃ ns ds, n = ns.length ∧ m = ds.length ∧ Own j w2 (.slice x1 n y1) ns ∧ Own j w2 (.slice x2 m y2) ds ∧ RightP b ns ds ∧ sg b (val ns) * D = N * val ds)) := by
  rcases h.out with h | ⟨h1, ns, ds, h2, h3, on, od, h4⟩
  · exact Or.inl h
  · exact Or.inr ⟨h1, ns, ds, h2, h3, on.mono hk, od.mono hk, h4⟩
/-- Such an answer, laid into the variable of the result. -/
theorem rform_done {w wR w2 : World} {N D : Int} {b : Bool} {x1 x2 : Option Addr} {n m y1 y2 R : Nat} {err : Int} (b0 : Below w.heap.size w wR) (hR : w.heap.size ≤ R) (s0 : R < wR.heap.size) (hb : Below wR.heap.size wR w2)
    (h : Hid ((err = 8 ∧ b = false ∧ x1 = none ∧ n = 0 ∧ y1 = 0 ∧ x2 = none ∧ m = 0 ∧ y2 = 0 ∧ Big N D) ∨ (err = 0 ∧ ∃ ns ds, n = ns.length ∧ m = ds.length ∧ Own wR.heap.size w2 (.slice x1 n y1) ns ∧ Own wR.heap.size w2 (.slice x2 m y2) ds ∧ RightP b ns ds ∧ sg b (val ns) * D = N * val ds))) :
    RMakes w N D (.returned (.tuple #[.agg #[.bool b, .slice x1 n y1, .slice x2 m y2], .int .i64 err])) (((w2.setCell ⟨R, 0, none⟩ (.bool b)).setCell ⟨R, 1, none⟩ (.slice x1 n y1)).setCell ⟨R, 2, none⟩ (.slice x2 m y2)) := by
  refine ⟨Below.set3 (b0.trans (hb.mono (by omega))) hR _ _ _, ?_⟩
  rcases h.out with ⟨rfl, rfl, rfl, rfl, rfl, rfl, rfl, rfl, hbig⟩ | ⟨rfl, ns, ds, rfl, rfl, on, od, hr, hv⟩
  · exact Or.inl ⟨rfl, hbig⟩
  · exact Or.inr ⟨b, ns, ds, x1, y1, x2, y2, rfl, (Own.set3 on s0 _ _ _).mono (by omega), (Own.set3 od s0 _ _ _).mono (by omega), hr, hv⟩

section
variable {B : Nat} {w : World} {bx cy : Bool} {a1 a2 a3 a4 : Option Addr} {c1 c2 c3 c4 : Nat} {xn xd yn yd : List Int}

set_option maxRecDepth 100000 in
set_option maxHeartbeats 16000000 in
theorem times_rat (h1 : Rd B w (.slice a1 xn.length c1) xn) (h2 : Rd B w (.slice a2 xd.length c2) xd) (h3 : Rd B w (.slice a3 yn.length c3) yn) (h4 : Rd B w (.slice a4 yd.length c4) yd) (hB : B ≤ w.heap.size) (hx : RightP bx xn xd) (hy : RightP cy yn yd) :
    Calls Tryd.prog 26 #[.agg #[.bool bx, .slice a1 xn.length c1, .slice a2 xd.length c2], .agg #[.bool cy, .slice a3 yn.length c3, .slice a4 yd.length c4]] w fun e w' => RMakes w (sg bx (val xn) * sg cy (val yn)) (val xd * val yd) e w' := by
  have px := right_pos hx
  have py := right_pos hy
  have l1 := hx.1
  have l2 := hx.2.1
  have l3 := hy.1
  have l4 := hy.2.1
  have HD : Hid (0 < val xd * val yd) := Int.mul_pos px.1 py.1
  clear px py hx hy
  have hbX : Box3 (((w.alloc (.cells #[.bool bx, .slice a1 xn.length c1, .slice a2 xd.length c2] 24)).alloc (.cells #[.bool cy, .slice a3 yn.length c3, .slice a4 yd.length c4] 24)).alloc (.cells #[.bool false, .slice none 0 0, .slice none 0 0] 24)) w.heap.size 24 (.bool bx) (.slice a1 xn.length c1) (.slice a2 xd.length c2) := ((box3_new w _ _ _ _).below (below_alloc _ _) (by simp)).below (below_alloc _ _) (by simp; omega)
  have hbY : Box3 (((w.alloc (.cells #[.bool bx, .slice a1 xn.length c1, .slice a2 xd.length c2] 24)).alloc (.cells #[.bool cy, .slice a3 yn.length c3, .slice a4 yd.length c4] 24)).alloc (.cells #[.bool false, .slice none 0 0, .slice none 0 0] 24)) (w.heap.size + 1) 24 (.bool cy) (.slice a3 yn.length c3) (.slice a4 yd.length c4) := by
    have h5 := (box3_new (w.alloc (.cells #[.bool bx, .slice a1 xn.length c1, .slice a2 xd.length c2] 24)) (.bool cy) (.slice a3 yn.length c3) (.slice a4 yd.length c4) 24).below (below_alloc _ (.cells #[.bool false, .slice none 0 0, .slice none 0 0] 24)) (by simp)
    simpa using h5
  have hbR : Box3 (((w.alloc (.cells #[.bool bx, .slice a1 xn.length c1, .slice a2 xd.length c2] 24)).alloc (.cells #[.bool cy, .slice a3 yn.length c3, .slice a4 yd.length c4] 24)).alloc (.cells #[.bool false, .slice none 0 0, .slice none 0 0] 24)) (w.heap.size + 1 + 1) 24 (.bool false) (.slice none 0 0) (.slice none 0 0) := by
    have h5 := box3_new ((w.alloc (.cells #[.bool bx, .slice a1 xn.length c1, .slice a2 xd.length c2] 24)).alloc (.cells #[.bool cy, .slice a3 yn.length c3, .slice a4 yd.length c4] 24)) (.bool false) (.slice none 0 0) (.slice none 0 0) 24
    simpa using h5
  have b0 : Below w.heap.size w (((w.alloc (.cells #[.bool bx, .slice a1 xn.length c1, .slice a2 xd.length c2] 24)).alloc (.cells #[.bool cy, .slice a3 yn.length c3, .slice a4 yd.length c4] 24)).alloc (.cells #[.bool false, .slice none 0 0, .slice none 0 0] 24)) := ((below_alloc w _).alloc (by simp) _).alloc (by simp; omega) _
  have s0 : w.heap.size + 1 + 1 < (((w.alloc (.cells #[.bool bx, .slice a1 xn.length c1, .slice a2 xd.length c2] 24)).alloc (.cells #[.bool cy, .slice a3 yn.length c3, .slice a4 yd.length c4] 24)).alloc (.cells #[.bool false, .slice none 0 0, .slice none 0 0] 24)).heap.size := by simp
  have g1 := h1.below (b0.mono hB)
  have g2 := h2.below (b0.mono hB)
  have g3 := h3.below (b0.mono hB)
  have g4 := h4.below (b0.mono hB)
  clear h1 h2 h3 h4
  go_enter Tryd.func26, Tryd.ntmps26
  go_wp2
  generalize hA : (((w.alloc (.cells #[.bool bx, .slice a1 xn.length c1, .slice a2 xd.length c2] 24)).alloc (.cells #[.bool cy, .slice a3 yn.length c3, .slice a4 yd.length c4] 24)).alloc (.cells #[.bool false, .slice none 0 0, .slice none 0 0] 24)) = wP at *
  clear hA
  have hcells : ∀ {w' : World}, Below wP.heap.size wP w' → w'.cell? ⟨w.heap.size, 0, none⟩ = some (.bool bx) ∧ w'.cell? ⟨w.heap.size, 1, none⟩ = some (.slice a1 xn.length c1) ∧ w'.cell? ⟨w.heap.size, 2, none⟩ = some (.slice a2 xd.length c2) ∧ w'.cell? ⟨w.heap.size + 1, 0, none⟩ = some (.bool cy) ∧ w'.cell? ⟨w.heap.size + 1, 1, none⟩ = some (.slice a3 yn.length c3) ∧ w'.cell? ⟨w.heap.size + 1, 2, none⟩ = some (.slice a4 yd.length c4) := fun hb => ⟨(hbX.below hb (by omega)).c0, (hbX.below hb (by omega)).c1, (hbX.below hb (by omega)).c2, (hbY.below hb (by omega)).c0, (hbY.below hb (by omega)).c1, (hbY.below hb (by omega)).c2⟩
  obtain ⟨k0, k1, k2, k3, k4, k5⟩ := hcells (Below.refl _ _)
  have d1 : Rd B wP.drew (.slice a1 xn.length c1) xn := g1
  have d2 : Rd B wP.drew (.slice a2 xd.length c2) xd := g2
  have d3 : Rd B wP.drew (.slice a3 yn.length c3) yn := g3
  have d4 : Rd B wP.drew (.slice a4 yd.length c4) yd := g4
  have hBP : B ≤ wP.drew.heap.size := show B ≤ wP.heap.size by omega
  have hmA1 := many2 d1 d3 hBP hBP
  have hmD2 := many2 d2 d4 hBP hBP
  have hmB1 := hmA1.grow (below_alloc _ (.cells #[.slice a2 xd.length c2, .slice a4 yd.length c4] 22))
  have hmB2 : Many ((wP.drew.alloc (.cells #[.slice a1 xn.length c1, .slice a3 yn.length c3] 22)).alloc (.cells #[.slice a2 xd.length c2, .slice a4 yd.length c4] 22)) (wP.heap.size + 1) 2 [.slice a2 xd.length c2, .slice a4 yd.length c4] [xd, yd] := by
    have h := many2 (d2.below ((below_alloc wP.drew (.cells #[.slice a1 xn.length c1, .slice a3 yn.length c3] 22)).mono hBP)) (d4.below ((below_alloc wP.drew (.cells #[.slice a1 xn.length c1, .slice a3 yn.length c3] 22)).mono hBP)) (B1 := B) (B2 := B) (by simp; exact Nat.le_succ_of_le hBP) (by simp; exact Nat.le_succ_of_le hBP)
    simp only [World.size_alloc, World.size_drew] at h
    exact h
  have hmC1 : Many ((wP.drew.alloc (.cells #[.slice a2 xd.length c2, .slice a4 yd.length c4] 22)).alloc (.cells #[.slice a1 xn.length c1, .slice a3 yn.length c3] 22)) (wP.heap.size + 1) 2 [.slice a1 xn.length c1, .slice a3 yn.length c3] [xn, yn] := by
    have h := many2 (d1.below ((below_alloc wP.drew (.cells #[.slice a2 xd.length c2, .slice a4 yd.length c4] 22)).mono hBP)) (d3.below ((below_alloc wP.drew (.cells #[.slice a2 xd.length c2, .slice a4 yd.length c4] 22)).mono hBP)) (B1 := B) (B2 := B) (by simp; exact Nat.le_succ_of_le hBP) (by simp; exact Nat.le_succ_of_le hBP)
    simp only [World.size_alloc, World.size_drew] at h
    exact h
  have hmC2 := hmD2.grow (below_alloc _ (.cells #[.slice a1 xn.length c1, .slice a3 yn.length c3] 22))
  have hsP : wP.heap.size ≤ wP.heap.size := Nat.le_refl _
  go_region_held3 (fun w' => w'.cell? ⟨w.heap.size, 0, none⟩ = some (.bool bx) ∧ w'.cell? ⟨w.heap.size, 1, none⟩ = some (.slice a1 xn.length c1) ∧ w'.cell? ⟨w.heap.size, 2, none⟩ = some (.slice a2 xd.length c2) ∧ w'.cell? ⟨w.heap.size + 1, 0, none⟩ = some (.bool cy) ∧ w'.cell? ⟨w.heap.size + 1, 1, none⟩ = some (.slice a3 yn.length c3) ∧ w'.cell? ⟨w.heap.size + 1, 2, none⟩ = some (.slice a4 yd.length c4))
    (first | (go_keep; done) | exact tw | exact tw2 | exact hcells (Below.alloc ba sa _) | (dsimp only; refine ⟨?_, ?_, ?_, ?_, ?_, ?_⟩ <;> first | (go_keep; done) | exact (hX2.other (by omega) _ _ _).c0 | exact (hX2.other (by omega) _ _ _).c1 | exact (hX2.other (by omega) _ _ _).c2 | exact (hY2.other (by omega) _ _ _).c0 | exact (hY2.other (by omega) _ _ _).c1 | exact (hY2.other (by omega) _ _ _).c2) | exact ⟨(hX2.other (by omega) _ _ _).c0, (hX2.other (by omega) _ _ _).c1, (hX2.other (by omega) _ _ _).c2, (hY2.other (by omega) _ _ _).c0, (hY2.other (by omega) _ _ _).c1, (hY2.other (by omega) _ _ _).c2⟩)
    (first
      | (go_at_call 47; refine (prod_at (v1 := .slice a1 xn.length c1) (v2 := .slice a3 yn.length c3) (x1 := xn) (x2 := yn) (by first | exact hmA1 | exact hmB1 | exact hmC1) (by omega) (by omega)).mono ?_; rintro e wa ⟨za, ca, va, la, hma⟩; first | (obtain ⟨aa, qa, rfl, oa, ba⟩ := Makes.undrew (Makes.alloc (w := wP.drew) (o := (.cells #[.slice a1 xn.length c1, .slice a3 yn.length c3] 22)) hma); have sa := ba.size; have tw := hcells ba; have hm2 := many2 (g2.below (ba.mono (by omega))) (g4.below (ba.mono (by omega))) (B1 := B) (B2 := B) (by omega) (by omega)) | (obtain ⟨aa, qa, rfl, oa', ba'⟩ := hma; have hm2 := hmB2.grow ba'; obtain ⟨aa2, qa2, he2, oa, ba⟩ := Makes.undrew (Makes.alloc (w := wP.drew) (Makes.alloc (w := wP.drew.alloc (.cells #[.slice a1 xn.length c1, .slice a3 yn.length c3] 22)) (⟨aa, qa, rfl, oa', ba'⟩ : Makes _ _ wa za))); cases he2; have sa := ba.size; have tw := hcells ba) | (obtain ⟨aa, qa, rfl, oa', ba'⟩ := hma; have hm2 := hmC2.grow ba'; obtain ⟨aa2, qa2, he2, oa, ba⟩ := Makes.undrew (Makes.alloc (w := wP.drew) (Makes.alloc (w := wP.drew.alloc (.cells #[.slice a2 xd.length c2, .slice a4 yd.length c4] 22)) (⟨aa, qa, rfl, oa', ba'⟩ : Makes _ _ wa za))); cases he2; have sa := ba.size; have tw := hcells ba))
      | (go_at_call 47; refine (prod_at (v1 := .slice a2 xd.length c2) (v2 := .slice a4 yd.length c4) (x1 := xd) (x2 := yd) (by exact hm2) (by omega) (by omega)).mono ?_; rintro e wb ⟨zb, cb, vb, lb, hmb⟩; first | (obtain ⟨ab, qb, rfl, ob, bb⟩ := Makes.alloc (w := wa) (o := (.cells #[.slice a2 xd.length c2, .slice a4 yd.length c4] 22)) hmb; have sb := bb.size; have tw2 := hcells (ba.trans (bb.mono sa))) | (obtain ⟨ab, qb, rfl, ob, bb⟩ := hmb; have sb := bb.size; have tw2 := hcells (ba.trans (bb.mono sa))))
      | (go_at_call 46; refine (make_any (bx != cy) (sg bx (val xn) * sg cy (val yn)) (oa.below bb (Nat.le_refl _)).rd (Nat.le_refl _) ob.rd (Nat.le_refl _) (by omega) (by omega) (by rw [vb]; exact HD.out) (by rw [va, sg_neq])).mono ?_; intro e w2 hmk; rw [vb] at hmk; obtain ⟨bm, b5, x5, n5, y5, x6, n6, y6, err, rfl, hform⟩ := hmk.form; have bPm : Below wP.heap.size wP w2 := (ba.trans (bb.mono sa)).trans (bm.mono (by omega)); have tw3 := hcells bPm; have hX2 := hbX.below bPm (by omega); have hY2 := hbY.below bPm (by omega); have hR2 := hbR.below bPm s0; have q0 := hR2.c0; have q1 := hR2.c1; have q2 := hR2.c2; have p0 := hR2.f0; have p1 := hR2.f1; have p2 := hR2.f2))
  all_goals
    go_wp2
    have hR3 := hR2.set (.bool b5) (.slice x5 n5 y5) (.slice x6 n6 y6)
    have r0 := hR3.c0
    have r1 := hR3.c1
    have r2 := hR3.c2
    refine bodyPost_ret (v := .tuple #[.agg #[.bool b5, .slice x5 n5 y5, .slice x6 n6 y6], .int .i64 err]) (by simp [results, Tryd.results26, go_sem, r0, r1, r2]) rfl ?_
    exact rform_done b0 (by omega) s0 bPm (hform_mono (by omega) hform)
end
end Go.Proofs.YtibciilhfpgjjadDoor
