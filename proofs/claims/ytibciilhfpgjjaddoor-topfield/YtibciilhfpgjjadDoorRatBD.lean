/- rat.by. -/
import Derived.Test.YtibciilhfpgjjadDoorRatTimes
namespace Go.Proofs.YtibciilhfpgjjadDoor
set_option linter.unusedVariables false
set_option linter.unusedSimpArgs false
open Go.RowKit

set_option maxRecDepth 100000 in
set_option maxHeartbeats 16000000 in
theorem by_rat {B : Nat} {w : World} {bx cy : Bool} {a1 a2 a3 a4 : Option Addr} {c1 c2 c3 c4 : Nat} {xn xd yn yd : List Int} (h1 : Rd B w (.slice a1 xn.length c1) xn) (h2 : Rd B w (.slice a2 xd.length c2) xd) (h3 : Rd B w (.slice a3 yn.length c3) yn) (h4 : Rd B w (.slice a4 yd.length c4) yd) (hB : B ≤ w.heap.size) (hx : RightP bx xn xd) (hy : RightP cy yn yd) (hy0 : 0 < yn.length) :
    Calls Tryd.prog 24 #[.agg #[.bool bx, .slice a1 xn.length c1, .slice a2 xd.length c2], .agg #[.bool cy, .slice a3 yn.length c3, .slice a4 yd.length c4]] w fun e w' => RMakes w (sg bx (val xn) * sg cy (val yd)) (val xd * val yn) e w' := by
  have px := right_pos hx
  have py := right_pos hy
  have l1 := hx.1
  have l2 := hx.2.1
  have l3 := hy.1
  have l4 := hy.2.1
  have pn : 0 < val yn := by
    have h5 := can_low hy.2.2.1 hy0
    have h6 := pw_pos (yn.length - 1)
    omega
  have HD : Hid (0 < val xd * val yn) := Int.mul_pos px.1 pn
  clear pn
  clear px py hx hy
  have hbX : Box3 (((w.alloc (.cells #[.bool bx, .slice a1 xn.length c1, .slice a2 xd.length c2] 24)).alloc (.cells #[.bool cy, .slice a3 yn.length c3, .slice a4 yd.length c4] 24)).alloc (.cells #[.bool false, .slice none 0 0, .slice none 0 0] 24)) w.heap.size 24 (.bool bx) (.slice a1 xn.length c1) (.slice a2 xd.length c2) := ((box3_new w _ _ _ _).below (below_alloc _ _) (by simp)).below (below_alloc _ _) (by simp; omega)
  have hbY : Box3 (((w.alloc (.cells #[.bool bx, .slice a1 xn.length c1, .slice a2 xd.length c2] 24)).alloc (.cells #[.bool cy, .slice a3 yn.length c3, .slice a4 yd.length c4] 24)).alloc (.cells #[.bool false, .slice none 0 0, .slice none 0 0] 24)) (w.heap.size + 1) 24 (.bool cy) (.slice a3 yn.length c3) (.slice a4 yd.length c4) := by
    have h5 := (box3_new (w.alloc (.cells #[.bool bx, .slice a1 xn.length c1, .slice a2 xd.length c2] 24)) (.bool cy) (.slice a3 yn.length c3) (.slice a4 yd.length c4) 24).below (below_alloc _ (.cells #[.bool false, .slice none 0 0, .slice none 0 0] 24)) (by simp)
    simpa using h5
  have hbR : Box3 (((w.alloc (.cells #[.bool bx, .slice a1 xn.length c1, .slice a2 xd.length c2] 24)).alloc (.cells #[.bool cy, .slice a3 yn.length c3, .slice a4 yd.length c4] 24)).alloc (.cells #[.bool false, .slice none 0 0, .slice none 0 0] 24)) (w.heap.size + 1 + 1) 24 (.bool false) (.slice none 0 0) (.slice none 0 0) := by
    have h5 := box3_new ((w.alloc (.cells #[.bool bx, .slice a1 xn.length c1, .slice a2 xd.length c2] 24)).alloc (.cells #[.bool cy, .slice a3 yn.length c3, .slice a4 yd.length c4] 24)) (.bool false) (.slice none 0 0) (.slice none 0 0) 24
    simpa using h5
  have b0 : Below w.heap.size w (((w.alloc (.cells #[.bool bx, .slice a1 xn.length c1, .slice a2 xd.length c2] 24)).alloc (.cells #[.bool cy, .slice a3 yn.length c3, .slice a4 yd.length c4] 24)).alloc (.cells #[.bool false, .slice none 0 0, .slice none 0 0] 24)) := ((below_alloc w _).alloc (by simp) _).alloc (by simp; omega) _
  have s0 : w.heap.size + 1 + 1 < (((w.alloc (.cells #[.bool bx, .slice a1 xn.length c1, .slice a2 xd.length c2] 24)).alloc (.cells #[.bool cy, .slice a3 yn.length c3, .slice a4 yd.length c4] 24)).alloc (.cells #[.bool false, .slice none 0 0, .slice none 0 0] 24)).heap.size := by simp
  have g1 := h1.below (b0.mono hB)
  have g2 := h2.below (b0.mono hB)
  have g3 := h3.below (b0.mono hB)
  have g4 := h4.below (b0.mono hB)
  clear h1 h2 h3 h4
  go_enter Tryd.func24, Tryd.ntmps24
  go_wp2
  generalize hA : (((w.alloc (.cells #[.bool bx, .slice a1 xn.length c1, .slice a2 xd.length c2] 24)).alloc (.cells #[.bool cy, .slice a3 yn.length c3, .slice a4 yd.length c4] 24)).alloc (.cells #[.bool false, .slice none 0 0, .slice none 0 0] 24)) = wP at *
  clear hA
  have hcells : ∀ {w' : World}, Below wP.heap.size wP w' → w'.cell? ⟨w.heap.size, 0, none⟩ = some (.bool bx) ∧ w'.cell? ⟨w.heap.size, 1, none⟩ = some (.slice a1 xn.length c1) ∧ w'.cell? ⟨w.heap.size, 2, none⟩ = some (.slice a2 xd.length c2) ∧ w'.cell? ⟨w.heap.size + 1, 0, none⟩ = some (.bool cy) ∧ w'.cell? ⟨w.heap.size + 1, 1, none⟩ = some (.slice a3 yn.length c3) ∧ w'.cell? ⟨w.heap.size + 1, 2, none⟩ = some (.slice a4 yd.length c4) := fun hb => ⟨(hbX.below hb (by omega)).c0, (hbX.below hb (by omega)).c1, (hbX.below hb (by omega)).c2, (hbY.below hb (by omega)).c0, (hbY.below hb (by omega)).c1, (hbY.below hb (by omega)).c2⟩
  obtain ⟨k0, k1, k2, k3, k4, k5⟩ := hcells (Below.refl _ _)
  have d1 : Rd B wP.drew (.slice a1 xn.length c1) xn := g1
  have d2 : Rd B wP.drew (.slice a2 xd.length c2) xd := g2
  have d3 : Rd B wP.drew (.slice a3 yn.length c3) yn := g3
  have d4 : Rd B wP.drew (.slice a4 yd.length c4) yd := g4
  have hBP : B ≤ wP.drew.heap.size := show B ≤ wP.heap.size by omega
  have hmA1 := many2 d1 d4 hBP hBP
  have hmD2 := many2 d2 d3 hBP hBP
  have hmB1 := hmA1.grow (below_alloc _ (.cells #[.slice a2 xd.length c2, .slice a3 yn.length c3] 22))
  have hmB2 : Many ((wP.drew.alloc (.cells #[.slice a1 xn.length c1, .slice a4 yd.length c4] 22)).alloc (.cells #[.slice a2 xd.length c2, .slice a3 yn.length c3] 22)) (wP.heap.size + 1) 2 [.slice a2 xd.length c2, .slice a3 yn.length c3] [xd, yn] := by
    have h := many2 (d2.below ((below_alloc wP.drew (.cells #[.slice a1 xn.length c1, .slice a4 yd.length c4] 22)).mono hBP)) (d3.below ((below_alloc wP.drew (.cells #[.slice a1 xn.length c1, .slice a4 yd.length c4] 22)).mono hBP)) (B1 := B) (B2 := B) (by simp; exact Nat.le_succ_of_le hBP) (by simp; exact Nat.le_succ_of_le hBP)
    simp only [World.size_alloc, World.size_drew] at h
    exact h
  have hmC1 : Many ((wP.drew.alloc (.cells #[.slice a2 xd.length c2, .slice a3 yn.length c3] 22)).alloc (.cells #[.slice a1 xn.length c1, .slice a4 yd.length c4] 22)) (wP.heap.size + 1) 2 [.slice a1 xn.length c1, .slice a4 yd.length c4] [xn, yd] := by
    have h := many2 (d1.below ((below_alloc wP.drew (.cells #[.slice a2 xd.length c2, .slice a3 yn.length c3] 22)).mono hBP)) (d4.below ((below_alloc wP.drew (.cells #[.slice a2 xd.length c2, .slice a3 yn.length c3] 22)).mono hBP)) (B1 := B) (B2 := B) (by simp; exact Nat.le_succ_of_le hBP) (by simp; exact Nat.le_succ_of_le hBP)
    simp only [World.size_alloc, World.size_drew] at h
    exact h
  have hmC2 := hmD2.grow (below_alloc _ (.cells #[.slice a1 xn.length c1, .slice a4 yd.length c4] 22))
  go_region_held3 (fun w' => w'.cell? ⟨w.heap.size, 0, none⟩ = some (.bool bx) ∧ w'.cell? ⟨w.heap.size, 1, none⟩ = some (.slice a1 xn.length c1) ∧ w'.cell? ⟨w.heap.size, 2, none⟩ = some (.slice a2 xd.length c2) ∧ w'.cell? ⟨w.heap.size + 1, 0, none⟩ = some (.bool cy) ∧ w'.cell? ⟨w.heap.size + 1, 1, none⟩ = some (.slice a3 yn.length c3) ∧ w'.cell? ⟨w.heap.size + 1, 2, none⟩ = some (.slice a4 yd.length c4))
    (first | (go_keep; done) | exact tw | exact tw2 | exact tw3 | exact hcells (Below.alloc ba sa _) | exact ⟨(hX2.other (by omega) _ _ _).c0, (hX2.other (by omega) _ _ _).c1, (hX2.other (by omega) _ _ _).c2, (hY2.other (by omega) _ _ _).c0, (hY2.other (by omega) _ _ _).c1, (hY2.other (by omega) _ _ _).c2⟩)
    (first
      | (go_at_call 47; refine (prod_at (v1 := .slice a1 xn.length c1) (v2 := .slice a4 yd.length c4) (x1 := xn) (x2 := yd) (by first | exact hmA1 | exact hmB1 | exact hmC1) (by omega) (by omega)).mono ?_; rintro e wa ⟨za, ca, va, la, hma⟩; first | (obtain ⟨aa, qa, rfl, oa, ba⟩ := Makes.undrew (Makes.alloc (w := wP.drew) (o := (.cells #[.slice a1 xn.length c1, .slice a4 yd.length c4] 22)) hma); have sa := ba.size; have tw := hcells ba; have hm2 := many2 (g2.below (ba.mono (by omega))) (g3.below (ba.mono (by omega))) (B1 := B) (B2 := B) (by omega) (by omega)) | (obtain ⟨aa, qa, rfl, oa', ba'⟩ := hma; have hm2 := hmB2.grow ba'; obtain ⟨aa2, qa2, he2, oa, ba⟩ := Makes.undrew (Makes.alloc (w := wP.drew) (Makes.alloc (w := wP.drew.alloc (.cells #[.slice a1 xn.length c1, .slice a4 yd.length c4] 22)) (⟨aa, qa, rfl, oa', ba'⟩ : Makes _ _ wa za))); cases he2; have sa := ba.size; have tw := hcells ba) | (obtain ⟨aa, qa, rfl, oa', ba'⟩ := hma; have hm2 := hmC2.grow ba'; obtain ⟨aa2, qa2, he2, oa, ba⟩ := Makes.undrew (Makes.alloc (w := wP.drew) (Makes.alloc (w := wP.drew.alloc (.cells #[.slice a2 xd.length c2, .slice a3 yn.length c3] 22)) (⟨aa, qa, rfl, oa', ba'⟩ : Makes _ _ wa za))); cases he2; have sa := ba.size; have tw := hcells ba))
      | (go_at_call 47; refine (prod_at (v1 := .slice a2 xd.length c2) (v2 := .slice a3 yn.length c3) (x1 := xd) (x2 := yn) (by exact hm2) (by omega) (by omega)).mono ?_; rintro e wb ⟨zb, cb, vb, lb, hmb⟩; first | (obtain ⟨ab, qb, rfl, ob, bb⟩ := Makes.alloc (w := wa) (o := (.cells #[.slice a2 xd.length c2, .slice a3 yn.length c3] 22)) hmb; have sb := bb.size; have tw2 := hcells (ba.trans (bb.mono sa))) | (obtain ⟨ab, qb, rfl, ob, bb⟩ := hmb; have sb := bb.size; have tw2 := hcells (ba.trans (bb.mono sa))))
      | (go_at_call 46; refine (make_any (bx != cy) (sg bx (val xn) * sg cy (val yd)) (oa.below bb (Nat.le_refl _)).rd (Nat.le_refl _) ob.rd (Nat.le_refl _) (by omega) (by omega) (by rw [vb]; exact HD.out) (by rw [va, sg_neq])).mono ?_; intro e w2 hmk; rw [vb] at hmk; obtain ⟨bm, b5, x5, n5, y5, x6, n6, y6, err, rfl, hform⟩ := hmk.form; have bPm : Below wP.heap.size wP w2 := (ba.trans (bb.mono sa)).trans (bm.mono (by omega)); have tw3 := hcells bPm; have hX2 := hbX.below bPm (by omega); have hY2 := hbY.below bPm (by omega); have hR2 := hbR.below bPm s0; have q0 := hR2.c0; have q1 := hR2.c1; have q2 := hR2.c2; have p0 := hR2.f0; have p1 := hR2.f1; have p2 := hR2.f2))
  all_goals
    go_wp2
    have hR3 := hR2.set (.bool b5) (.slice x5 n5 y5) (.slice x6 n6 y6)
    have r0 := hR3.c0
    have r1 := hR3.c1
    have r2 := hR3.c2
    refine bodyPost_ret (v := .tuple #[.agg #[.bool b5, .slice x5 n5 y5, .slice x6 n6 y6], .int .i64 err]) (by simp [results, Tryd.results24, go_sem, r0, r1, r2]) rfl ?_
    exact rform_done b0 (by omega) s0 bPm (hform_mono (by omega) hform)
end Go.Proofs.YtibciilhfpgjjadDoor

/- rat.difference. -/
namespace Go.Proofs.YtibciilhfpgjjadDoor
set_option linter.unusedVariables false
set_option linter.unusedSimpArgs false
open Go.RowKit

set_option maxRecDepth 100000 in
set_option maxHeartbeats 16000000 in
theorem difference_rat {B : Nat} {w : World} {bx cy : Bool} {a1 a2 a3 a4 : Option Addr} {c1 c2 c3 c4 : Nat} {xn xd yn yd : List Int} (h1 : Rd B w (.slice a1 xn.length c1) xn) (h2 : Rd B w (.slice a2 xd.length c2) xd) (h3 : Rd B w (.slice a3 yn.length c3) yn) (h4 : Rd B w (.slice a4 yd.length c4) yd) (hB : B ≤ w.heap.size) (hx : RightP bx xn xd) (hy : RightP cy yn yd) :
    Calls Tryd.prog 30 #[.agg #[.bool bx, .slice a1 xn.length c1, .slice a2 xd.length c2], .agg #[.bool cy, .slice a3 yn.length c3, .slice a4 yd.length c4]] w fun e w' => Sums w (sg bx (val xn) * val yd + sg (!cy) (val yn) * val xd) 132 e w' := by
  have px := right_pos hx
  have py := right_pos hy
  have l1 := hx.1
  have l2 := hx.2.1
  have l3 := hy.1
  have l4 := hy.2.1
  clear px py hx hy
  have hbX : Box3 ((w.alloc (.cells #[.bool bx, .slice a1 xn.length c1, .slice a2 xd.length c2] 24)).alloc (.cells #[.bool cy, .slice a3 yn.length c3, .slice a4 yd.length c4] 24)) w.heap.size 24 (.bool bx) (.slice a1 xn.length c1) (.slice a2 xd.length c2) := (box3_new w _ _ _ _).below (below_alloc _ _) (by simp)
  have hbY : Box3 ((w.alloc (.cells #[.bool bx, .slice a1 xn.length c1, .slice a2 xd.length c2] 24)).alloc (.cells #[.bool cy, .slice a3 yn.length c3, .slice a4 yd.length c4] 24)) (w.heap.size + 1) 24 (.bool cy) (.slice a3 yn.length c3) (.slice a4 yd.length c4) := by
    have h5 := box3_new (w.alloc (.cells #[.bool bx, .slice a1 xn.length c1, .slice a2 xd.length c2] 24)) (.bool cy) (.slice a3 yn.length c3) (.slice a4 yd.length c4) 24
    simpa using h5
  have b0 : Below w.heap.size w ((w.alloc (.cells #[.bool bx, .slice a1 xn.length c1, .slice a2 xd.length c2] 24)).alloc (.cells #[.bool cy, .slice a3 yn.length c3, .slice a4 yd.length c4] 24)) := (below_alloc w _).alloc (by simp) _
  have s0 : w.heap.size + 1 < ((w.alloc (.cells #[.bool bx, .slice a1 xn.length c1, .slice a2 xd.length c2] 24)).alloc (.cells #[.bool cy, .slice a3 yn.length c3, .slice a4 yd.length c4] 24)).heap.size := by simp
  have g1 := h1.below (b0.mono hB)
  have g2 := h2.below (b0.mono hB)
  have g3 := h3.below (b0.mono hB)
  have g4 := h4.below (b0.mono hB)
  clear h1 h2 h3 h4
  go_enter Tryd.func30, Tryd.ntmps30
  go_wp2
  generalize hA : ((w.alloc (.cells #[.bool bx, .slice a1 xn.length c1, .slice a2 xd.length c2] 24)).alloc (.cells #[.bool cy, .slice a3 yn.length c3, .slice a4 yd.length c4] 24)) = wP at *
  clear hA
  have hcells : ∀ {w' : World}, Below wP.heap.size wP w' → w'.cell? ⟨w.heap.size, 0, none⟩ = some (.bool bx) ∧ w'.cell? ⟨w.heap.size, 1, none⟩ = some (.slice a1 xn.length c1) ∧ w'.cell? ⟨w.heap.size, 2, none⟩ = some (.slice a2 xd.length c2) ∧ w'.cell? ⟨w.heap.size + 1, 0, none⟩ = some (.bool cy) ∧ w'.cell? ⟨w.heap.size + 1, 1, none⟩ = some (.slice a3 yn.length c3) ∧ w'.cell? ⟨w.heap.size + 1, 2, none⟩ = some (.slice a4 yd.length c4) := fun hb => ⟨(hbX.below hb (by omega)).c0, (hbX.below hb (by omega)).c1, (hbX.below hb (by omega)).c2, (hbY.below hb (by omega)).c0, (hbY.below hb (by omega)).c1, (hbY.below hb (by omega)).c2⟩
  obtain ⟨k0, k1, k2, k3, k4, k5⟩ := hcells (Below.refl _ _)
  have d1 : Rd B wP.drew (.slice a1 xn.length c1) xn := g1
  have d2 : Rd B wP.drew (.slice a2 xd.length c2) xd := g2
  have d3 : Rd B wP.drew (.slice a3 yn.length c3) yn := g3
  have d4 : Rd B wP.drew (.slice a4 yd.length c4) yd := g4
  have hBP : B ≤ wP.drew.heap.size := show B ≤ wP.heap.size by omega
  have hmA1 := many2 d1 d4 hBP hBP
  have hmD2 := many2 d3 d2 hBP hBP
  have hmB1 := hmA1.grow (below_alloc _ (.cells #[.slice a3 yn.length c3, .slice a2 xd.length c2] 22))
  have hmB2 : Many ((wP.drew.alloc (.cells #[.slice a1 xn.length c1, .slice a4 yd.length c4] 22)).alloc (.cells #[.slice a3 yn.length c3, .slice a2 xd.length c2] 22)) (wP.heap.size + 1) 2 [.slice a3 yn.length c3, .slice a2 xd.length c2] [yn, xd] := by
    have h := many2 (d3.below ((below_alloc wP.drew (.cells #[.slice a1 xn.length c1, .slice a4 yd.length c4] 22)).mono hBP)) (d2.below ((below_alloc wP.drew (.cells #[.slice a1 xn.length c1, .slice a4 yd.length c4] 22)).mono hBP)) (B1 := B) (B2 := B) (by simp; exact Nat.le_succ_of_le hBP) (by simp; exact Nat.le_succ_of_le hBP)
    simp only [World.size_alloc, World.size_drew] at h
    exact h
  have hmC1 : Many ((wP.drew.alloc (.cells #[.slice a3 yn.length c3, .slice a2 xd.length c2] 22)).alloc (.cells #[.slice a1 xn.length c1, .slice a4 yd.length c4] 22)) (wP.heap.size + 1) 2 [.slice a1 xn.length c1, .slice a4 yd.length c4] [xn, yd] := by
    have h := many2 (d1.below ((below_alloc wP.drew (.cells #[.slice a3 yn.length c3, .slice a2 xd.length c2] 22)).mono hBP)) (d4.below ((below_alloc wP.drew (.cells #[.slice a3 yn.length c3, .slice a2 xd.length c2] 22)).mono hBP)) (B1 := B) (B2 := B) (by simp; exact Nat.le_succ_of_le hBP) (by simp; exact Nat.le_succ_of_le hBP)
    simp only [World.size_alloc, World.size_drew] at h
    exact h
  have hmC2 := hmD2.grow (below_alloc _ (.cells #[.slice a1 xn.length c1, .slice a4 yd.length c4] 22))
  go_region_held3 (fun w' => w'.cell? ⟨w.heap.size, 0, none⟩ = some (.bool bx) ∧ w'.cell? ⟨w.heap.size, 1, none⟩ = some (.slice a1 xn.length c1) ∧ w'.cell? ⟨w.heap.size, 2, none⟩ = some (.slice a2 xd.length c2) ∧ w'.cell? ⟨w.heap.size + 1, 0, none⟩ = some (.bool cy) ∧ w'.cell? ⟨w.heap.size + 1, 1, none⟩ = some (.slice a3 yn.length c3) ∧ w'.cell? ⟨w.heap.size + 1, 2, none⟩ = some (.slice a4 yd.length c4))
    (first | (go_keep; done) | exact tw | exact tw2 | exact tw3 | exact hcells (Below.alloc ba sa _))
    (first
      | (go_at_call 47; refine (prod_at (v1 := .slice a1 xn.length c1) (v2 := .slice a4 yd.length c4) (x1 := xn) (x2 := yd) (by first | exact hmA1 | exact hmB1 | exact hmC1) (by omega) (by omega)).mono ?_; rintro e wa ⟨za, ca, va, la, hma⟩; first | (obtain ⟨aa, qa, rfl, oa, ba⟩ := Makes.undrew (Makes.alloc (w := wP.drew) (o := (.cells #[.slice a1 xn.length c1, .slice a4 yd.length c4] 22)) hma); have sa := ba.size; have tw := hcells ba; have hm2 := many2 (g3.below (ba.mono (by omega))) (g2.below (ba.mono (by omega))) (B1 := B) (B2 := B) (by omega) (by omega)) | (obtain ⟨aa, qa, rfl, oa', ba'⟩ := hma; have hm2 := hmB2.grow ba'; obtain ⟨aa2, qa2, he2, oa, ba⟩ := Makes.undrew (Makes.alloc (w := wP.drew) (Makes.alloc (w := wP.drew.alloc (.cells #[.slice a1 xn.length c1, .slice a4 yd.length c4] 22)) (⟨aa, qa, rfl, oa', ba'⟩ : Makes _ _ wa za))); cases he2; have sa := ba.size; have tw := hcells ba) | (obtain ⟨aa, qa, rfl, oa', ba'⟩ := hma; have hm2 := hmC2.grow ba'; obtain ⟨aa2, qa2, he2, oa, ba⟩ := Makes.undrew (Makes.alloc (w := wP.drew) (Makes.alloc (w := wP.drew.alloc (.cells #[.slice a3 yn.length c3, .slice a2 xd.length c2] 22)) (⟨aa, qa, rfl, oa', ba'⟩ : Makes _ _ wa za))); cases he2; have sa := ba.size; have tw := hcells ba))
      | (go_at_call 47; refine (prod_at (v1 := .slice a3 yn.length c3) (v2 := .slice a2 xd.length c2) (x1 := yn) (x2 := xd) (by exact hm2) (by omega) (by omega)).mono ?_; rintro e wb ⟨zb, cb, vb, lb, hmb⟩; first | (obtain ⟨ab, qb, rfl, ob, bb⟩ := Makes.alloc (w := wa) (o := (.cells #[.slice a3 yn.length c3, .slice a2 xd.length c2] 22)) hmb; have sb := bb.size; have tw2 := hcells (ba.trans (bb.mono sa))) | (obtain ⟨ab, qb, rfl, ob, bb⟩ := hmb; have sb := bb.size; have tw2 := hcells (ba.trans (bb.mono sa))))
      | (go_at_call 54; refine (sum_rat (bx := bx) (cy := !cy) 65 (sg bx (val xn) * val yd + sg (!cy) (val yn) * val xd) (oa.below bb (Nat.le_refl _)).rd (Nat.le_refl _) ob.rd (Nat.le_refl _) (by omega) (by omega) (by omega) (by rw [va, vb, sg_mul, sg_mul])).mono ?_; rintro e w2 ⟨bm, b5, z5, x5, y5, rfl, o5, cz5, v5, l5⟩; have bPm : Below wP.heap.size wP w2 := (ba.trans (bb.mono sa)).trans (bm.mono (by omega)); have tw3 := hcells bPm; have HV5 : Hid (sg b5 (val z5) = sg bx (val xn) * val yd + sg (!cy) (val yn) * val xd) := v5; clear v5))
  all_goals
    go_wp2
    go_ret2
    exact ⟨b0.trans (bPm.mono (by omega)), b5, z5, x5, y5, rfl, o5.mono (by omega), cz5, HV5.out, by omega⟩
end Go.Proofs.YtibciilhfpgjjadDoor
