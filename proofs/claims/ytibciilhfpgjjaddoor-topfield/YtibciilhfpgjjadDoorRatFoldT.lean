/- rat.fold of two numbers, by rat.times. -/
import Derived.Test.YtibciilhfpgjjadDoorRatFold
namespace Go.Proofs.YtibciilhfpgjjadDoor
set_option linter.unusedVariables false
set_option linter.unusedSimpArgs false
open Go.RowKit

section
variable {B Lb : Nat} {w : World} {bx cy : Bool} {a1 a2 a3 a4 : Option Addr} {c1 c2 c3 c4 : Nat} {xn xd yn yd : List Int}

set_option maxRecDepth 100000 in
set_option maxHeartbeats 8000000 in
theorem fold2T (N D : Int) (o0 : Value) (o1 o2 : Option Addr) (m1 m2 m3 m4 : Nat) (ob : Bool)
    (hstep : ∀ (w' : World) (B' : Nat) (x1 x2 : Option Addr) (y1 y2 : Nat), Rd B' w' (.slice x1 xn.length y1) xn → Rd B' w' (.slice x2 xd.length y2) xd → Rd B' w' (.slice a3 yn.length c3) yn → Rd B' w' (.slice a4 yd.length c4) yd → B' ≤ w'.heap.size → RightP bx xn xd → RightP cy yn yd →
      Calls Tryd.prog 26 #[.agg #[.bool bx, .slice x1 xn.length y1, .slice x2 xd.length y2], .agg #[.bool cy, .slice a3 yn.length c3, .slice a4 yd.length c4]] w' fun e w'' => RMakes w' N D e w'')
    (hT : Two w Lb (.bool bx) (.slice a1 xn.length c1) (.slice a2 xd.length c2) (.bool cy) (.slice a3 yn.length c3) (.slice a4 yd.length c4)) (h1 : Rd B w (.slice a1 xn.length c1) xn) (h2 : Rd B w (.slice a2 xd.length c2) xd) (h3 : Rd B w (.slice a3 yn.length c3) yn) (h4 : Rd B w (.slice a4 yd.length c4) yd) (hB : B ≤ w.heap.size) :
    Calls Tryd.prog 37 #[.agg #[.bool ob, .slice o1 m1 m2, .slice o2 m3 m4], .func (Fn.func 26) #[] #[], .slice (some ⟨Lb, 0, none⟩) 2 2] w fun e w' => Gives w (RightP bx xn xd ∧ RightP cy yn yd) N D e w' := by
  have hbR : Box3 ((w.alloc (.cells #[.bool ob, .slice o1 m1 m2, .slice o2 m3 m4] 24)).alloc (.cells #[.bool false, .slice none 0 0, .slice none 0 0] 24)) (w.heap.size + 1) 24 (.bool false) (.slice none 0 0) (.slice none 0 0) := by
    have h5 := box3_new (w.alloc (.cells #[.bool ob, .slice o1 m1 m2, .slice o2 m3 m4] 24)) (.bool false) (.slice none 0 0) (.slice none 0 0) 24
    simpa using h5
  have b0 : Below w.heap.size w ((w.alloc (.cells #[.bool ob, .slice o1 m1 m2, .slice o2 m3 m4] 24)).alloc (.cells #[.bool false, .slice none 0 0, .slice none 0 0] 24)) := (below_alloc w _).alloc (by simp) _
  have s0 : w.heap.size + 1 < ((w.alloc (.cells #[.bool ob, .slice o1 m1 m2, .slice o2 m3 m4] 24)).alloc (.cells #[.bool false, .slice none 0 0, .slice none 0 0] 24)).heap.size := by simp
  have g1 := h1.below (b0.mono hB)
  have g2 := h2.below (b0.mono hB)
  have g3 := h3.below (b0.mono hB)
  have g4 := h4.below (b0.mono hB)
  have hTP := hT.below b0
  have hlt := hT.lt
  clear h1 h2 h3 h4 hT
  go_enter Tryd.func37, Tryd.ntmps37
  go_wp2_with fail
  generalize hA : ((w.alloc (.cells #[.bool ob, .slice o1 m1 m2, .slice o2 m3 m4] 24)).alloc (.cells #[.bool false, .slice none 0 0, .slice none 0 0] 24)) = wP at *
  clear hA
  refine (allRight2 hTP g1 g2 g3 g4 (by omega)).mono ?_
  rintro e wa ⟨⟨r, rfl, hr⟩, ba⟩
  have sa := ba.size
  have hRa := hbR.below ba s0
  cases r with
  | false =>
    have HP : Hid (¬ (RightP bx xn xd ∧ RightP cy yn yd)) := fun h => by have := hr.2 h; cases this
    clear hr
    have q0 := hRa.c0
    have q1 := hRa.c1
    have q2 := hRa.c2
    have p0 := hRa.f0
    have p1 := hRa.f1
    have p2 := hRa.f2
    go_wp2
    have hR3 := hRa.set (.bool false) (.slice none 0 0) (.slice none 0 0)
    have r0 := hR3.c0
    have r1 := hR3.c1
    have r2 := hR3.c2
    refine bodyPost_ret (v := .tuple #[.agg #[.bool false, .slice none 0 0, .slice none 0 0], .int .i64 22]) (by simp [results, Tryd.results37, go_sem, r0, r1, r2]) rfl ?_
    exact ⟨Below.set3 (b0.trans (ba.mono (by omega))) (by omega) _ _ _, false, none, 0, 0, none, 0, 0, 22, rfl, Or.inl ⟨HP.out, rfl, rfl, rfl, rfl, rfl, rfl, rfl, rfl⟩⟩
  | true =>
    have HP : Hid (RightP bx xn xd ∧ RightP cy yn yd) := hr.1 rfl
    clear hr
    have hTa := hTP.below ba
    obtain ⟨lt', m0', m1', m2', m3', m4', m5'⟩ := hTa
    have f1 := g1.below (ba.mono (by omega))
    have f2 := g2.below (ba.mono (by omega))
    have f3 := g3.below (ba.mono (by omega))
    have f4 := g4.below (ba.mono (by omega))
    clear g1 g2 g3 g4 hTP
    have HB : Hid ((bx && decide (0 < xn.length)) = bx) := by
      unfold Hid
      cases bx with
      | false => rfl
      | true =>
        have h5 := HP.out.1.2.2.2.2.1
        rw [decide_eq_true (by by_cases h6 : xn.length = 0; exact absurd ⟨rfl, h6⟩ h5; omega)]; rfl
    have hne1 : ¬ wa.heap.size = Lb := by omega
    have hne2 : ¬ Lb = wa.heap.size := by omega
    have e1 : Rd B wa.drew (.slice a1 xn.length c1) xn := f1
    have e2 : Rd B wa.drew (.slice a2 xd.length c2) xd := f2
    have hBd : B ≤ wa.drew.heap.size := show B ≤ wa.heap.size by omega
    have zI := below_alloc wa.drew (.cells #[.bool false, .slice none 0 0, .slice none 0 0] 24)
    have i1 := e1.below (zI.mono hBd)
    have i2 := e2.below (zI.mono hBd)
    have hBI : B ≤ (wa.drew.alloc (.cells #[.bool false, .slice none 0 0, .slice none 0 0] 24)).heap.size := Nat.le_trans hBd zI.size
    have hbI := box3_new wa.drew (.bool false) (.slice none 0 0) (.slice none 0 0) 24
    have ltI : wa.drew.heap.size < (wa.drew.alloc (.cells #[.bool false, .slice none 0 0, .slice none 0 0] 24)).heap.size := by simp
    have hTcells : ∀ {w' : World}, Below wa.heap.size wa w' → w'.cell? ⟨Lb, 0, none⟩ = some (.bool bx) ∧ w'.cell? ⟨Lb, 1, none⟩ = some (.slice a1 xn.length c1) ∧ w'.cell? ⟨Lb, 2, none⟩ = some (.slice a2 xd.length c2) := fun hb => ⟨(hb.cell (p := ⟨Lb, 0, none⟩) lt').trans m0', (hb.cell (p := ⟨Lb, 1, none⟩) lt').trans m1', (hb.cell (p := ⟨Lb, 2, none⟩) lt').trans m2'⟩
    go_wp2
    go_region_held3 (fun w' => w'.cell? ⟨Lb, 0, none⟩ = some (.bool bx) ∧ w'.cell? ⟨Lb, 1, none⟩ = some (.slice a1 xn.length c1) ∧ w'.cell? ⟨Lb, 2, none⟩ = some (.slice a2 xd.length c2))
      (first | (go_keep; done) | exact tw)
      ((go_at_call 23; refine (withSign_rat (by first | exact e1 | exact i1) (by first | exact e2 | exact i2) (by first | exact hBd | exact hBI) HP.out.1).mono ?_; rintro e wb ⟨bb, x1, y1, x2, y2, he, ox, od⟩; rw [HB.out] at he; subst he; first | (have hb8 : Box3 wb wa.heap.size 24 (.bool false) (.slice none 0 0) (.slice none 0 0) := hbI.below bb ltI; have bab : Below wa.heap.size wa wb := (Below.alloc (⟨rfl, rfl, rfl, Nat.le_refl _, fun _ _ => rfl⟩ : Below wa.heap.size wa wa.drew) (Nat.le_refl _) _).trans (bb.mono (Nat.le_of_lt ltI)); have oxa : Own wa.heap.size wb (.slice x1 xn.length y1) xn := ox.mono (Nat.le_of_lt ltI); have oda : Own wa.heap.size wb (.slice x2 xd.length y2) xd := od.mono (Nat.le_of_lt ltI); have q0 := hb8.c0; have q1 := hb8.c1; have q2 := hb8.c2; have p0 := hb8.f0; have p1 := hb8.f1; have p2 := hb8.f2; have tw := hTcells bab) | (have bab : Below wa.heap.size wa wb := ⟨bb.os, bb.tape, bb.output, bb.size, bb.block⟩; have oxa : Own wa.heap.size wb (.slice x1 xn.length y1) xn := ox; have oda : Own wa.heap.size wb (.slice x2 xd.length y2) xd := od; have tw := hTcells bab)))
    · have zb := bab.size
      have hb8 := box3_new wb (.bool bx) (.slice x1 xn.length y1) (.slice x2 xd.length y2) 24
      have ba8 : Below wa.heap.size wa (wb.alloc (.cells #[.bool bx, .slice x1 xn.length y1, .slice x2 xd.length y2] 24)) := bab.alloc zb _
      have ox8 := oxa.alloc (.cells #[.bool bx, .slice x1 xn.length y1, .slice x2 xd.length y2] 24)
      have od8 := oda.alloc (.cells #[.bool bx, .slice x1 xn.length y1, .slice x2 xd.length y2] 24)
      have lt8 : wb.heap.size < (wb.alloc (.cells #[.bool bx, .slice x1 xn.length y1, .slice x2 xd.length y2] 24)).heap.size := by simp
      have g8 : wa.heap.size ≤ wb.heap.size := zb
      generalize hW8 : (wb.alloc (.cells #[.bool bx, .slice x1 xn.length y1, .slice x2 xd.length y2] 24)) = w8 at *
      clear hW8
      have z8 := ba8.size
      have y3 := (ba8.cell (p := ⟨Lb, 3, none⟩) lt').trans m3'
      have y4' := (ba8.cell (p := ⟨Lb, 4, none⟩) lt').trans m4'
      have y5' := (ba8.cell (p := ⟨Lb, 5, none⟩) lt').trans m5'
      have u3 := f3.below (ba8.mono (by omega))
      have u4 := f4.below (ba8.mono (by omega))
      have hR8 := hRa.below ba8 (by omega)
      have b9 := below_alloc w8 (.cells #[.bool cy, .slice a3 yn.length c3, .slice a4 yd.length c4] 24)
      have n0 := (b9.cell (p := ⟨wb.heap.size, 0, none⟩) lt8).trans hb8.c0
      have n1 := (b9.cell (p := ⟨wb.heap.size, 1, none⟩) lt8).trans hb8.c1
      have n2 := (b9.cell (p := ⟨wb.heap.size, 2, none⟩) lt8).trans hb8.c2
      have s9 := b9.size
      clear m0' m1' m2' m3' m4' m5' e1 e2 i1 i2 f1 f2 f3 f4 tw hbI zI
      go_wp2
      refine wp_loop_rounds 2 ?_
      rw [rounds_succ]
      go_wp2_with fail
      refine (hstep _ (w8.alloc (.cells #[.bool cy, .slice a3 yn.length c3, .slice a4 yd.length c4] 24)).heap.size x1 x2 y1 y2 (ox8.alloc _).rd (od8.alloc _).rd ((u3.below (b9.mono (by omega))).mono (by omega)) ((u4.below (b9.mono (by omega))).mono (by omega)) (Nat.le_refl _) HP.out.1 HP.out.2).mono ?_
      intro e w10 hm
      obtain ⟨bm, b5, x5, n5, y5, x6, n6, y6, err, rfl, hform⟩ := hm.form
      have bA : Below w8.heap.size w8 w10 := b9.trans (bm.mono s9)
      have h8' := hb8.below bA lt8
      have hR10 := hR8.below bA (by omega)
      have q0 := h8'.c0
      have q1 := h8'.c1
      have q2 := h8'.c2
      have p0 := h8'.f0
      have p1 := h8'.f1
      have p2 := h8'.f2
      have bw10 : Below w.heap.size w w10 := b0.trans ((ba.mono (by omega)).trans ((ba8.mono (by omega)).trans (bA.mono (by omega))))
      clear hm
      rcases hform.out with ⟨rfl, rfl, rfl, rfl, rfl, rfl, rfl, rfl, hbig⟩ | ⟨rfl, ns, ds, rfl, rfl, on, od', hr, hv⟩
      · have HBG : Hid (Big N D) := hbig
        clear hbig hform
        have hRs := hR10.other (R := wb.heap.size) (by omega) (.bool false) (.slice none 0 0) (.slice none 0 0)
        have j0 := hRs.c0
        have j1 := hRs.c1
        have j2 := hRs.c2
        have l0 := hRs.f0
        have l1 := hRs.f1
        have l2 := hRs.f2
        go_wp2
        have hR3 := hRs.set (.bool false) (.slice none 0 0) (.slice none 0 0)
        have r0 := hR3.c0
        have r1 := hR3.c1
        have r2 := hR3.c2
        refine bodyPost_ret (v := .tuple #[.agg #[.bool false, .slice none 0 0, .slice none 0 0], .int .i64 8]) (by simp [results, Tryd.results37, go_sem, r0, r1, r2]) rfl ?_
        exact ⟨Below.set3 (Below.set3 bw10 (by omega) _ _ _) (by omega) _ _ _, false, none, 0, 0, none, 0, 0, 8, rfl, Or.inr (Or.inl ⟨HP.out, rfl, rfl, rfl, rfl, rfl, rfl, rfl, rfl, HBG.out⟩)⟩
      · have HX : Hid (RightP b5 ns ds ∧ sg b5 (val ns) * D = N * val ds) := ⟨hr, hv⟩
        clear hr hv hform
        have hRs := hR10.other (R := wb.heap.size) (by omega) (.bool b5) (.slice x5 ns.length y5) (.slice x6 ds.length y6)
        have h8s := h8'.set (.bool b5) (.slice x5 ns.length y5) (.slice x6 ds.length y6)
        have v0 := h8s.c0
        have v1 := h8s.c1
        have v2 := h8s.c2
        have j0 := hRs.c0
        have j1 := hRs.c1
        have j2 := hRs.c2
        have l0 := hRs.f0
        have l1 := hRs.f1
        have l2 := hRs.f2
        go_wp2
        rw [rounds_succ]
        go_wp2
        have hR3 := hRs.set (.bool b5) (.slice x5 ns.length y5) (.slice x6 ds.length y6)
        have r0 := hR3.c0
        have r1 := hR3.c1
        have r2 := hR3.c2
        refine bodyPost_ret (v := .tuple #[.agg #[.bool b5, .slice x5 ns.length y5, .slice x6 ds.length y6], .int .i64 0]) (by simp [results, Tryd.results37, go_sem, r0, r1, r2]) rfl ?_
        exact ⟨Below.set3 (Below.set3 bw10 (by omega) _ _ _) (by omega) _ _ _, b5, x5, ns.length, y5, x6, ds.length, y6, 0, rfl, Or.inr (Or.inr ⟨HP.out, rfl, ns, ds, rfl, rfl, (Own.set3 (Own.set3 on (by omega) _ _ _) (by omega) _ _ _).mono (by omega), (Own.set3 (Own.set3 od' (by omega) _ _ _) (by omega) _ _ _).mono (by omega), HX.out.1, HX.out.2⟩)⟩
    · have hb8' := hb8
      replace hb8 := hb8'.set (.bool bx) (.slice x1 xn.length y1) (.slice x2 xd.length y2)
      have ba8 : Below wa.heap.size wa (((wb.setCell ⟨wa.heap.size, 0, none⟩ (.bool bx)).setCell ⟨wa.heap.size, 1, none⟩ (.slice x1 xn.length y1)).setCell ⟨wa.heap.size, 2, none⟩ (.slice x2 xd.length y2)) := Below.set3 bab (Nat.le_refl _) _ _ _
      have ox8 : Own wa.heap.size (((wb.setCell ⟨wa.heap.size, 0, none⟩ (.bool bx)).setCell ⟨wa.heap.size, 1, none⟩ (.slice x1 xn.length y1)).setCell ⟨wa.heap.size, 2, none⟩ (.slice x2 xd.length y2)) (.slice x1 xn.length y1) xn := (Own.set3 ox ltI _ _ _).mono (Nat.le_of_lt ltI)
      have od8 : Own wa.heap.size (((wb.setCell ⟨wa.heap.size, 0, none⟩ (.bool bx)).setCell ⟨wa.heap.size, 1, none⟩ (.slice x1 xn.length y1)).setCell ⟨wa.heap.size, 2, none⟩ (.slice x2 xd.length y2)) (.slice x2 xd.length y2) xd := (Own.set3 od ltI _ _ _).mono (Nat.le_of_lt ltI)
      have lt8 : wa.heap.size < (((wb.setCell ⟨wa.heap.size, 0, none⟩ (.bool bx)).setCell ⟨wa.heap.size, 1, none⟩ (.slice x1 xn.length y1)).setCell ⟨wa.heap.size, 2, none⟩ (.slice x2 xd.length y2)).heap.size := by
        have h5 : wa.heap.size < wb.heap.size := Nat.lt_of_lt_of_le ltI bb.size
        simpa using h5
      have g8 : wa.heap.size ≤ wa.heap.size := Nat.le_refl _
      clear hb8' q0 q1 q2 p0 p1 p2
      generalize hW8 : (((wb.setCell ⟨wa.heap.size, 0, none⟩ (.bool bx)).setCell ⟨wa.heap.size, 1, none⟩ (.slice x1 xn.length y1)).setCell ⟨wa.heap.size, 2, none⟩ (.slice x2 xd.length y2)) = w8 at *
      clear hW8
      have z8 := ba8.size
      have y3 := (ba8.cell (p := ⟨Lb, 3, none⟩) lt').trans m3'
      have y4' := (ba8.cell (p := ⟨Lb, 4, none⟩) lt').trans m4'
      have y5' := (ba8.cell (p := ⟨Lb, 5, none⟩) lt').trans m5'
      have u3 := f3.below (ba8.mono (by omega))
      have u4 := f4.below (ba8.mono (by omega))
      have hR8 := hRa.below ba8 (by omega)
      have b9 := below_alloc w8 (.cells #[.bool cy, .slice a3 yn.length c3, .slice a4 yd.length c4] 24)
      have n0 := (b9.cell (p := ⟨wa.heap.size, 0, none⟩) lt8).trans hb8.c0
      have n1 := (b9.cell (p := ⟨wa.heap.size, 1, none⟩) lt8).trans hb8.c1
      have n2 := (b9.cell (p := ⟨wa.heap.size, 2, none⟩) lt8).trans hb8.c2
      have s9 := b9.size
      clear m0' m1' m2' m3' m4' m5' e1 e2 i1 i2 f1 f2 f3 f4 tw hbI zI
      go_wp2
      refine wp_loop_rounds 2 ?_
      rw [rounds_succ]
      go_wp2_with fail
      refine (hstep _ (w8.alloc (.cells #[.bool cy, .slice a3 yn.length c3, .slice a4 yd.length c4] 24)).heap.size x1 x2 y1 y2 (ox8.alloc _).rd (od8.alloc _).rd ((u3.below (b9.mono (by omega))).mono (by omega)) ((u4.below (b9.mono (by omega))).mono (by omega)) (Nat.le_refl _) HP.out.1 HP.out.2).mono ?_
      intro e w10 hm
      obtain ⟨bm, b5, x5, n5, y5, x6, n6, y6, err, rfl, hform⟩ := hm.form
      have bA : Below w8.heap.size w8 w10 := b9.trans (bm.mono s9)
      have h8' := hb8.below bA lt8
      have hR10 := hR8.below bA (by omega)
      have q0 := h8'.c0
      have q1 := h8'.c1
      have q2 := h8'.c2
      have p0 := h8'.f0
      have p1 := h8'.f1
      have p2 := h8'.f2
      have bw10 : Below w.heap.size w w10 := b0.trans ((ba.mono (by omega)).trans ((ba8.mono (by omega)).trans (bA.mono (by omega))))
      clear hm
      rcases hform.out with ⟨rfl, rfl, rfl, rfl, rfl, rfl, rfl, rfl, hbig⟩ | ⟨rfl, ns, ds, rfl, rfl, on, od', hr, hv⟩
      · have HBG : Hid (Big N D) := hbig
        clear hbig hform
        have hRs := hR10.other (R := wa.heap.size) (by omega) (.bool false) (.slice none 0 0) (.slice none 0 0)
        have j0 := hRs.c0
        have j1 := hRs.c1
        have j2 := hRs.c2
        have l0 := hRs.f0
        have l1 := hRs.f1
        have l2 := hRs.f2
        go_wp2
        have hR3 := hRs.set (.bool false) (.slice none 0 0) (.slice none 0 0)
        have r0 := hR3.c0
        have r1 := hR3.c1
        have r2 := hR3.c2
        refine bodyPost_ret (v := .tuple #[.agg #[.bool false, .slice none 0 0, .slice none 0 0], .int .i64 8]) (by simp [results, Tryd.results37, go_sem, r0, r1, r2]) rfl ?_
        exact ⟨Below.set3 (Below.set3 bw10 (by omega) _ _ _) (by omega) _ _ _, false, none, 0, 0, none, 0, 0, 8, rfl, Or.inr (Or.inl ⟨HP.out, rfl, rfl, rfl, rfl, rfl, rfl, rfl, rfl, HBG.out⟩)⟩
      · have HX : Hid (RightP b5 ns ds ∧ sg b5 (val ns) * D = N * val ds) := ⟨hr, hv⟩
        clear hr hv hform
        have hRs := hR10.other (R := wa.heap.size) (by omega) (.bool b5) (.slice x5 ns.length y5) (.slice x6 ds.length y6)
        have h8s := h8'.set (.bool b5) (.slice x5 ns.length y5) (.slice x6 ds.length y6)
        have v0 := h8s.c0
        have v1 := h8s.c1
        have v2 := h8s.c2
        have j0 := hRs.c0
        have j1 := hRs.c1
        have j2 := hRs.c2
        have l0 := hRs.f0
        have l1 := hRs.f1
        have l2 := hRs.f2
        go_wp2
        rw [rounds_succ]
        go_wp2
        have hR3 := hRs.set (.bool b5) (.slice x5 ns.length y5) (.slice x6 ds.length y6)
        have r0 := hR3.c0
        have r1 := hR3.c1
        have r2 := hR3.c2
        refine bodyPost_ret (v := .tuple #[.agg #[.bool b5, .slice x5 ns.length y5, .slice x6 ds.length y6], .int .i64 0]) (by simp [results, Tryd.results37, go_sem, r0, r1, r2]) rfl ?_
        exact ⟨Below.set3 (Below.set3 bw10 (by omega) _ _ _) (by omega) _ _ _, b5, x5, ns.length, y5, x6, ds.length, y6, 0, rfl, Or.inr (Or.inr ⟨HP.out, rfl, ns, ds, rfl, rfl, (Own.set3 (Own.set3 on (by omega) _ _ _) (by omega) _ _ _).mono (by omega), (Own.set3 (Own.set3 od' (by omega) _ _ _) (by omega) _ _ _).mono (by omega), HX.out.1, HX.out.2⟩)⟩
end
end Go.Proofs.YtibciilhfpgjjadDoor
