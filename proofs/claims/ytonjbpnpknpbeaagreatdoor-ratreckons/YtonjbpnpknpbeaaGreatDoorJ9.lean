/- rat.fold of three numbers, by rat.times. -/
import Derived.Test.YtonjbpnpknpbeaaGreatDoorJ7
import Derived.Test.YtonjbpnpknpbeaaGreatDoorJ3
import Derived.Test.YtonjbpnpknpbeaaGreatDoorJ4
import Derived.Test.YtonjbpnpknpbeaaGreatDoorJ8
namespace Go.Proofs.YtonjbpnpknpbeaaGreatDoor
set_option linter.unusedVariables false
set_option linter.unusedSimpArgs false
open Go.RowKit

section
variable {Lb : Nat}
variable {w : World} {bx cy dz : Bool} {a1 a2 a3 a4 a5 a6 : Option Addr} {c1 c2 c3 c4 c5 c6 : Nat} {xn xd yn yd zn zd : List Int}

set_option maxRecDepth 100000 in
set_option maxHeartbeats 32000000 in
theorem fold3T (o1 o2 : Option Addr) (m1 m2 m3 m4 : Nat) (ob : Bool) (hT : Three w Lb (.bool bx) (.slice a1 xn.length c1) (.slice a2 xd.length c2) (.bool cy) (.slice a3 yn.length c3) (.slice a4 yd.length c4) (.bool dz) (.slice a5 zn.length c5) (.slice a6 zd.length c6)) (h1 : Rd w.heap.size w (.slice a1 xn.length c1) xn) (h2 : Rd w.heap.size w (.slice a2 xd.length c2) xd) (h3 : Rd w.heap.size w (.slice a3 yn.length c3) yn) (h4 : Rd w.heap.size w (.slice a4 yd.length c4) yd) (h5 : Rd w.heap.size w (.slice a5 zn.length c5) zn) (h6 : Rd w.heap.size w (.slice a6 zd.length c6) zd) :
    Calls Tryz.prog 16 #[.agg #[.bool ob, .slice o1 m1 m2, .slice o2 m3 m4], .func (Fn.func 25) #[] #[], .slice (some ⟨Lb, 0, none⟩) 3 3] w fun e w' => ∃ b ns ds err, Hid (FoldSpec (RightP bx xn xd ∧ RightP cy yn yd ∧ RightP dz zn zd) false bx xn xd cy yn yd dz zn zd b ns ds err) ∧ RAns w b ns ds err e w' := by
  have b0 : Below w.heap.size w ((w.alloc (.cells #[.bool ob, .slice o1 m1 m2, .slice o2 m3 m4] 24)).alloc (.cells #[.bool false, .slice none 0 0, .slice none 0 0] 24)) := (below_alloc w _).alloc (by simp) _
  have R : RVar ((w.alloc (.cells #[.bool ob, .slice o1 m1 m2, .slice o2 m3 m4] 24)).alloc (.cells #[.bool false, .slice none 0 0, .slice none 0 0] 24)) (w.heap.size + 1) := by
    have h5 := rvar_new (w.alloc (.cells #[.bool ob, .slice o1 m1 m2, .slice o2 m3 m4] 24))
    rw [World.size_alloc] at h5
    exact h5
  have sr : w.heap.size ≤ w.heap.size + 1 := by omega
  have g1 := (h1.below b0).mono b0.size
  have g2 := (h2.below b0).mono b0.size
  have g3 := (h3.below b0).mono b0.size
  have g4 := (h4.below b0).mono b0.size
  have g5 := (h5.below b0).mono b0.size
  have g6 := (h6.below b0).mono b0.size
  have hTP := hT.below b0
  have hlt := hT.lt
  clear h1 h2 h3 h4 h5 h6 hT
  go_enter Tryz.func16, Tryz.ntmps16
  go_wp2_with fail
  generalize hA : ((w.alloc (.cells #[.bool ob, .slice o1 m1 m2, .slice o2 m3 m4] 24)).alloc (.cells #[.bool false, .slice none 0 0, .slice none 0 0] 24)) = wP at *
  clear hA
  have g := b0
  refine (allRight3 hTP g1 g2 g3 g4 g5 g6).mono ?_
  rintro e wa ⟨⟨r, rfl, hr⟩, ba⟩
  replace R := R.below ba
  replace g := g.trans (ba.mono g.size)
  cases r with
  | false =>
    have HP : Hid (¬ (RightP bx xn xd ∧ RightP cy yn yd ∧ RightP dz zn zd)) := fun h => by have := hr.2 h; cases this
    clear hr
    have q0 := R.box.c0
    have q1 := R.box.c1
    have q2 := R.box.c2
    have p0 := R.box.f0
    have p1 := R.box.f1
    have p2 := R.box.f2
    go_wp2
    have hR3 := R.box.set (.bool false) (.slice none 0 0) (.slice none 0 0)
    have r0 := hR3.c0
    have r1 := hR3.c1
    have r2 := hR3.c2
    refine bodyPost_ret (v := .tuple #[.agg #[.bool false, .slice none 0 0, .slice none 0 0], .int .i64 22]) (by simp [results, Tryz.results16, go_sem, r0, r1, r2]) rfl ?_
    exact ⟨false, [], [], 22, Or.inl ⟨HP.out, rfl, rfl, rfl, rfl⟩, Below.set3 g sr _ _ _, none, 0, none, 0, rfl, nil_rd _, nil_rd _⟩
  | true =>
    have HP : Hid (RightP bx xn xd ∧ RightP cy yn yd ∧ RightP dz zn zd) := hr.1 rfl
    clear hr
    have hTa := hTP.below ba
    have hTa' := hTa
    obtain ⟨lt', m0', m1', m2', m3', m4', m5', m6', m7', m8'⟩ := hTa'
    have B0 := b0.size
    have B1 := ba.size
    have RltA := R.lt
    have f1 := (g1.below ba).mono ba.size
    have f2 := (g2.below ba).mono ba.size
    have f3 := (g3.below ba).mono ba.size
    have f4 := (g4.below ba).mono ba.size
    have f5 := (g5.below ba).mono ba.size
    have f6 := (g6.below ba).mono ba.size
    clear g1 g2 g3 g4 g5 g6 hTP ba
    have HB : Hid ((bx && decide (0 < xn.length)) = bx) := by
      unfold Hid
      cases bx with
      | false => rfl
      | true =>
        have h5 := HP.out.1.2.2.2.2.1
        rw [decide_eq_true (by by_cases h6 : xn.length = 0; exact absurd ⟨rfl, h6⟩ h5; omega)]; rfl
    have hne1 : ¬ wa.heap.size = Lb := by omega
    have hne2 : ¬ Lb = wa.heap.size := by omega
    have e1 : Rd wa.heap.size wa.drew (.slice a1 xn.length c1) xn := f1
    have e2 : Rd wa.heap.size wa.drew (.slice a2 xd.length c2) xd := f2
    have hBd : wa.heap.size ≤ wa.drew.heap.size := Nat.le_refl _
    have zI := below_alloc wa.drew (.cells #[.bool false, .slice none 0 0, .slice none 0 0] 24)
    have i1 := e1.below (zI.mono hBd)
    have i2 := e2.below (zI.mono hBd)
    have hBI : wa.heap.size ≤ (wa.drew.alloc (.cells #[.bool false, .slice none 0 0, .slice none 0 0] 24)).heap.size := Nat.le_trans hBd zI.size
    have hbI := box3_new wa.drew (.bool false) (.slice none 0 0) (.slice none 0 0) 24
    have ltI : wa.drew.heap.size < (wa.drew.alloc (.cells #[.bool false, .slice none 0 0, .slice none 0 0] 24)).heap.size := by simp
    have hTcells : ∀ {w' : World}, Below wa.heap.size wa w' → w'.cell? ⟨Lb, 0, none⟩ = some (.bool bx) ∧ w'.cell? ⟨Lb, 1, none⟩ = some (.slice a1 xn.length c1) ∧ w'.cell? ⟨Lb, 2, none⟩ = some (.slice a2 xd.length c2) := fun hb => ⟨(hb.cell (p := ⟨Lb, 0, none⟩) lt').trans m0', (hb.cell (p := ⟨Lb, 1, none⟩) lt').trans m1', (hb.cell (p := ⟨Lb, 2, none⟩) lt').trans m2'⟩
    go_wp2
    go_region_held3 (fun w' => w'.cell? ⟨Lb, 0, none⟩ = some (.bool bx) ∧ w'.cell? ⟨Lb, 1, none⟩ = some (.slice a1 xn.length c1) ∧ w'.cell? ⟨Lb, 2, none⟩ = some (.slice a2 xd.length c2))
      (first | (go_keep; done) | exact tw)
      ((go_at_call 35; refine (withSign_rat (by first | exact e1 | exact i1) (by first | exact e2 | exact i2) (by first | exact hBd | exact hBI) HP.out.1).mono ?_; rintro e wb ⟨bb, x1, y1, x2, y2, he, ox, od⟩; rw [HB.out] at he; subst he; first | (have hb8 : Box3 wb wa.heap.size 24 (.bool false) (.slice none 0 0) (.slice none 0 0) := hbI.below bb ltI; have bab : Below wa.heap.size wa wb := (Below.alloc (⟨rfl, rfl, rfl, Nat.le_refl _, fun _ _ => rfl⟩ : Below wa.heap.size wa wa.drew) (Nat.le_refl _) _).trans (bb.mono (Nat.le_of_lt ltI)); have oxa : Own wa.heap.size wb (.slice x1 xn.length y1) xn := ox.mono (Nat.le_of_lt ltI); have oda : Own wa.heap.size wb (.slice x2 xd.length y2) xd := od.mono (Nat.le_of_lt ltI); have q0 := hb8.c0; have q1 := hb8.c1; have q2 := hb8.c2; have p0 := hb8.f0; have p1 := hb8.f1; have p2 := hb8.f2; have tw := hTcells bab) | (have bab : Below wa.heap.size wa wb := ⟨bb.os, bb.tape, bb.output, bb.size, bb.block⟩; have oxa : Own wa.heap.size wb (.slice x1 xn.length y1) xn := ox; have oda : Own wa.heap.size wb (.slice x2 xd.length y2) xd := od; have tw := hTcells bab)))
    · have zb := bab.size
      have hb8 := box3_new wb (.bool bx) (.slice x1 xn.length y1) (.slice x2 xd.length y2) 24
      have ba8 : Below wa.heap.size wa (wb.alloc (.cells #[.bool bx, .slice x1 xn.length y1, .slice x2 xd.length y2] 24)) := bab.alloc zb _
      have ox8 := oxa.alloc (.cells #[.bool bx, .slice x1 xn.length y1, .slice x2 xd.length y2] 24)
      have od8 := oda.alloc (.cells #[.bool bx, .slice x1 xn.length y1, .slice x2 xd.length y2] 24)
      have lt8 : wb.heap.size < (wb.alloc (.cells #[.bool bx, .slice x1 xn.length y1, .slice x2 xd.length y2] 24)).heap.size := by simp
      have g8 : wa.heap.size ≤ wb.heap.size := zb
      generalize hW8 : (wb.alloc (.cells #[.bool bx, .slice x1 xn.length y1, .slice x2 xd.length y2] 24)) = w8 at *
      clear hW8
      have z8 := ba8.size
      have A : NVar w8 (wb.heap.size) bx x1 xn y1 x2 xd y2 := ⟨lt8, hb8, (ox8.rd.mono (Nat.le_refl _)), (od8.rd.mono (Nat.le_refl _))⟩
      replace R := R.below ba8
      replace g := g.trans (ba8.mono g.size)
      have hT8 := hTa.below ba8
      have u3 := (f3.below ba8).mono ba8.size
      have u4 := (f4.below ba8).mono ba8.size
      have u5 := (f5.below ba8).mono ba8.size
      have u6 := (f6.below ba8).mono ba8.size
      have neR : w.heap.size + 1 ≠ wb.heap.size := by omega
      have neL : Lb ≠ wb.heap.size := by omega
      have leA : w.heap.size ≤ wb.heap.size := by omega
      clear m0' m1' m2' m3' m4' m5' m6' m7' m8' e1 e2 i1 i2 f1 f2 f3 f4 f5 f6 tw hbI zI hTa hb8 ox8 od8 oxa oda ox od lt8 bab
      obtain ⟨lt8, m0, m1, m2, m3, m4, m5, m6, m7, m8⟩ := hT8
      have hT8 := Three.mk lt8 m0 m1 m2 m3 m4 m5 m6 m7 m8
      go_wp2
      refine wp_loop_rounds 3 ?_
      rw [rounds_succ]
      have kn1 := below_alloc w8 (.cells #[.bool cy, .slice a3 yn.length c3, .slice a4 yd.length c4] 24)
      have u3n := (u3.below kn1).mono kn1.size
      have u4n := (u4.below kn1).mono kn1.size
      replace u5 := (u5.below kn1).mono kn1.size
      replace u6 := (u6.below kn1).mono kn1.size
      have hT8c := hT8
      obtain ⟨_, m0, m1, m2, m3, m4, m5, m6, m7, m8⟩ := hT8c
      have hT8n := hT8.below kn1
      have An := A.below kn1
      obtain ⟨A0, A1, A2⟩ := An.cells
      go_wp2_with fail
      clear A0 A1 A2 m0 m1 m2 m3 m4 m5 m6 m7 m8 An
      replace A := A.below kn1
      replace R := R.below kn1
      replace g := g.trans (kn1.mono g.size)
      replace hT8 := hT8n
      clear hT8n kn1
      generalize hA : (w8.alloc (.cells #[.bool cy, .slice a3 yn.length c3, .slice a4 yd.length c4] 24)) = v2 at *
      clear hA
      refine (times_rat A.rn A.rd u3n u4n (Nat.le_refl _) HP.out.1 HP.out.2.1).mono ?_
      intro e w3 hm
      obtain ⟨k4, b5, x5, n5, y5, x6, n6, y6, err, rfl, hform⟩ := hm.form
      clear hm
      replace A := A.below k4
      replace R := R.below k4
      replace g := g.trans (k4.mono g.size)
      replace u5 := (u5.below k4).mono k4.size
      replace u6 := (u6.below k4).mono k4.size
      replace hT8 := hT8.below k4
      rcases hform.out with ⟨rfl, rfl, rfl, rfl, rfl, rfl, rfl, rfl, hbig⟩ | ⟨rfl, ns, ds, rfl, rfl, on, od, hr, hv⟩
      · have HBG : Hid (Big _ _) := hbig
        clear hbig hform
        have q3 := A.box.c0
        have q4 := A.box.c1
        have q5 := A.box.c2
        have p3 := A.box.f0
        have p4 := A.box.f1
        have p5 := A.box.f2
        replace R := R.by' A neR (.bool false) (.slice none 0 0) (.slice none 0 0)
        replace g := Below.set3 g leA (.bool false) (.slice none 0 0) (.slice none 0 0)
        have q0 := R.box.c0
        have q1 := R.box.c1
        have q2 := R.box.c2
        have p0 := R.box.f0
        have p1 := R.box.f1
        have p2 := R.box.f2
        go_wp2
        have hR3 := R.box.set (.bool false) (.slice none 0 0) (.slice none 0 0)
        have r0 := hR3.c0
        have r1 := hR3.c1
        have r2 := hR3.c2
        refine bodyPost_ret (v := .tuple #[.agg #[.bool false, .slice none 0 0, .slice none 0 0], .int .i64 8]) (by simp [results, Tryz.results16, go_sem, r0, r1, r2]) rfl ?_
        exact ⟨false, [], [], 8, Or.inr (Or.inl ⟨HP.out, HBG.out, rfl, rfl, rfl, rfl⟩), Below.set3 g sr _ _ _, none, 0, none, 0, rfl, nil_rd _, nil_rd _⟩
      · have HX : Hid (RightP b5 ns ds ∧ _) := ⟨hr, hv⟩
        clear hr hv hform
        have on1 := on.rd
        have od1 := od.rd
        clear on od
        have q0 := A.box.c0
        have q1 := A.box.c1
        have q2 := A.box.c2
        have p0 := A.box.f0
        have p1 := A.box.f1
        have p2 := A.box.f2
        replace R := R.by' A neR (.bool b5) (.slice x5 ns.length y5) (.slice x6 ds.length y6)
        replace g := Below.set3 g leA (.bool b5) (.slice x5 ns.length y5) (.slice x6 ds.length y6)
        replace hT8 := hT8.by' neL (u0 := .bool b5) (u1 := .slice x5 ns.length y5) (u2 := .slice x6 ds.length y6)
        replace u5 := u5.put' A.box (.bool b5) (.slice x5 ns.length y5) (.slice x6 ds.length y6)
        replace u6 := u6.put' A.box (.bool b5) (.slice x5 ns.length y5) (.slice x6 ds.length y6)
        replace A := A.put (c := b5) on1 od1
        clear on1 od1
        go_wp2
        clear q0 q1 q2 p0 p1 p2
        generalize hA : (((w3.setCell ⟨wb.heap.size, 0, none⟩ (.bool b5)).setCell ⟨wb.heap.size, 1, none⟩ (.slice x5 ns.length y5)).setCell ⟨wb.heap.size, 2, none⟩ (.slice x6 ds.length y6)) = wm at *
        clear hA
        have HX1 := HX
        clear HX
        skip
        rw [rounds_succ]
        have kn5 := below_alloc wm (.cells #[.bool dz, .slice a5 zn.length c5, .slice a6 zd.length c6] 24)
        have u5n := (u5.below kn5).mono kn5.size
        have u6n := (u6.below kn5).mono kn5.size
        have hT8c := hT8
        obtain ⟨_, m0, m1, m2, m3, m4, m5, m6, m7, m8⟩ := hT8c
        have An := A.below kn5
        obtain ⟨A0, A1, A2⟩ := An.cells
        go_wp2_with fail
        clear A0 A1 A2 m0 m1 m2 m3 m4 m5 m6 m7 m8 An
        replace A := A.below kn5
        replace R := R.below kn5
        replace g := g.trans (kn5.mono g.size)
        clear kn5
        generalize hA : (wm.alloc (.cells #[.bool dz, .slice a5 zn.length c5, .slice a6 zd.length c6] 24)) = v6 at *
        clear hA
        refine (times_rat A.rn A.rd u5n u6n (Nat.le_refl _) HX1.out.1 HP.out.2.2).mono ?_
        intro e w7 hm
        obtain ⟨k8, b7, x7, n7, y7, x8, n8, y8, err, rfl, hform⟩ := hm.form
        clear hm
        replace A := A.below k8
        replace R := R.below k8
        replace g := g.trans (k8.mono g.size)
        rcases hform.out with ⟨rfl, rfl, rfl, rfl, rfl, rfl, rfl, rfl, hbig⟩ | ⟨rfl, ms, es, rfl, rfl, on, od, hr, hv⟩
        · have HBG : Hid (Big _ _) := hbig
          clear hbig hform
          have q3 := A.box.c0
          have q4 := A.box.c1
          have q5 := A.box.c2
          have p3 := A.box.f0
          have p4 := A.box.f1
          have p5 := A.box.f2
          replace R := R.by' A neR (.bool false) (.slice none 0 0) (.slice none 0 0)
          replace g := Below.set3 g leA (.bool false) (.slice none 0 0) (.slice none 0 0)
          have q0 := R.box.c0
          have q1 := R.box.c1
          have q2 := R.box.c2
          have p0 := R.box.f0
          have p1 := R.box.f1
          have p2 := R.box.f2
          go_wp2
          have hR3 := R.box.set (.bool false) (.slice none 0 0) (.slice none 0 0)
          have r0 := hR3.c0
          have r1 := hR3.c1
          have r2 := hR3.c2
          refine bodyPost_ret (v := .tuple #[.agg #[.bool false, .slice none 0 0, .slice none 0 0], .int .i64 8]) (by simp [results, Tryz.results16, go_sem, r0, r1, r2]) rfl ?_
          exact ⟨false, [], [], 8, Or.inr (Or.inr ⟨HP.out, b5, ns, ds, HX1.out.1, HX1.out.2, Or.inr (Or.inl ⟨trivial, rfl, rfl, rfl, rfl, HBG.out⟩)⟩), Below.set3 g sr _ _ _, none, 0, none, 0, rfl, nil_rd _, nil_rd _⟩
        · have HX2 : Hid (RightP b7 ms es ∧ _) := ⟨hr, hv⟩
          clear hr hv hform
          have on1 := on.rd
          have od1 := od.rd
          clear on od
          have q3 := A.box.c0
          have q4 := A.box.c1
          have q5 := A.box.c2
          have p3 := A.box.f0
          have p4 := A.box.f1
          have p5 := A.box.f2
          replace R := R.by' A neR (.bool b7) (.slice x7 ms.length y7) (.slice x8 es.length y8)
          replace g := Below.set3 g leA (.bool b7) (.slice x7 ms.length y7) (.slice x8 es.length y8)
          replace A := A.put (c := b7) on1 od1
          clear on1 od1
          obtain ⟨A0, A1, A2⟩ := A.cells
          go_wp2
          rw [rounds_succ]
          have hres := A.result R (.bool b7) (.slice x7 ms.length y7) (.slice x8 es.length y8)
          have q0 := R.box.c0
          have q1 := R.box.c1
          have q2 := R.box.c2
          have p0 := R.box.f0
          have p1 := R.box.f1
          have p2 := R.box.f2
          go_wp2
          have hR3 := R.box.set (.bool b7) (.slice x7 ms.length y7) (.slice x8 es.length y8)
          have r0 := hR3.c0
          have r1 := hR3.c1
          have r2 := hR3.c2
          refine bodyPost_ret (v := .tuple #[.agg #[.bool b7, .slice x7 ms.length y7, .slice x8 es.length y8], .int .i64 0]) (by simp [results, Tryz.results16, go_sem, r0, r1, r2]) rfl ?_
          exact ⟨b7, ms, es, 0, Or.inr (Or.inr ⟨HP.out, b5, ns, ds, HX1.out.1, HX1.out.2, Or.inr (Or.inr ⟨trivial, rfl, HX2.out.1, HX2.out.2⟩)⟩), Below.set3 g sr _ _ _, x7, y7, x8, y8, rfl, hres.1, hres.2⟩
    · have hb8' := hb8
      replace hb8 := hb8'.set (.bool bx) (.slice x1 xn.length y1) (.slice x2 xd.length y2)
      have ba8 : Below wa.heap.size wa (((wb.setCell ⟨wa.heap.size, 0, none⟩ (.bool bx)).setCell ⟨wa.heap.size, 1, none⟩ (.slice x1 xn.length y1)).setCell ⟨wa.heap.size, 2, none⟩ (.slice x2 xd.length y2)) := Below.set3 bab (Nat.le_refl _) _ _ _
      have ox8 : Own wa.heap.size (((wb.setCell ⟨wa.heap.size, 0, none⟩ (.bool bx)).setCell ⟨wa.heap.size, 1, none⟩ (.slice x1 xn.length y1)).setCell ⟨wa.heap.size, 2, none⟩ (.slice x2 xd.length y2)) (.slice x1 xn.length y1) xn := (Own.set3 ox ltI _ _ _).mono (Nat.le_of_lt ltI)
      have od8 : Own wa.heap.size (((wb.setCell ⟨wa.heap.size, 0, none⟩ (.bool bx)).setCell ⟨wa.heap.size, 1, none⟩ (.slice x1 xn.length y1)).setCell ⟨wa.heap.size, 2, none⟩ (.slice x2 xd.length y2)) (.slice x2 xd.length y2) xd := (Own.set3 od ltI _ _ _).mono (Nat.le_of_lt ltI)
      have lt8 : wa.heap.size < (((wb.setCell ⟨wa.heap.size, 0, none⟩ (.bool bx)).setCell ⟨wa.heap.size, 1, none⟩ (.slice x1 xn.length y1)).setCell ⟨wa.heap.size, 2, none⟩ (.slice x2 xd.length y2)).heap.size := by
        have h5 : wa.heap.size < wb.heap.size := Nat.lt_of_lt_of_le ltI bb.size
        simpa using h5
      have g8 : wa.heap.size ≤ wa.heap.size := Nat.le_refl _
      clear hb8' q0 q1 q2 p0 p1 p2
      generalize hW8 : (((wb.setCell ⟨wa.heap.size, 0, none⟩ (.bool bx)).setCell ⟨wa.heap.size, 1, none⟩ (.slice x1 xn.length y1)).setCell ⟨wa.heap.size, 2, none⟩ (.slice x2 xd.length y2)) = w8 at *
      clear hW8
      have z8 := ba8.size
      have A : NVar w8 (wa.heap.size) bx x1 xn y1 x2 xd y2 := ⟨lt8, hb8, (ox8.rd.mono (Nat.le_refl _)), (od8.rd.mono (Nat.le_refl _))⟩
      replace R := R.below ba8
      replace g := g.trans (ba8.mono g.size)
      have hT8 := hTa.below ba8
      have u3 := (f3.below ba8).mono ba8.size
      have u4 := (f4.below ba8).mono ba8.size
      have u5 := (f5.below ba8).mono ba8.size
      have u6 := (f6.below ba8).mono ba8.size
      have neR : w.heap.size + 1 ≠ wa.heap.size := by omega
      have neL : Lb ≠ wa.heap.size := by omega
      have leA : w.heap.size ≤ wa.heap.size := by omega
      clear m0' m1' m2' m3' m4' m5' m6' m7' m8' e1 e2 i1 i2 f1 f2 f3 f4 f5 f6 tw hbI zI hTa hb8 ox8 od8 oxa oda ox od lt8 bab
      obtain ⟨lt8, m0, m1, m2, m3, m4, m5, m6, m7, m8⟩ := hT8
      have hT8 := Three.mk lt8 m0 m1 m2 m3 m4 m5 m6 m7 m8
      go_wp2
      refine wp_loop_rounds 3 ?_
      rw [rounds_succ]
      have kn1 := below_alloc w8 (.cells #[.bool cy, .slice a3 yn.length c3, .slice a4 yd.length c4] 24)
      have u3n := (u3.below kn1).mono kn1.size
      have u4n := (u4.below kn1).mono kn1.size
      replace u5 := (u5.below kn1).mono kn1.size
      replace u6 := (u6.below kn1).mono kn1.size
      have hT8c := hT8
      obtain ⟨_, m0, m1, m2, m3, m4, m5, m6, m7, m8⟩ := hT8c
      have hT8n := hT8.below kn1
      have An := A.below kn1
      obtain ⟨A0, A1, A2⟩ := An.cells
      go_wp2_with fail
      clear A0 A1 A2 m0 m1 m2 m3 m4 m5 m6 m7 m8 An
      replace A := A.below kn1
      replace R := R.below kn1
      replace g := g.trans (kn1.mono g.size)
      replace hT8 := hT8n
      clear hT8n kn1
      generalize hA : (w8.alloc (.cells #[.bool cy, .slice a3 yn.length c3, .slice a4 yd.length c4] 24)) = v2 at *
      clear hA
      refine (times_rat A.rn A.rd u3n u4n (Nat.le_refl _) HP.out.1 HP.out.2.1).mono ?_
      intro e w3 hm
      obtain ⟨k4, b5, x5, n5, y5, x6, n6, y6, err, rfl, hform⟩ := hm.form
      clear hm
      replace A := A.below k4
      replace R := R.below k4
      replace g := g.trans (k4.mono g.size)
      replace u5 := (u5.below k4).mono k4.size
      replace u6 := (u6.below k4).mono k4.size
      replace hT8 := hT8.below k4
      rcases hform.out with ⟨rfl, rfl, rfl, rfl, rfl, rfl, rfl, rfl, hbig⟩ | ⟨rfl, ns, ds, rfl, rfl, on, od, hr, hv⟩
      · have HBG : Hid (Big _ _) := hbig
        clear hbig hform
        have q3 := A.box.c0
        have q4 := A.box.c1
        have q5 := A.box.c2
        have p3 := A.box.f0
        have p4 := A.box.f1
        have p5 := A.box.f2
        replace R := R.by' A neR (.bool false) (.slice none 0 0) (.slice none 0 0)
        replace g := Below.set3 g leA (.bool false) (.slice none 0 0) (.slice none 0 0)
        have q0 := R.box.c0
        have q1 := R.box.c1
        have q2 := R.box.c2
        have p0 := R.box.f0
        have p1 := R.box.f1
        have p2 := R.box.f2
        go_wp2
        have hR3 := R.box.set (.bool false) (.slice none 0 0) (.slice none 0 0)
        have r0 := hR3.c0
        have r1 := hR3.c1
        have r2 := hR3.c2
        refine bodyPost_ret (v := .tuple #[.agg #[.bool false, .slice none 0 0, .slice none 0 0], .int .i64 8]) (by simp [results, Tryz.results16, go_sem, r0, r1, r2]) rfl ?_
        exact ⟨false, [], [], 8, Or.inr (Or.inl ⟨HP.out, HBG.out, rfl, rfl, rfl, rfl⟩), Below.set3 g sr _ _ _, none, 0, none, 0, rfl, nil_rd _, nil_rd _⟩
      · have HX : Hid (RightP b5 ns ds ∧ _) := ⟨hr, hv⟩
        clear hr hv hform
        have on1 := on.rd
        have od1 := od.rd
        clear on od
        have q0 := A.box.c0
        have q1 := A.box.c1
        have q2 := A.box.c2
        have p0 := A.box.f0
        have p1 := A.box.f1
        have p2 := A.box.f2
        replace R := R.by' A neR (.bool b5) (.slice x5 ns.length y5) (.slice x6 ds.length y6)
        replace g := Below.set3 g leA (.bool b5) (.slice x5 ns.length y5) (.slice x6 ds.length y6)
        replace hT8 := hT8.by' neL (u0 := .bool b5) (u1 := .slice x5 ns.length y5) (u2 := .slice x6 ds.length y6)
        replace u5 := u5.put' A.box (.bool b5) (.slice x5 ns.length y5) (.slice x6 ds.length y6)
        replace u6 := u6.put' A.box (.bool b5) (.slice x5 ns.length y5) (.slice x6 ds.length y6)
        replace A := A.put (c := b5) on1 od1
        clear on1 od1
        go_wp2
        clear q0 q1 q2 p0 p1 p2
        generalize hA : (((w3.setCell ⟨wa.heap.size, 0, none⟩ (.bool b5)).setCell ⟨wa.heap.size, 1, none⟩ (.slice x5 ns.length y5)).setCell ⟨wa.heap.size, 2, none⟩ (.slice x6 ds.length y6)) = wm at *
        clear hA
        have HX1 := HX
        clear HX
        skip
        rw [rounds_succ]
        have kn5 := below_alloc wm (.cells #[.bool dz, .slice a5 zn.length c5, .slice a6 zd.length c6] 24)
        have u5n := (u5.below kn5).mono kn5.size
        have u6n := (u6.below kn5).mono kn5.size
        have hT8c := hT8
        obtain ⟨_, m0, m1, m2, m3, m4, m5, m6, m7, m8⟩ := hT8c
        have An := A.below kn5
        obtain ⟨A0, A1, A2⟩ := An.cells
        go_wp2_with fail
        clear A0 A1 A2 m0 m1 m2 m3 m4 m5 m6 m7 m8 An
        replace A := A.below kn5
        replace R := R.below kn5
        replace g := g.trans (kn5.mono g.size)
        clear kn5
        generalize hA : (wm.alloc (.cells #[.bool dz, .slice a5 zn.length c5, .slice a6 zd.length c6] 24)) = v6 at *
        clear hA
        refine (times_rat A.rn A.rd u5n u6n (Nat.le_refl _) HX1.out.1 HP.out.2.2).mono ?_
        intro e w7 hm
        obtain ⟨k8, b7, x7, n7, y7, x8, n8, y8, err, rfl, hform⟩ := hm.form
        clear hm
        replace A := A.below k8
        replace R := R.below k8
        replace g := g.trans (k8.mono g.size)
        rcases hform.out with ⟨rfl, rfl, rfl, rfl, rfl, rfl, rfl, rfl, hbig⟩ | ⟨rfl, ms, es, rfl, rfl, on, od, hr, hv⟩
        · have HBG : Hid (Big _ _) := hbig
          clear hbig hform
          have q3 := A.box.c0
          have q4 := A.box.c1
          have q5 := A.box.c2
          have p3 := A.box.f0
          have p4 := A.box.f1
          have p5 := A.box.f2
          replace R := R.by' A neR (.bool false) (.slice none 0 0) (.slice none 0 0)
          replace g := Below.set3 g leA (.bool false) (.slice none 0 0) (.slice none 0 0)
          have q0 := R.box.c0
          have q1 := R.box.c1
          have q2 := R.box.c2
          have p0 := R.box.f0
          have p1 := R.box.f1
          have p2 := R.box.f2
          go_wp2
          have hR3 := R.box.set (.bool false) (.slice none 0 0) (.slice none 0 0)
          have r0 := hR3.c0
          have r1 := hR3.c1
          have r2 := hR3.c2
          refine bodyPost_ret (v := .tuple #[.agg #[.bool false, .slice none 0 0, .slice none 0 0], .int .i64 8]) (by simp [results, Tryz.results16, go_sem, r0, r1, r2]) rfl ?_
          exact ⟨false, [], [], 8, Or.inr (Or.inr ⟨HP.out, b5, ns, ds, HX1.out.1, HX1.out.2, Or.inr (Or.inl ⟨trivial, rfl, rfl, rfl, rfl, HBG.out⟩)⟩), Below.set3 g sr _ _ _, none, 0, none, 0, rfl, nil_rd _, nil_rd _⟩
        · have HX2 : Hid (RightP b7 ms es ∧ _) := ⟨hr, hv⟩
          clear hr hv hform
          have on1 := on.rd
          have od1 := od.rd
          clear on od
          have q3 := A.box.c0
          have q4 := A.box.c1
          have q5 := A.box.c2
          have p3 := A.box.f0
          have p4 := A.box.f1
          have p5 := A.box.f2
          replace R := R.by' A neR (.bool b7) (.slice x7 ms.length y7) (.slice x8 es.length y8)
          replace g := Below.set3 g leA (.bool b7) (.slice x7 ms.length y7) (.slice x8 es.length y8)
          replace A := A.put (c := b7) on1 od1
          clear on1 od1
          obtain ⟨A0, A1, A2⟩ := A.cells
          go_wp2
          rw [rounds_succ]
          have hres := A.result R (.bool b7) (.slice x7 ms.length y7) (.slice x8 es.length y8)
          have q0 := R.box.c0
          have q1 := R.box.c1
          have q2 := R.box.c2
          have p0 := R.box.f0
          have p1 := R.box.f1
          have p2 := R.box.f2
          go_wp2
          have hR3 := R.box.set (.bool b7) (.slice x7 ms.length y7) (.slice x8 es.length y8)
          have r0 := hR3.c0
          have r1 := hR3.c1
          have r2 := hR3.c2
          refine bodyPost_ret (v := .tuple #[.agg #[.bool b7, .slice x7 ms.length y7, .slice x8 es.length y8], .int .i64 0]) (by simp [results, Tryz.results16, go_sem, r0, r1, r2]) rfl ?_
          exact ⟨b7, ms, es, 0, Or.inr (Or.inr ⟨HP.out, b5, ns, ds, HX1.out.1, HX1.out.2, Or.inr (Or.inr ⟨trivial, rfl, HX2.out.1, HX2.out.2⟩)⟩), Below.set3 g sr _ _ _, x7, y7, x8, y8, rfl, hres.1, hres.2⟩
end
end Go.Proofs.YtonjbpnpknpbeaaGreatDoor

/- rat.fold of three numbers, by rat.plus. -/
namespace Go.Proofs.YtonjbpnpknpbeaaGreatDoor
set_option linter.unusedVariables false
set_option linter.unusedSimpArgs false
open Go.RowKit

section
variable {Lb : Nat}
variable {w : World} {bx cy dz : Bool} {a1 a2 a3 a4 a5 a6 : Option Addr} {c1 c2 c3 c4 c5 c6 : Nat} {xn xd yn yd zn zd : List Int}

set_option maxRecDepth 100000 in
set_option maxHeartbeats 32000000 in
theorem fold3P (o1 o2 : Option Addr) (m1 m2 m3 m4 : Nat) (ob : Bool) (hT : Three w Lb (.bool bx) (.slice a1 xn.length c1) (.slice a2 xd.length c2) (.bool cy) (.slice a3 yn.length c3) (.slice a4 yd.length c4) (.bool dz) (.slice a5 zn.length c5) (.slice a6 zd.length c6)) (h1 : Rd w.heap.size w (.slice a1 xn.length c1) xn) (h2 : Rd w.heap.size w (.slice a2 xd.length c2) xd) (h3 : Rd w.heap.size w (.slice a3 yn.length c3) yn) (h4 : Rd w.heap.size w (.slice a4 yd.length c4) yd) (h5 : Rd w.heap.size w (.slice a5 zn.length c5) zn) (h6 : Rd w.heap.size w (.slice a6 zd.length c6) zd) :
    Calls Tryz.prog 16 #[.agg #[.bool ob, .slice o1 m1 m2, .slice o2 m3 m4], .func (Fn.func 18) #[] #[], .slice (some ⟨Lb, 0, none⟩) 3 3] w fun e w' => ∃ b ns ds err, Hid (FoldSpec (RightP bx xn xd ∧ RightP cy yn yd ∧ RightP dz zn zd) true bx xn xd cy yn yd dz zn zd b ns ds err) ∧ RAns w b ns ds err e w' := by
  have b0 : Below w.heap.size w ((w.alloc (.cells #[.bool ob, .slice o1 m1 m2, .slice o2 m3 m4] 24)).alloc (.cells #[.bool false, .slice none 0 0, .slice none 0 0] 24)) := (below_alloc w _).alloc (by simp) _
  have R : RVar ((w.alloc (.cells #[.bool ob, .slice o1 m1 m2, .slice o2 m3 m4] 24)).alloc (.cells #[.bool false, .slice none 0 0, .slice none 0 0] 24)) (w.heap.size + 1) := by
    have h5 := rvar_new (w.alloc (.cells #[.bool ob, .slice o1 m1 m2, .slice o2 m3 m4] 24))
    rw [World.size_alloc] at h5
    exact h5
  have sr : w.heap.size ≤ w.heap.size + 1 := by omega
  have g1 := (h1.below b0).mono b0.size
  have g2 := (h2.below b0).mono b0.size
  have g3 := (h3.below b0).mono b0.size
  have g4 := (h4.below b0).mono b0.size
  have g5 := (h5.below b0).mono b0.size
  have g6 := (h6.below b0).mono b0.size
  have hTP := hT.below b0
  have hlt := hT.lt
  clear h1 h2 h3 h4 h5 h6 hT
  go_enter Tryz.func16, Tryz.ntmps16
  go_wp2_with fail
  generalize hA : ((w.alloc (.cells #[.bool ob, .slice o1 m1 m2, .slice o2 m3 m4] 24)).alloc (.cells #[.bool false, .slice none 0 0, .slice none 0 0] 24)) = wP at *
  clear hA
  have g := b0
  refine (allRight3 hTP g1 g2 g3 g4 g5 g6).mono ?_
  rintro e wa ⟨⟨r, rfl, hr⟩, ba⟩
  replace R := R.below ba
  replace g := g.trans (ba.mono g.size)
  cases r with
  | false =>
    have HP : Hid (¬ (RightP bx xn xd ∧ RightP cy yn yd ∧ RightP dz zn zd)) := fun h => by have := hr.2 h; cases this
    clear hr
    have q0 := R.box.c0
    have q1 := R.box.c1
    have q2 := R.box.c2
    have p0 := R.box.f0
    have p1 := R.box.f1
    have p2 := R.box.f2
    go_wp2
    have hR3 := R.box.set (.bool false) (.slice none 0 0) (.slice none 0 0)
    have r0 := hR3.c0
    have r1 := hR3.c1
    have r2 := hR3.c2
    refine bodyPost_ret (v := .tuple #[.agg #[.bool false, .slice none 0 0, .slice none 0 0], .int .i64 22]) (by simp [results, Tryz.results16, go_sem, r0, r1, r2]) rfl ?_
    exact ⟨false, [], [], 22, Or.inl ⟨HP.out, rfl, rfl, rfl, rfl⟩, Below.set3 g sr _ _ _, none, 0, none, 0, rfl, nil_rd _, nil_rd _⟩
  | true =>
    have HP : Hid (RightP bx xn xd ∧ RightP cy yn yd ∧ RightP dz zn zd) := hr.1 rfl
    clear hr
    have hTa := hTP.below ba
    have hTa' := hTa
    obtain ⟨lt', m0', m1', m2', m3', m4', m5', m6', m7', m8'⟩ := hTa'
    have B0 := b0.size
    have B1 := ba.size
    have RltA := R.lt
    have f1 := (g1.below ba).mono ba.size
    have f2 := (g2.below ba).mono ba.size
    have f3 := (g3.below ba).mono ba.size
    have f4 := (g4.below ba).mono ba.size
    have f5 := (g5.below ba).mono ba.size
    have f6 := (g6.below ba).mono ba.size
    clear g1 g2 g3 g4 g5 g6 hTP ba
    have HB : Hid ((bx && decide (0 < xn.length)) = bx) := by
      unfold Hid
      cases bx with
      | false => rfl
      | true =>
        have h5 := HP.out.1.2.2.2.2.1
        rw [decide_eq_true (by by_cases h6 : xn.length = 0; exact absurd ⟨rfl, h6⟩ h5; omega)]; rfl
    have hne1 : ¬ wa.heap.size = Lb := by omega
    have hne2 : ¬ Lb = wa.heap.size := by omega
    have e1 : Rd wa.heap.size wa.drew (.slice a1 xn.length c1) xn := f1
    have e2 : Rd wa.heap.size wa.drew (.slice a2 xd.length c2) xd := f2
    have hBd : wa.heap.size ≤ wa.drew.heap.size := Nat.le_refl _
    have zI := below_alloc wa.drew (.cells #[.bool false, .slice none 0 0, .slice none 0 0] 24)
    have i1 := e1.below (zI.mono hBd)
    have i2 := e2.below (zI.mono hBd)
    have hBI : wa.heap.size ≤ (wa.drew.alloc (.cells #[.bool false, .slice none 0 0, .slice none 0 0] 24)).heap.size := Nat.le_trans hBd zI.size
    have hbI := box3_new wa.drew (.bool false) (.slice none 0 0) (.slice none 0 0) 24
    have ltI : wa.drew.heap.size < (wa.drew.alloc (.cells #[.bool false, .slice none 0 0, .slice none 0 0] 24)).heap.size := by simp
    have hTcells : ∀ {w' : World}, Below wa.heap.size wa w' → w'.cell? ⟨Lb, 0, none⟩ = some (.bool bx) ∧ w'.cell? ⟨Lb, 1, none⟩ = some (.slice a1 xn.length c1) ∧ w'.cell? ⟨Lb, 2, none⟩ = some (.slice a2 xd.length c2) := fun hb => ⟨(hb.cell (p := ⟨Lb, 0, none⟩) lt').trans m0', (hb.cell (p := ⟨Lb, 1, none⟩) lt').trans m1', (hb.cell (p := ⟨Lb, 2, none⟩) lt').trans m2'⟩
    go_wp2
    go_region_held3 (fun w' => w'.cell? ⟨Lb, 0, none⟩ = some (.bool bx) ∧ w'.cell? ⟨Lb, 1, none⟩ = some (.slice a1 xn.length c1) ∧ w'.cell? ⟨Lb, 2, none⟩ = some (.slice a2 xd.length c2))
      (first | (go_keep; done) | exact tw)
      ((go_at_call 35; refine (withSign_rat (by first | exact e1 | exact i1) (by first | exact e2 | exact i2) (by first | exact hBd | exact hBI) HP.out.1).mono ?_; rintro e wb ⟨bb, x1, y1, x2, y2, he, ox, od⟩; rw [HB.out] at he; subst he; first | (have hb8 : Box3 wb wa.heap.size 24 (.bool false) (.slice none 0 0) (.slice none 0 0) := hbI.below bb ltI; have bab : Below wa.heap.size wa wb := (Below.alloc (⟨rfl, rfl, rfl, Nat.le_refl _, fun _ _ => rfl⟩ : Below wa.heap.size wa wa.drew) (Nat.le_refl _) _).trans (bb.mono (Nat.le_of_lt ltI)); have oxa : Own wa.heap.size wb (.slice x1 xn.length y1) xn := ox.mono (Nat.le_of_lt ltI); have oda : Own wa.heap.size wb (.slice x2 xd.length y2) xd := od.mono (Nat.le_of_lt ltI); have q0 := hb8.c0; have q1 := hb8.c1; have q2 := hb8.c2; have p0 := hb8.f0; have p1 := hb8.f1; have p2 := hb8.f2; have tw := hTcells bab) | (have bab : Below wa.heap.size wa wb := ⟨bb.os, bb.tape, bb.output, bb.size, bb.block⟩; have oxa : Own wa.heap.size wb (.slice x1 xn.length y1) xn := ox; have oda : Own wa.heap.size wb (.slice x2 xd.length y2) xd := od; have tw := hTcells bab)))
    · have zb := bab.size
      have hb8 := box3_new wb (.bool bx) (.slice x1 xn.length y1) (.slice x2 xd.length y2) 24
      have ba8 : Below wa.heap.size wa (wb.alloc (.cells #[.bool bx, .slice x1 xn.length y1, .slice x2 xd.length y2] 24)) := bab.alloc zb _
      have ox8 := oxa.alloc (.cells #[.bool bx, .slice x1 xn.length y1, .slice x2 xd.length y2] 24)
      have od8 := oda.alloc (.cells #[.bool bx, .slice x1 xn.length y1, .slice x2 xd.length y2] 24)
      have lt8 : wb.heap.size < (wb.alloc (.cells #[.bool bx, .slice x1 xn.length y1, .slice x2 xd.length y2] 24)).heap.size := by simp
      have g8 : wa.heap.size ≤ wb.heap.size := zb
      generalize hW8 : (wb.alloc (.cells #[.bool bx, .slice x1 xn.length y1, .slice x2 xd.length y2] 24)) = w8 at *
      clear hW8
      have z8 := ba8.size
      have A : NVar w8 (wb.heap.size) bx x1 xn y1 x2 xd y2 := ⟨lt8, hb8, (ox8.rd.mono (Nat.le_refl _)), (od8.rd.mono (Nat.le_refl _))⟩
      replace R := R.below ba8
      replace g := g.trans (ba8.mono g.size)
      have hT8 := hTa.below ba8
      have u3 := (f3.below ba8).mono ba8.size
      have u4 := (f4.below ba8).mono ba8.size
      have u5 := (f5.below ba8).mono ba8.size
      have u6 := (f6.below ba8).mono ba8.size
      have neR : w.heap.size + 1 ≠ wb.heap.size := by omega
      have neL : Lb ≠ wb.heap.size := by omega
      have leA : w.heap.size ≤ wb.heap.size := by omega
      clear m0' m1' m2' m3' m4' m5' m6' m7' m8' e1 e2 i1 i2 f1 f2 f3 f4 f5 f6 tw hbI zI hTa hb8 ox8 od8 oxa oda ox od lt8 bab
      obtain ⟨lt8, m0, m1, m2, m3, m4, m5, m6, m7, m8⟩ := hT8
      have hT8 := Three.mk lt8 m0 m1 m2 m3 m4 m5 m6 m7 m8
      go_wp2
      refine wp_loop_rounds 3 ?_
      rw [rounds_succ]
      have kn1 := below_alloc w8 (.cells #[.bool cy, .slice a3 yn.length c3, .slice a4 yd.length c4] 24)
      have u3n := (u3.below kn1).mono kn1.size
      have u4n := (u4.below kn1).mono kn1.size
      replace u5 := (u5.below kn1).mono kn1.size
      replace u6 := (u6.below kn1).mono kn1.size
      have hT8c := hT8
      obtain ⟨_, m0, m1, m2, m3, m4, m5, m6, m7, m8⟩ := hT8c
      have hT8n := hT8.below kn1
      have An := A.below kn1
      obtain ⟨A0, A1, A2⟩ := An.cells
      go_wp2_with fail
      clear A0 A1 A2 m0 m1 m2 m3 m4 m5 m6 m7 m8 An
      replace A := A.below kn1
      replace R := R.below kn1
      replace g := g.trans (kn1.mono g.size)
      replace hT8 := hT8n
      clear hT8n kn1
      generalize hA : (w8.alloc (.cells #[.bool cy, .slice a3 yn.length c3, .slice a4 yd.length c4] 24)) = v2 at *
      clear hA
      refine (plus_rat A.rn A.rd u3n u4n (Nat.le_refl _) HP.out.1 HP.out.2.1).mono ?_
      intro e w3 hm
      obtain ⟨k4, b5, x5, n5, y5, x6, n6, y6, err, rfl, hform⟩ := hm.form
      clear hm
      replace A := A.below k4
      replace R := R.below k4
      replace g := g.trans (k4.mono g.size)
      replace u5 := (u5.below k4).mono k4.size
      replace u6 := (u6.below k4).mono k4.size
      replace hT8 := hT8.below k4
      rcases hform.out with ⟨rfl, rfl, rfl, rfl, rfl, rfl, rfl, rfl, hbig⟩ | ⟨rfl, ns, ds, rfl, rfl, on, od, hr, hv⟩
      · have HBG : Hid (Big _ _) := hbig
        clear hbig hform
        have q3 := A.box.c0
        have q4 := A.box.c1
        have q5 := A.box.c2
        have p3 := A.box.f0
        have p4 := A.box.f1
        have p5 := A.box.f2
        replace R := R.by' A neR (.bool false) (.slice none 0 0) (.slice none 0 0)
        replace g := Below.set3 g leA (.bool false) (.slice none 0 0) (.slice none 0 0)
        have q0 := R.box.c0
        have q1 := R.box.c1
        have q2 := R.box.c2
        have p0 := R.box.f0
        have p1 := R.box.f1
        have p2 := R.box.f2
        go_wp2
        have hR3 := R.box.set (.bool false) (.slice none 0 0) (.slice none 0 0)
        have r0 := hR3.c0
        have r1 := hR3.c1
        have r2 := hR3.c2
        refine bodyPost_ret (v := .tuple #[.agg #[.bool false, .slice none 0 0, .slice none 0 0], .int .i64 8]) (by simp [results, Tryz.results16, go_sem, r0, r1, r2]) rfl ?_
        exact ⟨false, [], [], 8, Or.inr (Or.inl ⟨HP.out, HBG.out, rfl, rfl, rfl, rfl⟩), Below.set3 g sr _ _ _, none, 0, none, 0, rfl, nil_rd _, nil_rd _⟩
      · have HX : Hid (RightP b5 ns ds ∧ _) := ⟨hr, hv⟩
        clear hr hv hform
        have on1 := on.rd
        have od1 := od.rd
        clear on od
        have q0 := A.box.c0
        have q1 := A.box.c1
        have q2 := A.box.c2
        have p0 := A.box.f0
        have p1 := A.box.f1
        have p2 := A.box.f2
        replace R := R.by' A neR (.bool b5) (.slice x5 ns.length y5) (.slice x6 ds.length y6)
        replace g := Below.set3 g leA (.bool b5) (.slice x5 ns.length y5) (.slice x6 ds.length y6)
        replace hT8 := hT8.by' neL (u0 := .bool b5) (u1 := .slice x5 ns.length y5) (u2 := .slice x6 ds.length y6)
        replace u5 := u5.put' A.box (.bool b5) (.slice x5 ns.length y5) (.slice x6 ds.length y6)
        replace u6 := u6.put' A.box (.bool b5) (.slice x5 ns.length y5) (.slice x6 ds.length y6)
        replace A := A.put (c := b5) on1 od1
        clear on1 od1
        go_wp2
        clear q0 q1 q2 p0 p1 p2
        generalize hA : (((w3.setCell ⟨wb.heap.size, 0, none⟩ (.bool b5)).setCell ⟨wb.heap.size, 1, none⟩ (.slice x5 ns.length y5)).setCell ⟨wb.heap.size, 2, none⟩ (.slice x6 ds.length y6)) = wm at *
        clear hA
        have HX1 := HX
        clear HX
        skip
        rw [rounds_succ]
        have kn5 := below_alloc wm (.cells #[.bool dz, .slice a5 zn.length c5, .slice a6 zd.length c6] 24)
        have u5n := (u5.below kn5).mono kn5.size
        have u6n := (u6.below kn5).mono kn5.size
        have hT8c := hT8
        obtain ⟨_, m0, m1, m2, m3, m4, m5, m6, m7, m8⟩ := hT8c
        have An := A.below kn5
        obtain ⟨A0, A1, A2⟩ := An.cells
        go_wp2_with fail
        clear A0 A1 A2 m0 m1 m2 m3 m4 m5 m6 m7 m8 An
        replace A := A.below kn5
        replace R := R.below kn5
        replace g := g.trans (kn5.mono g.size)
        clear kn5
        generalize hA : (wm.alloc (.cells #[.bool dz, .slice a5 zn.length c5, .slice a6 zd.length c6] 24)) = v6 at *
        clear hA
        refine (plus_rat A.rn A.rd u5n u6n (Nat.le_refl _) HX1.out.1 HP.out.2.2).mono ?_
        intro e w7 hm
        obtain ⟨k8, b7, x7, n7, y7, x8, n8, y8, err, rfl, hform⟩ := hm.form
        clear hm
        replace A := A.below k8
        replace R := R.below k8
        replace g := g.trans (k8.mono g.size)
        rcases hform.out with ⟨rfl, rfl, rfl, rfl, rfl, rfl, rfl, rfl, hbig⟩ | ⟨rfl, ms, es, rfl, rfl, on, od, hr, hv⟩
        · have HBG : Hid (Big _ _) := hbig
          clear hbig hform
          have q3 := A.box.c0
          have q4 := A.box.c1
          have q5 := A.box.c2
          have p3 := A.box.f0
          have p4 := A.box.f1
          have p5 := A.box.f2
          replace R := R.by' A neR (.bool false) (.slice none 0 0) (.slice none 0 0)
          replace g := Below.set3 g leA (.bool false) (.slice none 0 0) (.slice none 0 0)
          have q0 := R.box.c0
          have q1 := R.box.c1
          have q2 := R.box.c2
          have p0 := R.box.f0
          have p1 := R.box.f1
          have p2 := R.box.f2
          go_wp2
          have hR3 := R.box.set (.bool false) (.slice none 0 0) (.slice none 0 0)
          have r0 := hR3.c0
          have r1 := hR3.c1
          have r2 := hR3.c2
          refine bodyPost_ret (v := .tuple #[.agg #[.bool false, .slice none 0 0, .slice none 0 0], .int .i64 8]) (by simp [results, Tryz.results16, go_sem, r0, r1, r2]) rfl ?_
          exact ⟨false, [], [], 8, Or.inr (Or.inr ⟨HP.out, b5, ns, ds, HX1.out.1, HX1.out.2, Or.inr (Or.inl ⟨trivial, rfl, rfl, rfl, rfl, HBG.out⟩)⟩), Below.set3 g sr _ _ _, none, 0, none, 0, rfl, nil_rd _, nil_rd _⟩
        · have HX2 : Hid (RightP b7 ms es ∧ _) := ⟨hr, hv⟩
          clear hr hv hform
          have on1 := on.rd
          have od1 := od.rd
          clear on od
          have q3 := A.box.c0
          have q4 := A.box.c1
          have q5 := A.box.c2
          have p3 := A.box.f0
          have p4 := A.box.f1
          have p5 := A.box.f2
          replace R := R.by' A neR (.bool b7) (.slice x7 ms.length y7) (.slice x8 es.length y8)
          replace g := Below.set3 g leA (.bool b7) (.slice x7 ms.length y7) (.slice x8 es.length y8)
          replace A := A.put (c := b7) on1 od1
          clear on1 od1
          obtain ⟨A0, A1, A2⟩ := A.cells
          go_wp2
          rw [rounds_succ]
          have hres := A.result R (.bool b7) (.slice x7 ms.length y7) (.slice x8 es.length y8)
          have q0 := R.box.c0
          have q1 := R.box.c1
          have q2 := R.box.c2
          have p0 := R.box.f0
          have p1 := R.box.f1
          have p2 := R.box.f2
          go_wp2
          have hR3 := R.box.set (.bool b7) (.slice x7 ms.length y7) (.slice x8 es.length y8)
          have r0 := hR3.c0
          have r1 := hR3.c1
          have r2 := hR3.c2
          refine bodyPost_ret (v := .tuple #[.agg #[.bool b7, .slice x7 ms.length y7, .slice x8 es.length y8], .int .i64 0]) (by simp [results, Tryz.results16, go_sem, r0, r1, r2]) rfl ?_
          exact ⟨b7, ms, es, 0, Or.inr (Or.inr ⟨HP.out, b5, ns, ds, HX1.out.1, HX1.out.2, Or.inr (Or.inr ⟨trivial, rfl, HX2.out.1, HX2.out.2⟩)⟩), Below.set3 g sr _ _ _, x7, y7, x8, y8, rfl, hres.1, hres.2⟩
    · have hb8' := hb8
      replace hb8 := hb8'.set (.bool bx) (.slice x1 xn.length y1) (.slice x2 xd.length y2)
      have ba8 : Below wa.heap.size wa (((wb.setCell ⟨wa.heap.size, 0, none⟩ (.bool bx)).setCell ⟨wa.heap.size, 1, none⟩ (.slice x1 xn.length y1)).setCell ⟨wa.heap.size, 2, none⟩ (.slice x2 xd.length y2)) := Below.set3 bab (Nat.le_refl _) _ _ _
      have ox8 : Own wa.heap.size (((wb.setCell ⟨wa.heap.size, 0, none⟩ (.bool bx)).setCell ⟨wa.heap.size, 1, none⟩ (.slice x1 xn.length y1)).setCell ⟨wa.heap.size, 2, none⟩ (.slice x2 xd.length y2)) (.slice x1 xn.length y1) xn := (Own.set3 ox ltI _ _ _).mono (Nat.le_of_lt ltI)
      have od8 : Own wa.heap.size (((wb.setCell ⟨wa.heap.size, 0, none⟩ (.bool bx)).setCell ⟨wa.heap.size, 1, none⟩ (.slice x1 xn.length y1)).setCell ⟨wa.heap.size, 2, none⟩ (.slice x2 xd.length y2)) (.slice x2 xd.length y2) xd := (Own.set3 od ltI _ _ _).mono (Nat.le_of_lt ltI)
      have lt8 : wa.heap.size < (((wb.setCell ⟨wa.heap.size, 0, none⟩ (.bool bx)).setCell ⟨wa.heap.size, 1, none⟩ (.slice x1 xn.length y1)).setCell ⟨wa.heap.size, 2, none⟩ (.slice x2 xd.length y2)).heap.size := by
        have h5 : wa.heap.size < wb.heap.size := Nat.lt_of_lt_of_le ltI bb.size
        simpa using h5
      have g8 : wa.heap.size ≤ wa.heap.size := Nat.le_refl _
      clear hb8' q0 q1 q2 p0 p1 p2
      generalize hW8 : (((wb.setCell ⟨wa.heap.size, 0, none⟩ (.bool bx)).setCell ⟨wa.heap.size, 1, none⟩ (.slice x1 xn.length y1)).setCell ⟨wa.heap.size, 2, none⟩ (.slice x2 xd.length y2)) = w8 at *
      clear hW8
      have z8 := ba8.size
      have A : NVar w8 (wa.heap.size) bx x1 xn y1 x2 xd y2 := ⟨lt8, hb8, (ox8.rd.mono (Nat.le_refl _)), (od8.rd.mono (Nat.le_refl _))⟩
      replace R := R.below ba8
      replace g := g.trans (ba8.mono g.size)
      have hT8 := hTa.below ba8
      have u3 := (f3.below ba8).mono ba8.size
      have u4 := (f4.below ba8).mono ba8.size
      have u5 := (f5.below ba8).mono ba8.size
      have u6 := (f6.below ba8).mono ba8.size
      have neR : w.heap.size + 1 ≠ wa.heap.size := by omega
      have neL : Lb ≠ wa.heap.size := by omega
      have leA : w.heap.size ≤ wa.heap.size := by omega
      clear m0' m1' m2' m3' m4' m5' m6' m7' m8' e1 e2 i1 i2 f1 f2 f3 f4 f5 f6 tw hbI zI hTa hb8 ox8 od8 oxa oda ox od lt8 bab
      obtain ⟨lt8, m0, m1, m2, m3, m4, m5, m6, m7, m8⟩ := hT8
      have hT8 := Three.mk lt8 m0 m1 m2 m3 m4 m5 m6 m7 m8
      go_wp2
      refine wp_loop_rounds 3 ?_
      rw [rounds_succ]
      have kn1 := below_alloc w8 (.cells #[.bool cy, .slice a3 yn.length c3, .slice a4 yd.length c4] 24)
      have u3n := (u3.below kn1).mono kn1.size
      have u4n := (u4.below kn1).mono kn1.size
      replace u5 := (u5.below kn1).mono kn1.size
      replace u6 := (u6.below kn1).mono kn1.size
      have hT8c := hT8
      obtain ⟨_, m0, m1, m2, m3, m4, m5, m6, m7, m8⟩ := hT8c
      have hT8n := hT8.below kn1
      have An := A.below kn1
      obtain ⟨A0, A1, A2⟩ := An.cells
      go_wp2_with fail
      clear A0 A1 A2 m0 m1 m2 m3 m4 m5 m6 m7 m8 An
      replace A := A.below kn1
      replace R := R.below kn1
      replace g := g.trans (kn1.mono g.size)
      replace hT8 := hT8n
      clear hT8n kn1
      generalize hA : (w8.alloc (.cells #[.bool cy, .slice a3 yn.length c3, .slice a4 yd.length c4] 24)) = v2 at *
      clear hA
      refine (plus_rat A.rn A.rd u3n u4n (Nat.le_refl _) HP.out.1 HP.out.2.1).mono ?_
      intro e w3 hm
      obtain ⟨k4, b5, x5, n5, y5, x6, n6, y6, err, rfl, hform⟩ := hm.form
      clear hm
      replace A := A.below k4
      replace R := R.below k4
      replace g := g.trans (k4.mono g.size)
      replace u5 := (u5.below k4).mono k4.size
      replace u6 := (u6.below k4).mono k4.size
      replace hT8 := hT8.below k4
      rcases hform.out with ⟨rfl, rfl, rfl, rfl, rfl, rfl, rfl, rfl, hbig⟩ | ⟨rfl, ns, ds, rfl, rfl, on, od, hr, hv⟩
      · have HBG : Hid (Big _ _) := hbig
        clear hbig hform
        have q3 := A.box.c0
        have q4 := A.box.c1
        have q5 := A.box.c2
        have p3 := A.box.f0
        have p4 := A.box.f1
        have p5 := A.box.f2
        replace R := R.by' A neR (.bool false) (.slice none 0 0) (.slice none 0 0)
        replace g := Below.set3 g leA (.bool false) (.slice none 0 0) (.slice none 0 0)
        have q0 := R.box.c0
        have q1 := R.box.c1
        have q2 := R.box.c2
        have p0 := R.box.f0
        have p1 := R.box.f1
        have p2 := R.box.f2
        go_wp2
        have hR3 := R.box.set (.bool false) (.slice none 0 0) (.slice none 0 0)
        have r0 := hR3.c0
        have r1 := hR3.c1
        have r2 := hR3.c2
        refine bodyPost_ret (v := .tuple #[.agg #[.bool false, .slice none 0 0, .slice none 0 0], .int .i64 8]) (by simp [results, Tryz.results16, go_sem, r0, r1, r2]) rfl ?_
        exact ⟨false, [], [], 8, Or.inr (Or.inl ⟨HP.out, HBG.out, rfl, rfl, rfl, rfl⟩), Below.set3 g sr _ _ _, none, 0, none, 0, rfl, nil_rd _, nil_rd _⟩
      · have HX : Hid (RightP b5 ns ds ∧ _) := ⟨hr, hv⟩
        clear hr hv hform
        have on1 := on.rd
        have od1 := od.rd
        clear on od
        have q0 := A.box.c0
        have q1 := A.box.c1
        have q2 := A.box.c2
        have p0 := A.box.f0
        have p1 := A.box.f1
        have p2 := A.box.f2
        replace R := R.by' A neR (.bool b5) (.slice x5 ns.length y5) (.slice x6 ds.length y6)
        replace g := Below.set3 g leA (.bool b5) (.slice x5 ns.length y5) (.slice x6 ds.length y6)
        replace hT8 := hT8.by' neL (u0 := .bool b5) (u1 := .slice x5 ns.length y5) (u2 := .slice x6 ds.length y6)
        replace u5 := u5.put' A.box (.bool b5) (.slice x5 ns.length y5) (.slice x6 ds.length y6)
        replace u6 := u6.put' A.box (.bool b5) (.slice x5 ns.length y5) (.slice x6 ds.length y6)
        replace A := A.put (c := b5) on1 od1
        clear on1 od1
        go_wp2
        clear q0 q1 q2 p0 p1 p2
        generalize hA : (((w3.setCell ⟨wa.heap.size, 0, none⟩ (.bool b5)).setCell ⟨wa.heap.size, 1, none⟩ (.slice x5 ns.length y5)).setCell ⟨wa.heap.size, 2, none⟩ (.slice x6 ds.length y6)) = wm at *
        clear hA
        have HX1 := HX
        clear HX
        skip
        rw [rounds_succ]
        have kn5 := below_alloc wm (.cells #[.bool dz, .slice a5 zn.length c5, .slice a6 zd.length c6] 24)
        have u5n := (u5.below kn5).mono kn5.size
        have u6n := (u6.below kn5).mono kn5.size
        have hT8c := hT8
        obtain ⟨_, m0, m1, m2, m3, m4, m5, m6, m7, m8⟩ := hT8c
        have An := A.below kn5
        obtain ⟨A0, A1, A2⟩ := An.cells
        go_wp2_with fail
        clear A0 A1 A2 m0 m1 m2 m3 m4 m5 m6 m7 m8 An
        replace A := A.below kn5
        replace R := R.below kn5
        replace g := g.trans (kn5.mono g.size)
        clear kn5
        generalize hA : (wm.alloc (.cells #[.bool dz, .slice a5 zn.length c5, .slice a6 zd.length c6] 24)) = v6 at *
        clear hA
        refine (plus_rat A.rn A.rd u5n u6n (Nat.le_refl _) HX1.out.1 HP.out.2.2).mono ?_
        intro e w7 hm
        obtain ⟨k8, b7, x7, n7, y7, x8, n8, y8, err, rfl, hform⟩ := hm.form
        clear hm
        replace A := A.below k8
        replace R := R.below k8
        replace g := g.trans (k8.mono g.size)
        rcases hform.out with ⟨rfl, rfl, rfl, rfl, rfl, rfl, rfl, rfl, hbig⟩ | ⟨rfl, ms, es, rfl, rfl, on, od, hr, hv⟩
        · have HBG : Hid (Big _ _) := hbig
          clear hbig hform
          have q3 := A.box.c0
          have q4 := A.box.c1
          have q5 := A.box.c2
          have p3 := A.box.f0
          have p4 := A.box.f1
          have p5 := A.box.f2
          replace R := R.by' A neR (.bool false) (.slice none 0 0) (.slice none 0 0)
          replace g := Below.set3 g leA (.bool false) (.slice none 0 0) (.slice none 0 0)
          have q0 := R.box.c0
          have q1 := R.box.c1
          have q2 := R.box.c2
          have p0 := R.box.f0
          have p1 := R.box.f1
          have p2 := R.box.f2
          go_wp2
          have hR3 := R.box.set (.bool false) (.slice none 0 0) (.slice none 0 0)
          have r0 := hR3.c0
          have r1 := hR3.c1
          have r2 := hR3.c2
          refine bodyPost_ret (v := .tuple #[.agg #[.bool false, .slice none 0 0, .slice none 0 0], .int .i64 8]) (by simp [results, Tryz.results16, go_sem, r0, r1, r2]) rfl ?_
          exact ⟨false, [], [], 8, Or.inr (Or.inr ⟨HP.out, b5, ns, ds, HX1.out.1, HX1.out.2, Or.inr (Or.inl ⟨trivial, rfl, rfl, rfl, rfl, HBG.out⟩)⟩), Below.set3 g sr _ _ _, none, 0, none, 0, rfl, nil_rd _, nil_rd _⟩
        · have HX2 : Hid (RightP b7 ms es ∧ _) := ⟨hr, hv⟩
          clear hr hv hform
          have on1 := on.rd
          have od1 := od.rd
          clear on od
          have q3 := A.box.c0
          have q4 := A.box.c1
          have q5 := A.box.c2
          have p3 := A.box.f0
          have p4 := A.box.f1
          have p5 := A.box.f2
          replace R := R.by' A neR (.bool b7) (.slice x7 ms.length y7) (.slice x8 es.length y8)
          replace g := Below.set3 g leA (.bool b7) (.slice x7 ms.length y7) (.slice x8 es.length y8)
          replace A := A.put (c := b7) on1 od1
          clear on1 od1
          obtain ⟨A0, A1, A2⟩ := A.cells
          go_wp2
          rw [rounds_succ]
          have hres := A.result R (.bool b7) (.slice x7 ms.length y7) (.slice x8 es.length y8)
          have q0 := R.box.c0
          have q1 := R.box.c1
          have q2 := R.box.c2
          have p0 := R.box.f0
          have p1 := R.box.f1
          have p2 := R.box.f2
          go_wp2
          have hR3 := R.box.set (.bool b7) (.slice x7 ms.length y7) (.slice x8 es.length y8)
          have r0 := hR3.c0
          have r1 := hR3.c1
          have r2 := hR3.c2
          refine bodyPost_ret (v := .tuple #[.agg #[.bool b7, .slice x7 ms.length y7, .slice x8 es.length y8], .int .i64 0]) (by simp [results, Tryz.results16, go_sem, r0, r1, r2]) rfl ?_
          exact ⟨b7, ms, es, 0, Or.inr (Or.inr ⟨HP.out, b5, ns, ds, HX1.out.1, HX1.out.2, Or.inr (Or.inr ⟨trivial, rfl, HX2.out.1, HX2.out.2⟩)⟩), Below.set3 g sr _ _ _, x7, y7, x8, y8, rfl, hres.1, hres.2⟩
end
end Go.Proofs.YtonjbpnpknpbeaaGreatDoor

/- rat.Add and rat.Mul of three. -/
namespace Go.Proofs.YtonjbpnpknpbeaaGreatDoor
set_option linter.unusedVariables false
set_option linter.unusedSimpArgs false
open Go.RowKit

section
variable {Lb : Nat}
variable {w : World} {bx cy dz : Bool} {a1 a2 a3 a4 a5 a6 : Option Addr} {c1 c2 c3 c4 c5 c6 : Nat} {xn xd yn yd zn zd : List Int}

set_option maxRecDepth 100000 in
set_option maxHeartbeats 1600000 in
theorem mul3 (hT : Three w Lb (.bool bx) (.slice a1 xn.length c1) (.slice a2 xd.length c2) (.bool cy) (.slice a3 yn.length c3) (.slice a4 yd.length c4) (.bool dz) (.slice a5 zn.length c5) (.slice a6 zd.length c6)) (h1 : Rd w.heap.size w (.slice a1 xn.length c1) xn) (h2 : Rd w.heap.size w (.slice a2 xd.length c2) xd) (h3 : Rd w.heap.size w (.slice a3 yn.length c3) yn) (h4 : Rd w.heap.size w (.slice a4 yd.length c4) yd) (h5 : Rd w.heap.size w (.slice a5 zn.length c5) zn) (h6 : Rd w.heap.size w (.slice a6 zd.length c6) zd) :
    Calls Tryz.prog 9 #[.slice (some ⟨Lb, 0, none⟩) 3 3] w fun e w' => ∃ b ns ds err, Hid (FoldSpec (RightP bx xn xd ∧ RightP cy yn yd ∧ RightP dz zn zd) false bx xn xd cy yn yd dz zn zd b ns ds err) ∧ RAns w b ns ds err e w' := by
  have R := rvar_new w
  have b0 := below_alloc w (.cells #[.bool false, .slice none 0 0, .slice none 0 0] 24)
  go_enter Tryz.func9, Tryz.ntmps9
  go_wp2_with fail
  generalize hA : w.alloc (.cells #[.bool false, .slice none 0 0, .slice none 0 0] 24) = wR at *
  clear hA
  refine (ofInt_one _).mono ?_
  rintro e wa ⟨ba, x1, y1, x2, y2, rfl, _, _⟩
  have bwa : Below w.heap.size w wa := b0.trans (ba.mono b0.size)
  have hf := fold3T x1 x2 1 y1 1 y2 false (hT.below bwa) ((h1.below bwa).mono bwa.size) ((h2.below bwa).mono bwa.size) ((h3.below bwa).mono bwa.size) ((h4.below bwa).mono bwa.size) ((h5.below bwa).mono bwa.size) ((h6.below bwa).mono bwa.size)
  go_wp2_with fail
  refine hf.mono ?_
  rintro e wb ⟨b5, ns, ds, err, HS, bb, x5, y5, x6, y6, rfl, rn, rd⟩
  have bR : Below wR.heap.size wR wb := ba.trans (bb.mono ba.size)
  have RB := R.below bR
  have q0 := RB.box.c0
  have q1 := RB.box.c1
  have q2 := RB.box.c2
  have p0 := RB.box.f0
  have p1 := RB.box.f1
  have p2 := RB.box.f2
  clear hf
  go_wp2
  have hR3 := RB.box.set (.bool b5) (.slice x5 ns.length y5) (.slice x6 ds.length y6)
  have r0 := hR3.c0
  have r1 := hR3.c1
  have r2 := hR3.c2
  refine bodyPost_ret (v := .tuple #[.agg #[.bool b5, .slice x5 ns.length y5, .slice x6 ds.length y6], .int .i64 err]) (by simp [results, Tryz.results9, go_sem, r0, r1, r2]) rfl ?_
  exact ⟨b5, ns, ds, err, HS, Below.set3 (b0.trans (bR.mono b0.size)) (Nat.le_refl _) _ _ _, x5, y5, x6, y6, rfl, rn.put' RB.box _ _ _, rd.put' RB.box _ _ _⟩

set_option maxRecDepth 100000 in
set_option maxHeartbeats 1600000 in
theorem add3 (hT : Three w Lb (.bool bx) (.slice a1 xn.length c1) (.slice a2 xd.length c2) (.bool cy) (.slice a3 yn.length c3) (.slice a4 yd.length c4) (.bool dz) (.slice a5 zn.length c5) (.slice a6 zd.length c6)) (h1 : Rd w.heap.size w (.slice a1 xn.length c1) xn) (h2 : Rd w.heap.size w (.slice a2 xd.length c2) xd) (h3 : Rd w.heap.size w (.slice a3 yn.length c3) yn) (h4 : Rd w.heap.size w (.slice a4 yd.length c4) yd) (h5 : Rd w.heap.size w (.slice a5 zn.length c5) zn) (h6 : Rd w.heap.size w (.slice a6 zd.length c6) zd) :
    Calls Tryz.prog 5 #[.slice (some ⟨Lb, 0, none⟩) 3 3] w fun e w' => ∃ b ns ds err, Hid (FoldSpec (RightP bx xn xd ∧ RightP cy yn yd ∧ RightP dz zn zd) true bx xn xd cy yn yd dz zn zd b ns ds err) ∧ RAns w b ns ds err e w' := by
  have R := rvar_new w
  have b0 := below_alloc w (.cells #[.bool false, .slice none 0 0, .slice none 0 0] 24)
  go_enter Tryz.func5, Tryz.ntmps5
  go_wp2_with fail
  generalize hA : w.alloc (.cells #[.bool false, .slice none 0 0, .slice none 0 0] 24) = wR at *
  clear hA
  refine (ofInt_zero _).mono ?_
  rintro e wa ⟨ba, x1, n1, y1, x2, n2, y2, rfl⟩
  have bwa : Below w.heap.size w wa := b0.trans (ba.mono b0.size)
  have hf := fold3P x1 x2 n1 y1 n2 y2 false (hT.below bwa) ((h1.below bwa).mono bwa.size) ((h2.below bwa).mono bwa.size) ((h3.below bwa).mono bwa.size) ((h4.below bwa).mono bwa.size) ((h5.below bwa).mono bwa.size) ((h6.below bwa).mono bwa.size)
  go_wp2_with fail
  refine hf.mono ?_
  rintro e wb ⟨b5, ns, ds, err, HS, bb, x5, y5, x6, y6, rfl, rn, rd⟩
  have bR : Below wR.heap.size wR wb := ba.trans (bb.mono ba.size)
  have RB := R.below bR
  have q0 := RB.box.c0
  have q1 := RB.box.c1
  have q2 := RB.box.c2
  have p0 := RB.box.f0
  have p1 := RB.box.f1
  have p2 := RB.box.f2
  clear hf
  go_wp2
  have hR3 := RB.box.set (.bool b5) (.slice x5 ns.length y5) (.slice x6 ds.length y6)
  have r0 := hR3.c0
  have r1 := hR3.c1
  have r2 := hR3.c2
  refine bodyPost_ret (v := .tuple #[.agg #[.bool b5, .slice x5 ns.length y5, .slice x6 ds.length y6], .int .i64 err]) (by simp [results, Tryz.results5, go_sem, r0, r1, r2]) rfl ?_
  exact ⟨b5, ns, ds, err, HS, Below.set3 (b0.trans (bR.mono b0.size)) (Nat.le_refl _) _ _ _, x5, y5, x6, y6, rfl, rn.put' RB.box _ _ _, rd.put' RB.box _ _ _⟩
end
end Go.Proofs.YtonjbpnpknpbeaaGreatDoor
