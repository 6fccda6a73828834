/- rat.OfInt of 0 and 1; rat.Mul and rat.Add of two. -/
import Derived.Test.YtibciilhfpgjjadDoorRatFoldT
import Derived.Test.YtibciilhfpgjjadDoorRatFoldP
import Derived.Test.YtibciilhfpgjjadDoorRatPlus
import Derived.Test.YtibciilhfpgjjadDoorRatBD
import Derived.Test.YtibciilhfpgjjadDoorRatAll
import Derived.Test.YtibciilhfpgjjadDoorRatRight
import Derived.Test.YtibciilhfpgjjadDoorRatTimes
import Derived.Test.YtibciilhfpgjjadDoorPrints
namespace Go.Proofs.YtibciilhfpgjjadDoor
set_option linter.unusedVariables false
set_option linter.unusedSimpArgs false
open Go.RowKit

theorem of_zero (w : World) : Calls Tryd.prog 35 #[.int .u64 0] w fun e w' => Makes w e w' [] := by
  refine (of_any 0 (by omega) (by omega) w).mono ?_
  intro e w' h
  exact h

set_option maxRecDepth 100000 in
set_option maxHeartbeats 1600000 in
theorem ofInt_one (w : World) : Calls Tryd.prog 15 #[.int .i64 1] w fun e w' => Below w.heap.size w w' ∧ ∃ x1 y1 x2 y2, e = .returned (.agg #[.bool false, .slice x1 [(1 : Int)].length y1, .slice x2 [(1 : Int)].length y2]) ∧ Own w.heap.size w' (.slice x1 [(1 : Int)].length y1) [1] ∧ Own w.heap.size w' (.slice x2 [(1 : Int)].length y2) [1] := by
  have hbR := box3_new w (.bool false) (.slice none 0 0) (.slice none 0 0) 24
  have b0 := below_alloc w (.cells #[.bool false, .slice none 0 0, .slice none 0 0] 24)
  have s0 : w.heap.size < (w.alloc (.cells #[.bool false, .slice none 0 0, .slice none 0 0] 24)).heap.size := by simp
  go_enter Tryd.func15, Tryd.ntmps15
  go_wp2_with fail
  generalize hA : w.alloc (.cells #[.bool false, .slice none 0 0, .slice none 0 0] 24) = wR at *
  clear hA
  refine (of_any 1 (by omega) (by omega) _).mono ?_
  intro e wa hm
  rw [of_small 1 (by omega) (by omega)] at hm
  obtain ⟨x1, y1, rfl, o1, ba⟩ := hm
  have sa := ba.size
  go_wp2_with fail
  refine (one_any _).mono ?_
  rintro e wb ⟨x2, y2, rfl, o2, bb⟩
  have bR : Below wR.heap.size wR wb := ba.trans (bb.mono sa)
  have hR2 := hbR.below bR s0
  have q0 := hR2.c0
  have q1 := hR2.c1
  have q2 := hR2.c2
  have p0 := hR2.f0
  have p1 := hR2.f1
  have p2 := hR2.f2
  have o1b := o1.below bb (Nat.le_refl _)
  have o2b : Own wR.heap.size wb (.slice x2 [(1 : Int)].length y2) [1] := o2.mono sa
  go_wp2
  have hR3 := hR2.set (.bool false) (.slice x1 1 y1) (.slice x2 1 y2)
  have r0 := hR3.c0
  have r1 := hR3.c1
  have r2 := hR3.c2
  refine bodyPost_ret (v := .agg #[.bool false, .slice x1 1 y1, .slice x2 1 y2]) (by simp [results, Tryd.results15, go_sem, r0, r1, r2]) rfl ?_
  exact ⟨Below.set3 (b0.trans (bR.mono (by omega))) (Nat.le_refl _) _ _ _, x1, y1, x2, y2, rfl, (Own.set3 o1b s0 _ _ _).mono (by omega), (Own.set3 o2b s0 _ _ _).mono (by omega)⟩

set_option maxRecDepth 100000 in
set_option maxHeartbeats 1600000 in
theorem ofInt_zero (w : World) : Calls Tryd.prog 15 #[.int .i64 0] w fun e w' => Below w.heap.size w w' ∧ ∃ x1 n1 y1 x2 n2 y2, e = .returned (.agg #[.bool false, .slice x1 n1 y1, .slice x2 n2 y2]) := by
  have hbR := box3_new w (.bool false) (.slice none 0 0) (.slice none 0 0) 24
  have b0 := below_alloc w (.cells #[.bool false, .slice none 0 0, .slice none 0 0] 24)
  have s0 : w.heap.size < (w.alloc (.cells #[.bool false, .slice none 0 0, .slice none 0 0] 24)).heap.size := by simp
  go_enter Tryd.func15, Tryd.ntmps15
  go_wp2_with fail
  generalize hA : w.alloc (.cells #[.bool false, .slice none 0 0, .slice none 0 0] 24) = wR at *
  clear hA
  refine (of_zero _).mono ?_
  rintro e wa ⟨x1, y1, rfl, o1, ba⟩
  have sa := ba.size
  go_wp2_with fail
  refine (one_any _).mono ?_
  rintro e wb ⟨x2, y2, rfl, o2, bb⟩
  have bR : Below wR.heap.size wR wb := ba.trans (bb.mono sa)
  have hR2 := hbR.below bR s0
  have q0 := hR2.c0
  have q1 := hR2.c1
  have q2 := hR2.c2
  have p0 := hR2.f0
  have p1 := hR2.f1
  have p2 := hR2.f2
  go_wp2
  have hR3 := hR2.set (.bool false) (.slice x1 0 y1) (.slice x2 1 y2)
  have r0 := hR3.c0
  have r1 := hR3.c1
  have r2 := hR3.c2
  refine bodyPost_ret (v := .agg #[.bool false, .slice x1 0 y1, .slice x2 1 y2]) (by simp [results, Tryd.results15, go_sem, r0, r1, r2]) rfl ?_
  exact ⟨Below.set3 (b0.trans (bR.mono (by omega))) (Nat.le_refl _) _ _ _, x1, 0, y1, x2, 1, y2, rfl⟩

/-- A reckoning's answer, laid into the variable of the result. -/
theorem gives_done {w wR w2 wF : World} {P : Prop} {N D : Int} {b : Bool} {x1 x2 : Option Addr} {n m y1 y2 R : Nat} {err : Int} (b0 : Below w.heap.size w wR) (hR : w.heap.size ≤ R) (s0 : R < wR.heap.size) (hb : Below wR.heap.size wR w2) (hF : wR.heap.size ≤ wF.heap.size) (h : Hid (Out w2 wF.heap.size P N D b x1 n y1 x2 m y2 err)) :
    Gives w P N D (.returned (.tuple #[.agg #[.bool b, .slice x1 n y1, .slice x2 m y2], .int .i64 err])) (((w2.setCell ⟨R, 0, none⟩ (.bool b)).setCell ⟨R, 1, none⟩ (.slice x1 n y1)).setCell ⟨R, 2, none⟩ (.slice x2 m y2)) :=
  ⟨Below.set3 (b0.trans (hb.mono (by omega))) hR _ _ _, b, x1, n, y1, x2, m, y2, err, rfl, h.out.turn (fun v xs ho => (Own.set3 ho (by omega) _ _ _).mono (by omega))⟩

section
variable {B Lb : Nat} {w : World} {bx cy : Bool} {a1 a2 a3 a4 : Option Addr} {c1 c2 c3 c4 : Nat} {xn xd yn yd : List Int}

set_option maxRecDepth 100000 in
set_option maxHeartbeats 1600000 in
theorem mul2 (hT : Two w Lb (.bool bx) (.slice a1 xn.length c1) (.slice a2 xd.length c2) (.bool cy) (.slice a3 yn.length c3) (.slice a4 yd.length c4)) (h1 : Rd B w (.slice a1 xn.length c1) xn) (h2 : Rd B w (.slice a2 xd.length c2) xd) (h3 : Rd B w (.slice a3 yn.length c3) yn) (h4 : Rd B w (.slice a4 yd.length c4) yd) (hB : B ≤ w.heap.size) :
    Calls Tryd.prog 16 #[.slice (some ⟨Lb, 0, none⟩) 2 2] w fun e w' => Gives w (RightP bx xn xd ∧ RightP cy yn yd) (sg bx (val xn) * sg cy (val yn)) (val xd * val yd) e w' := by
  have hbR := box3_new w (.bool false) (.slice none 0 0) (.slice none 0 0) 24
  have b0 := below_alloc w (.cells #[.bool false, .slice none 0 0, .slice none 0 0] 24)
  have s0 : w.heap.size < (w.alloc (.cells #[.bool false, .slice none 0 0, .slice none 0 0] 24)).heap.size := by simp
  go_enter Tryd.func16, Tryd.ntmps16
  go_wp2_with fail
  generalize hA : w.alloc (.cells #[.bool false, .slice none 0 0, .slice none 0 0] 24) = wR at *
  clear hA
  refine (ofInt_one _).mono ?_
  rintro e wa ⟨ba, x1, y1, x2, y2, rfl, _, _⟩
  have sa := ba.size
  have bwa : Below w.heap.size w wa := b0.trans (ba.mono (by omega))
  have hf := fold2T (B := B) (sg bx (val xn) * sg cy (val yn)) (val xd * val yd) (.bool false) x1 x2 1 y1 1 y2 false (fun w' B' x1 x2 y1 y2 e1 e2 e3 e4 e5 e6 e7 => times_rat e1 e2 e3 e4 e5 e6 e7) (hT.below bwa) (h1.below (bwa.mono hB)) (h2.below (bwa.mono hB)) (h3.below (bwa.mono hB)) (h4.below (bwa.mono hB)) (by omega)
  go_wp2_with fail
  refine hf.mono ?_
  rintro e wb ⟨bb, b5, x5, n5, y5, x6, n6, y6, err, rfl, hout⟩
  have bR : Below wR.heap.size wR wb := ba.trans (bb.mono sa)
  have hR2 := hbR.below bR s0
  have q0 := hR2.c0
  have q1 := hR2.c1
  have q2 := hR2.c2
  have p0 := hR2.f0
  have p1 := hR2.f1
  have p2 := hR2.f2
  clear hf
  go_wp2
  have hR3 := hR2.set (.bool b5) (.slice x5 n5 y5) (.slice x6 n6 y6)
  have r0 := hR3.c0
  have r1 := hR3.c1
  have r2 := hR3.c2
  refine bodyPost_ret (v := .tuple #[.agg #[.bool b5, .slice x5 n5 y5, .slice x6 n6 y6], .int .i64 err]) (by simp [results, Tryd.results16, go_sem, r0, r1, r2]) rfl ?_
  exact gives_done b0 (Nat.le_refl _) s0 bR sa hout

set_option maxRecDepth 100000 in
set_option maxHeartbeats 1600000 in
theorem add2 (hT : Two w Lb (.bool bx) (.slice a1 xn.length c1) (.slice a2 xd.length c2) (.bool cy) (.slice a3 yn.length c3) (.slice a4 yd.length c4)) (h1 : Rd B w (.slice a1 xn.length c1) xn) (h2 : Rd B w (.slice a2 xd.length c2) xd) (h3 : Rd B w (.slice a3 yn.length c3) yn) (h4 : Rd B w (.slice a4 yd.length c4) yd) (hB : B ≤ w.heap.size) :
    Calls Tryd.prog 18 #[.slice (some ⟨Lb, 0, none⟩) 2 2] w fun e w' => Gives w (RightP bx xn xd ∧ RightP cy yn yd) (sg bx (val xn) * val yd + sg cy (val yn) * val xd) (val xd * val yd) e w' := by
  have hbR := box3_new w (.bool false) (.slice none 0 0) (.slice none 0 0) 24
  have b0 := below_alloc w (.cells #[.bool false, .slice none 0 0, .slice none 0 0] 24)
  have s0 : w.heap.size < (w.alloc (.cells #[.bool false, .slice none 0 0, .slice none 0 0] 24)).heap.size := by simp
  go_enter Tryd.func18, Tryd.ntmps18
  go_wp2_with fail
  generalize hA : w.alloc (.cells #[.bool false, .slice none 0 0, .slice none 0 0] 24) = wR at *
  clear hA
  refine (ofInt_zero _).mono ?_
  rintro e wa ⟨ba, x1, n1, y1, x2, n2, y2, rfl⟩
  have sa := ba.size
  have bwa : Below w.heap.size w wa := b0.trans (ba.mono (by omega))
  have hf := fold2P (B := B) (sg bx (val xn) * val yd + sg cy (val yn) * val xd) (val xd * val yd) (.bool false) x1 x2 n1 y1 n2 y2 false (fun w' B' x1 x2 y1 y2 e1 e2 e3 e4 e5 e6 e7 => plus_rat e1 e2 e3 e4 e5 e6 e7) (hT.below bwa) (h1.below (bwa.mono hB)) (h2.below (bwa.mono hB)) (h3.below (bwa.mono hB)) (h4.below (bwa.mono hB)) (by omega)
  go_wp2_with fail
  refine hf.mono ?_
  rintro e wb ⟨bb, b5, x5, n5, y5, x6, n6, y6, err, rfl, hout⟩
  have bR : Below wR.heap.size wR wb := ba.trans (bb.mono sa)
  have hR2 := hbR.below bR s0
  have q0 := hR2.c0
  have q1 := hR2.c1
  have q2 := hR2.c2
  have p0 := hR2.f0
  have p1 := hR2.f1
  have p2 := hR2.f2
  clear hf
  go_wp2
  have hR3 := hR2.set (.bool b5) (.slice x5 n5 y5) (.slice x6 n6 y6)
  have r0 := hR3.c0
  have r1 := hR3.c1
  have r2 := hR3.c2
  refine bodyPost_ret (v := .tuple #[.agg #[.bool b5, .slice x5 n5 y5, .slice x6 n6 y6], .int .i64 err]) (by simp [results, Tryd.results18, go_sem, r0, r1, r2]) rfl ?_
  exact gives_done b0 (Nat.le_refl _) s0 bR sa hout
end
end Go.Proofs.YtibciilhfpgjjadDoor

/- rat.Compare. -/
namespace Go.Proofs.YtibciilhfpgjjadDoor
set_option linter.unusedVariables false
set_option linter.unusedSimpArgs false
open Go.RowKit

theorem sg_not (b : Bool) (x : Int) : sg (!b) x = - sg b x := by unfold sg; cases b <;> simp

section
variable {B : Nat} {w : World} {bx cy : Bool} {a1 a2 a3 a4 : Option Addr} {c1 c2 c3 c4 : Nat} {xn xd yn yd : List Int}

/-- What rat.Compare answers. -/
def Compares (P : Prop) (a b : Int) (e : Ending) : Prop := ∃ r : Int, e = .returned (.int .i64 r) ∧ (¬ P → r = 0) ∧ (P → r = cmpI a b)

set_option maxRecDepth 100000 in
set_option maxHeartbeats 3200000 in
theorem compare_rat (h1 : Rd B w (.slice a1 xn.length c1) xn) (h2 : Rd B w (.slice a2 xd.length c2) xd) (h3 : Rd B w (.slice a3 yn.length c3) yn) (h4 : Rd B w (.slice a4 yd.length c4) yd) (hB : B ≤ w.heap.size) :
    Calls Tryd.prog 12 #[.agg #[.bool bx, .slice a1 xn.length c1, .slice a2 xd.length c2], .agg #[.bool cy, .slice a3 yn.length c3, .slice a4 yd.length c4]] w fun e w' => Below w.heap.size w w' ∧ Compares (RightP bx xn xd ∧ RightP cy yn yd) (sg bx (val xn) * val yd) (sg cy (val yn) * val xd) e := by
  have hbX : Box3 (((w.alloc (.cells #[.bool bx, .slice a1 xn.length c1, .slice a2 xd.length c2] 24)).alloc (.cells #[.bool cy, .slice a3 yn.length c3, .slice a4 yd.length c4] 24)).alloc (.cells #[.bool bx, .slice a1 xn.length c1, .slice a2 xd.length c2, .bool cy, .slice a3 yn.length c3, .slice a4 yd.length c4] 24)) w.heap.size 24 (.bool bx) (.slice a1 xn.length c1) (.slice a2 xd.length c2) := ((box3_new w _ _ _ _).below (below_alloc _ _) (by simp)).below (below_alloc _ _) (by simp; omega)
  have hbY : Box3 (((w.alloc (.cells #[.bool bx, .slice a1 xn.length c1, .slice a2 xd.length c2] 24)).alloc (.cells #[.bool cy, .slice a3 yn.length c3, .slice a4 yd.length c4] 24)).alloc (.cells #[.bool bx, .slice a1 xn.length c1, .slice a2 xd.length c2, .bool cy, .slice a3 yn.length c3, .slice a4 yd.length c4] 24)) (w.heap.size + 1) 24 (.bool cy) (.slice a3 yn.length c3) (.slice a4 yd.length c4) := by
    have h5 := (box3_new (w.alloc (.cells #[.bool bx, .slice a1 xn.length c1, .slice a2 xd.length c2] 24)) (.bool cy) (.slice a3 yn.length c3) (.slice a4 yd.length c4) 24).below (below_alloc _ (.cells #[.bool bx, .slice a1 xn.length c1, .slice a2 xd.length c2, .bool cy, .slice a3 yn.length c3, .slice a4 yd.length c4] 24)) (by simp)
    simpa using h5
  have hT : Two (((w.alloc (.cells #[.bool bx, .slice a1 xn.length c1, .slice a2 xd.length c2] 24)).alloc (.cells #[.bool cy, .slice a3 yn.length c3, .slice a4 yd.length c4] 24)).alloc (.cells #[.bool bx, .slice a1 xn.length c1, .slice a2 xd.length c2, .bool cy, .slice a3 yn.length c3, .slice a4 yd.length c4] 24)) (w.heap.size + 1 + 1) (.bool bx) (.slice a1 xn.length c1) (.slice a2 xd.length c2) (.bool cy) (.slice a3 yn.length c3) (.slice a4 yd.length c4) := by
    have h5 := two_new ((w.alloc (.cells #[.bool bx, .slice a1 xn.length c1, .slice a2 xd.length c2] 24)).alloc (.cells #[.bool cy, .slice a3 yn.length c3, .slice a4 yd.length c4] 24)) (.bool bx) (.slice a1 xn.length c1) (.slice a2 xd.length c2) (.bool cy) (.slice a3 yn.length c3) (.slice a4 yd.length c4) 24
    simp only [World.size_alloc] at h5
    exact h5
  have b0 : Below w.heap.size w (((w.alloc (.cells #[.bool bx, .slice a1 xn.length c1, .slice a2 xd.length c2] 24)).alloc (.cells #[.bool cy, .slice a3 yn.length c3, .slice a4 yd.length c4] 24)).alloc (.cells #[.bool bx, .slice a1 xn.length c1, .slice a2 xd.length c2, .bool cy, .slice a3 yn.length c3, .slice a4 yd.length c4] 24)) := ((below_alloc w _).alloc (by simp) _).alloc (by simp; omega) _
  have s0 : w.heap.size + 1 + 1 < (((w.alloc (.cells #[.bool bx, .slice a1 xn.length c1, .slice a2 xd.length c2] 24)).alloc (.cells #[.bool cy, .slice a3 yn.length c3, .slice a4 yd.length c4] 24)).alloc (.cells #[.bool bx, .slice a1 xn.length c1, .slice a2 xd.length c2, .bool cy, .slice a3 yn.length c3, .slice a4 yd.length c4] 24)).heap.size := by simp
  have g1 := h1.below (b0.mono hB)
  have g2 := h2.below (b0.mono hB)
  have g3 := h3.below (b0.mono hB)
  have g4 := h4.below (b0.mono hB)
  clear h1 h2 h3 h4
  go_enter Tryd.func12, Tryd.ntmps12
  go_wp2_with fail
  generalize hA : (((w.alloc (.cells #[.bool bx, .slice a1 xn.length c1, .slice a2 xd.length c2] 24)).alloc (.cells #[.bool cy, .slice a3 yn.length c3, .slice a4 yd.length c4] 24)).alloc (.cells #[.bool bx, .slice a1 xn.length c1, .slice a2 xd.length c2, .bool cy, .slice a3 yn.length c3, .slice a4 yd.length c4] 24)) = wQ at *
  clear hA
  refine (allRight2 hT g1 g2 g3 g4 (by omega)).mono ?_
  rintro e wa ⟨⟨r, rfl, hr⟩, ba⟩
  have sa := ba.size
  have bwa : Below w.heap.size w wa := b0.trans (ba.mono (by omega))
  cases r with
  | false =>
    have HP : Hid (¬ (RightP bx xn xd ∧ RightP cy yn yd)) := fun h => by have := hr.2 h; cases this
    clear hr
    go_wp2
    go_ret
    exact ⟨bwa, 0, rfl, fun _ => rfl, fun h => absurd h HP.out⟩
  | true =>
    have HP : Hid (RightP bx xn xd ∧ RightP cy yn yd) := hr.1 rfl
    clear hr
    have hXa := hbX.below ba (by omega)
    have hYa := hbY.below ba (by omega)
    have k0 := hXa.c0
    have k1 := hXa.c1
    have k2 := hXa.c2
    have k3 := hYa.c0
    have k4 := hYa.c1
    have k5 := hYa.c2
    have hdf := difference_rat (g1.below (ba.mono (by omega))) (g2.below (ba.mono (by omega))) (g3.below (ba.mono (by omega))) (g4.below (ba.mono (by omega))) (by omega) HP.out.1 HP.out.2
    go_wp2_with fail
    refine hdf.mono ?_
    rintro e wb ⟨bb, b5, z5, x5, y5, rfl, o5, cz5, v5, l5⟩
    rw [sg_not, Int.neg_mul, ← Int.sub_eq_add_neg] at v5
    have HV : Hid (sg b5 (val z5) = sg bx (val xn) * val yd - sg cy (val yn) * val xd) := v5
    have bwb : Below w.heap.size w wb := bwa.trans (bb.mono (by omega))
    clear hdf v5
    by_cases hz : z5.length = 0
    · have HC : Hid (cmpI (sg bx (val xn) * val yd) (sg cy (val yn) * val xd) = 0) := by
        unfold Hid
        refine cmpI_eq ?_
        have h5 := HV.out
        rw [(can_zero cz5).1 hz, sg_zero] at h5
        omega
      have hzb : ((z5.length : Int) == 0) = true := by rw [hz]; rfl
      clear hz
      go_wp2
      go_ret
      exact ⟨bwb, 0, rfl, fun h => absurd HP.out h, fun _ => HC.out.symm⟩
    · have hpos := can_low cz5 (by omega)
      have hpw := pw_pos (z5.length - 1)
      have hzb : ((z5.length : Int) == 0) = false := by rw [beq_eq_false_iff_ne]; omega
      cases b5 with
      | true =>
        have HC : Hid (cmpI (sg bx (val xn) * val yd) (sg cy (val yn) * val xd) = -1) := by
          unfold Hid
          refine cmpI_lt ?_
          have h5 := HV.out
          unfold sg at h5 ⊢
          simp only [if_true] at h5
          omega
        clear hz hpos hpw
        go_wp2
        go_ret
        exact ⟨bwb, -1, rfl, fun h => absurd HP.out h, fun _ => HC.out.symm⟩
      | false =>
        have HC : Hid (cmpI (sg bx (val xn) * val yd) (sg cy (val yn) * val xd) = 1) := by
          unfold Hid
          refine cmpI_gt ?_
          have h5 := HV.out
          rw [sg_false] at h5
          omega
        clear hz hpos hpw
        go_wp2
        go_ret
        exact ⟨bwb, 1, rfl, fun h => absurd HP.out h, fun _ => HC.out.symm⟩
end
end Go.Proofs.YtibciilhfpgjjadDoor

/- rat.Print of a right number. -/
namespace Go.Proofs.YtibciilhfpgjjadDoor
set_option linter.unusedVariables false
set_option linter.unusedSimpArgs false
open Go.RowKit

theorem pw_tens (L : Nat) : pw L ≤ ((10 ^ (10 * L) : Nat) : Int) := by
  induction L with
  | zero => decide
  | succ L ih =>
    rw [pw_succ, Nat.mul_succ, Nat.pow_add, Int.natCast_mul]
    have h1 : (0 : Int) ≤ ((10 ^ (10 * L) : Nat) : Int) := Int.natCast_nonneg _
    have e : ((10 ^ 10 : Nat) : Int) = 10000000000 := by decide
    rw [e]
    have := pw_pos L
    generalize ((10 ^ (10 * L) : Nat) : Int) = T at *
    omega
theorem dig_bound {xs : List Int} (h : lim xs) : (Lib.decDigits (val xs).toNat).length ≤ 10 * xs.length + 1 := by
  refine decDigits_le (10 * xs.length + 1) _ (by omega) ?_
  have h1 := pw_tens xs.length
  have h2 : 10 ^ (10 * xs.length) ≤ 10 ^ (10 * xs.length + 1) := Nat.pow_le_pow_right (by decide) (by omega)
  have h3 := val_bound h
  omega

def digB (xs : List Int) : ByteArray := ⟨(Lib.decDigits (val xs).toNat).toArray⟩
theorem digB_size {xs : List Int} (h : lim xs) : (digB xs).size ≤ 10 * xs.length + 1 := by
  have := dig_bound h
  unfold digB
  simpa [ByteArray.size] using this
/-- A number's text. -/
def ratText (b : Bool) (ns ds : List Int) : ByteArray :=
  let t := if b = true then (⟨#[194, 175]⟩ : ByteArray) ++ digB ns else digB ns
  if ds = [1] then t else t ++ ((⟨#[114]⟩ : ByteArray) ++ digB ds)

set_option maxRecDepth 100000 in
set_option maxHeartbeats 3200000 in
theorem print_rat {B : Nat} {w : World} {b : Bool} {a1 a2 : Option Addr} {c1 c2 : Nat} {ns ds : List Int} (h1 : Rd B w (.slice a1 ns.length c1) ns) (h2 : Rd B w (.slice a2 ds.length c2) ds) (hB : B ≤ w.heap.size) (hr : RightP b ns ds) (htab : Lib.TabIs Tryd.prog w "internal/strconv.uint64pow10" .u64 Lib.pow10Tab) :
    Calls Tryd.prog 20 #[.agg #[.bool b, .slice a1 ns.length c1, .slice a2 ds.length c2]] w fun e w' => e = .returned (.string (ratText b ns ds)) ∧ Below w.heap.size w w' := by
  have hbX := box3_new w (.bool b) (.slice a1 ns.length c1) (.slice a2 ds.length c2) 24
  have b0 := below_alloc w (.cells #[.bool b, .slice a1 ns.length c1, .slice a2 ds.length c2] 24)
  have s0 : w.heap.size < (w.alloc (.cells #[.bool b, .slice a1 ns.length c1, .slice a2 ds.length c2] 24)).heap.size := by simp
  have g1 := h1.below (b0.mono hB)
  have g2 := h2.below (b0.mono hB)
  have l1 := hr.1
  have l2 := hr.2.1
  have z1 := digB_size h1.lim
  have z2 := digB_size h2.lim
  have HR : Hid (RightP b ns ds) := hr
  clear h1 h2 hr
  go_enter Tryd.func20, Tryd.ntmps20
  go_wp2_with fail
  generalize hA : w.alloc (.cells #[.bool b, .slice a1 ns.length c1, .slice a2 ds.length c2] 24) = wP at *
  clear hA
  refine (right_rat g1 g2 (by omega)).mono ?_
  rintro e wa ⟨⟨r, rfl, hr⟩, ba⟩
  obtain rfl : r = true := hr.2 HR.out
  clear hr
  have sa := ba.size
  have hXa := hbX.below ba s0
  have k1 := hXa.c1
  have bwa : Below w.heap.size w wa := b0.trans (ba.mono (by omega))
  go_wp2_with fail
  refine (print_any (g1.below (ba.mono (by omega))) (by omega) (by omega) (tabIs_below htab bwa)).mono ?_
  rintro e wb ⟨rfl, bb⟩
  have hd1 : (⟨(Lib.decDigits (val ns).toNat).toArray⟩ : ByteArray) = digB ns := rfl
  rw [hd1]
  have sb := bb.size
  have hXb := hXa.below bb (by omega)
  have k0 := hXb.c0
  have k2 := hXb.c2
  have bwb : Below w.heap.size w wb := bwa.trans (bb.mono (by omega))
  have bPb : Below wP.heap.size wP wb := ba.trans (bb.mono sa)
  have u2 := g2.below (bPb.mono (by omega))
  have hT : Hid (ratText b ns ds = if ds = [1] then (if b = true then (⟨#[194, 175]⟩ : ByteArray) ++ digB ns else digB ns) else (if b = true then (⟨#[194, 175]⟩ : ByteArray) ++ digB ns else digB ns) ++ ((⟨#[114]⟩ : ByteArray) ++ digB ds)) := rfl
  generalize hD1 : digB ns = D1 at *
  generalize hD2 : digB ds = D2 at *
  cases b with
  | true =>
    go_wp2_with fail
    refine (isOne_any u2).mono ?_
    rintro e w' ⟨rfl, rfl⟩
    by_cases hone : ds = [1]
    · have HE : Hid (ratText true ns ds = (⟨#[194, 175]⟩ : ByteArray) ++ D1) := by unfold Hid; rw [hT.out, if_pos hone]; simp
      rw [decide_eq_true hone]
      clear hone
      go_wp2
      go_ret
      exact ⟨ret_str HE.out.symm, bwb⟩
    · have HE : Hid (ratText true ns ds = (⟨#[194, 175]⟩ : ByteArray) ++ D1 ++ ((⟨#[114]⟩ : ByteArray) ++ D2)) := by unfold Hid; rw [hT.out, if_neg hone]; simp
      rw [decide_eq_false hone]
      clear hone
      go_wp2_with fail
      refine (print_any u2 (by omega) (by omega) (tabIs_below htab bwb)).mono ?_
      rintro e wc ⟨rfl, bc⟩
      have hd2 : (⟨(Lib.decDigits (val ds).toNat).toArray⟩ : ByteArray) = D2 := hD2
      rw [hd2]
      go_wp2
      go_ret
      exact ⟨ret_str HE.out.symm, bwb.trans (bc.mono (by omega))⟩
  | false =>
    go_wp2_with fail
    refine (isOne_any u2).mono ?_
    rintro e w' ⟨rfl, rfl⟩
    by_cases hone : ds = [1]
    · have HE : Hid (ratText false ns ds = D1) := by unfold Hid; rw [hT.out, if_pos hone]; simp
      rw [decide_eq_true hone]
      clear hone
      go_wp2
      go_ret
      exact ⟨ret_str HE.out.symm, bwb⟩
    · have HE : Hid (ratText false ns ds = D1 ++ ((⟨#[114]⟩ : ByteArray) ++ D2)) := by unfold Hid; rw [hT.out, if_neg hone]; simp
      rw [decide_eq_false hone]
      clear hone
      go_wp2_with fail
      refine (print_any u2 (by omega) (by omega) (tabIs_below htab bwb)).mono ?_
      rintro e wc ⟨rfl, bc⟩
      have hd2 : (⟨(Lib.decDigits (val ds).toNat).toArray⟩ : ByteArray) = D2 := hD2
      rw [hd2]
      go_wp2
      go_ret
      exact ⟨ret_str HE.out.symm, bwb.trans (bc.mono (by omega))⟩
end Go.Proofs.YtibciilhfpgjjadDoor

/- rat.Div of a number by itself. -/
namespace Go.Proofs.YtibciilhfpgjjadDoor
set_option linter.unusedVariables false
set_option linter.unusedSimpArgs false
open Go.RowKit

theorem gI_self (x : Int) (h : 0 ≤ x) : gI x x = x := by unfold gI; rw [Nat.gcd_self]; omega
theorem one_ratio {b : Bool} {ns ds : List Int} {D : Int} (hD : 0 < D) (cn : can ns) (cd : can ds) (hd : 0 < ds.length) (hg : gI (val ns) (val ds) = 1) (hv : sg b (val ns) * D = D * val ds) : b = false ∧ ns = [1] ∧ ds = [1] := by
  rw [Int.mul_comm D] at hv
  have e : sg b (val ns) = val ds := Int.eq_of_mul_eq_mul_right (by omega) hv
  have h1 := can_low cd hd
  have h2 := pw_pos (ds.length - 1)
  have h3 := (val_bound cn.1).1
  cases b with
  | true => unfold sg at e; simp at e; omega
  | false =>
    rw [sg_false] at e
    rw [e, gI_self _ (by omega)] at hg
    exact ⟨rfl, limbs_of cn 1 (by omega) (by omega) (by omega), limbs_of cd 1 (by omega) (by omega) (by omega)⟩

/-- What a number by itself answers. -/
def Selfs (w : World) (P : Prop) (e : Ending) (w' : World) : Prop :=
  Below w.heap.size w w' ∧ ∃ b x1 n y1 x2 m y2 err, e = .returned (.tuple #[.agg #[.bool b, .slice x1 n y1, .slice x2 m y2], .int .i64 err]) ∧ Hid ((¬ P → err = 22) ∧ (P → err = 0 ∧ b = false ∧ n = [(1 : Int)].length ∧ m = [(1 : Int)].length ∧ Own w.heap.size w' (.slice x1 n y1) [1] ∧ Own w.heap.size w' (.slice x2 m y2) [1]))

set_option maxRecDepth 100000 in
set_option maxHeartbeats 3200000 in
theorem div_self {B : Nat} {w : World} {bx : Bool} {a1 a2 : Option Addr} {c1 c2 : Nat} {xn xd : List Int} (h1 : Rd B w (.slice a1 xn.length c1) xn) (h2 : Rd B w (.slice a2 xd.length c2) xd) (hB : B ≤ w.heap.size) :
    Calls Tryd.prog 19 #[.agg #[.bool bx, .slice a1 xn.length c1, .slice a2 xd.length c2], .agg #[.bool bx, .slice a1 xn.length c1, .slice a2 xd.length c2]] w fun e w' => Selfs w (RightP bx xn xd) e w' := by
  have hbX : Box3 ((((w.alloc (.cells #[.bool bx, .slice a1 xn.length c1, .slice a2 xd.length c2] 24)).alloc (.cells #[.bool bx, .slice a1 xn.length c1, .slice a2 xd.length c2] 24)).alloc (.cells #[.bool false, .slice none 0 0, .slice none 0 0] 24)).alloc (.cells #[.bool bx, .slice a1 xn.length c1, .slice a2 xd.length c2, .bool bx, .slice a1 xn.length c1, .slice a2 xd.length c2] 24)) w.heap.size 24 (.bool bx) (.slice a1 xn.length c1) (.slice a2 xd.length c2) := (((box3_new w _ _ _ _).below (below_alloc _ _) (by simp)).below (below_alloc _ _) (by simp <;> omega)).below (below_alloc _ _) (by simp <;> omega)
  have hbY : Box3 ((((w.alloc (.cells #[.bool bx, .slice a1 xn.length c1, .slice a2 xd.length c2] 24)).alloc (.cells #[.bool bx, .slice a1 xn.length c1, .slice a2 xd.length c2] 24)).alloc (.cells #[.bool false, .slice none 0 0, .slice none 0 0] 24)).alloc (.cells #[.bool bx, .slice a1 xn.length c1, .slice a2 xd.length c2, .bool bx, .slice a1 xn.length c1, .slice a2 xd.length c2] 24)) (w.heap.size + 1) 24 (.bool bx) (.slice a1 xn.length c1) (.slice a2 xd.length c2) := by
    have h5 := ((box3_new (w.alloc (.cells #[.bool bx, .slice a1 xn.length c1, .slice a2 xd.length c2] 24)) (.bool bx) (.slice a1 xn.length c1) (.slice a2 xd.length c2) 24).below (below_alloc _ (.cells #[.bool false, .slice none 0 0, .slice none 0 0] 24)) (by simp)).below (below_alloc _ (.cells #[.bool bx, .slice a1 xn.length c1, .slice a2 xd.length c2, .bool bx, .slice a1 xn.length c1, .slice a2 xd.length c2] 24)) (by simp <;> omega)
    simpa using h5
  have hbR : Box3 ((((w.alloc (.cells #[.bool bx, .slice a1 xn.length c1, .slice a2 xd.length c2] 24)).alloc (.cells #[.bool bx, .slice a1 xn.length c1, .slice a2 xd.length c2] 24)).alloc (.cells #[.bool false, .slice none 0 0, .slice none 0 0] 24)).alloc (.cells #[.bool bx, .slice a1 xn.length c1, .slice a2 xd.length c2, .bool bx, .slice a1 xn.length c1, .slice a2 xd.length c2] 24)) (w.heap.size + 1 + 1) 24 (.bool false) (.slice none 0 0) (.slice none 0 0) := by
    have h5 := (box3_new ((w.alloc (.cells #[.bool bx, .slice a1 xn.length c1, .slice a2 xd.length c2] 24)).alloc (.cells #[.bool bx, .slice a1 xn.length c1, .slice a2 xd.length c2] 24)) (.bool false) (.slice none 0 0) (.slice none 0 0) 24).below (below_alloc _ (.cells #[.bool bx, .slice a1 xn.length c1, .slice a2 xd.length c2, .bool bx, .slice a1 xn.length c1, .slice a2 xd.length c2] 24)) (by simp)
    simpa using h5
  have hT : Two ((((w.alloc (.cells #[.bool bx, .slice a1 xn.length c1, .slice a2 xd.length c2] 24)).alloc (.cells #[.bool bx, .slice a1 xn.length c1, .slice a2 xd.length c2] 24)).alloc (.cells #[.bool false, .slice none 0 0, .slice none 0 0] 24)).alloc (.cells #[.bool bx, .slice a1 xn.length c1, .slice a2 xd.length c2, .bool bx, .slice a1 xn.length c1, .slice a2 xd.length c2] 24)) (w.heap.size + 1 + 1 + 1) (.bool bx) (.slice a1 xn.length c1) (.slice a2 xd.length c2) (.bool bx) (.slice a1 xn.length c1) (.slice a2 xd.length c2) := by
    have h5 := two_new (((w.alloc (.cells #[.bool bx, .slice a1 xn.length c1, .slice a2 xd.length c2] 24)).alloc (.cells #[.bool bx, .slice a1 xn.length c1, .slice a2 xd.length c2] 24)).alloc (.cells #[.bool false, .slice none 0 0, .slice none 0 0] 24)) (.bool bx) (.slice a1 xn.length c1) (.slice a2 xd.length c2) (.bool bx) (.slice a1 xn.length c1) (.slice a2 xd.length c2) 24
    simp only [World.size_alloc] at h5
    exact h5
  have b0 : Below w.heap.size w ((((w.alloc (.cells #[.bool bx, .slice a1 xn.length c1, .slice a2 xd.length c2] 24)).alloc (.cells #[.bool bx, .slice a1 xn.length c1, .slice a2 xd.length c2] 24)).alloc (.cells #[.bool false, .slice none 0 0, .slice none 0 0] 24)).alloc (.cells #[.bool bx, .slice a1 xn.length c1, .slice a2 xd.length c2, .bool bx, .slice a1 xn.length c1, .slice a2 xd.length c2] 24)) := (((below_alloc w _).alloc (by simp) _).alloc (by simp <;> omega) _).alloc (by simp <;> omega) _
  have s0 : w.heap.size + 1 + 1 + 1 < ((((w.alloc (.cells #[.bool bx, .slice a1 xn.length c1, .slice a2 xd.length c2] 24)).alloc (.cells #[.bool bx, .slice a1 xn.length c1, .slice a2 xd.length c2] 24)).alloc (.cells #[.bool false, .slice none 0 0, .slice none 0 0] 24)).alloc (.cells #[.bool bx, .slice a1 xn.length c1, .slice a2 xd.length c2, .bool bx, .slice a1 xn.length c1, .slice a2 xd.length c2] 24)).heap.size := by simp
  have g1 := h1.below (b0.mono hB)
  have g2 := h2.below (b0.mono hB)
  clear h1 h2
  go_enter Tryd.func19, Tryd.ntmps19
  go_wp2_with fail
  generalize hA : ((((w.alloc (.cells #[.bool bx, .slice a1 xn.length c1, .slice a2 xd.length c2] 24)).alloc (.cells #[.bool bx, .slice a1 xn.length c1, .slice a2 xd.length c2] 24)).alloc (.cells #[.bool false, .slice none 0 0, .slice none 0 0] 24)).alloc (.cells #[.bool bx, .slice a1 xn.length c1, .slice a2 xd.length c2, .bool bx, .slice a1 xn.length c1, .slice a2 xd.length c2] 24)) = wQ at *
  clear hA
  refine (allRight2 hT g1 g2 g1 g2 (by omega)).mono ?_
  rintro e wa ⟨⟨r, rfl, hr⟩, ba⟩
  have sa := ba.size
  have bwa : Below w.heap.size w wa := b0.trans (ba.mono (by omega))
  have hRa := hbR.below ba (by omega)
  cases r with
  | false =>
    have HP : Hid (¬ RightP bx xn xd) := fun h => by have := hr.2 ⟨h, h⟩; cases this
    clear hr
    · have q0 := hRa.c0
      have q1 := hRa.c1
      have q2 := hRa.c2
      have p0 := hRa.f0
      have p1 := hRa.f1
      have p2 := hRa.f2
      go_wp2
      have hR3 := hRa.set (.bool false) (.slice none 0 0) (.slice none 0 0)
      have r0 := hR3.c0
      have r1 := hR3.c1
      have r2 := hR3.c2
      refine bodyPost_ret (v := .tuple #[.agg #[.bool false, .slice none 0 0, .slice none 0 0], .int .i64 22]) (by simp [results, Tryd.results19, go_sem, r0, r1, r2]) rfl ?_
      exact ⟨Below.set3 bwa (by omega) _ _ _, false, none, 0, 0, none, 0, 0, 22, rfl, ⟨fun _ => rfl, fun h => absurd h HP.out⟩⟩
  | true =>
    have HP : Hid (RightP bx xn xd) := (hr.1 rfl).1
    clear hr
    have hXa := hbX.below ba (by omega)
    have hYa := hbY.below ba (by omega)
    have k0 := hXa.c0
    have k1 := hXa.c1
    have k2 := hXa.c2
    have k3 := hYa.c0
    have k4 := hYa.c1
    have k5 := hYa.c2
    have f1 := g1.below (ba.mono (by omega))
    have f2 := g2.below (ba.mono (by omega))
    by_cases h0 : 0 < xn.length
    · have hby := by_rat f1 f2 f1 f2 (by omega) HP.out HP.out h0
      have HN : Hid (sg bx (val xn) * sg bx (val xd) = val xd * val xn ∧ 0 < val xd * val xn) := by
        have hp := right_pos HP.out
        have h5 := can_low HP.out.2.2.1 h0
        have h6 := pw_pos (xn.length - 1)
        refine ⟨?_, Int.mul_pos hp.1 (by omega)⟩
        rw [← sg_neq, Int.mul_comm]
        cases bx <;> rfl
      rw [HN.out.1] at hby
      go_wp2_with fail
      refine hby.mono ?_
      rintro e wb ⟨bb, ⟨rfl, hbig⟩ | ⟨b5, ns, ds, x5, y5, x6, y6, rfl, on, od, hr5, hv5⟩⟩
      · exfalso
        obtain ⟨b6, ns, ds, cn, cd, hd, hg, hv, hl⟩ := hbig
        obtain ⟨_, rfl, rfl⟩ := one_ratio HN.out.2 cn cd hd hg hv
        simp at hl
      obtain ⟨rfl, rfl, rfl⟩ := one_ratio HN.out.2 hr5.2.2.1 hr5.2.2.2.1 hr5.2.2.2.2.2.1 hr5.2.2.2.2.2.2 hv5
      have hRb := hRa.below bb (by omega)
      clear hby hr5 hv5
      have q0 := hRb.c0
      have q1 := hRb.c1
      have q2 := hRb.c2
      have p0 := hRb.f0
      have p1 := hRb.f1
      have p2 := hRb.f2
      go_wp2
      have hR3 := hRb.set (.bool false) (.slice x5 1 y5) (.slice x6 1 y6)
      have r0 := hR3.c0
      have r1 := hR3.c1
      have r2 := hR3.c2
      refine bodyPost_ret (v := .tuple #[.agg #[.bool false, .slice x5 1 y5, .slice x6 1 y6], .int .i64 0]) (by simp [results, Tryd.results19, go_sem, r0, r1, r2]) rfl ?_
      exact ⟨Below.set3 (bwa.trans (bb.mono (by omega))) (by omega) _ _ _, false, x5, 1, y5, x6, 1, y6, 0, rfl, ⟨fun h => absurd HP.out h, fun _ => ⟨rfl, rfl, rfl, rfl, (Own.set3 on (by omega) _ _ _).mono (by omega), (Own.set3 od (by omega) _ _ _).mono (by omega)⟩⟩⟩
    · have hof := ofInt_one wa
      go_wp2_with fail
      refine hof.mono ?_
      rintro e wb ⟨bb, x5, y5, x6, y6, rfl, on, od⟩
      have hRb := hRa.below bb (by omega)
      clear hof
      have q0 := hRb.c0
      have q1 := hRb.c1
      have q2 := hRb.c2
      have p0 := hRb.f0
      have p1 := hRb.f1
      have p2 := hRb.f2
      go_wp2
      have hR3 := hRb.set (.bool false) (.slice x5 1 y5) (.slice x6 1 y6)
      have r0 := hR3.c0
      have r1 := hR3.c1
      have r2 := hR3.c2
      refine bodyPost_ret (v := .tuple #[.agg #[.bool false, .slice x5 1 y5, .slice x6 1 y6], .int .i64 0]) (by simp [results, Tryd.results19, go_sem, r0, r1, r2]) rfl ?_
      exact ⟨Below.set3 (bwa.trans (bb.mono (by omega))) (by omega) _ _ _, false, x5, 1, y5, x6, 1, y6, 0, rfl, ⟨fun h => absurd HP.out h, fun _ => ⟨rfl, rfl, rfl, rfl, (Own.set3 on (by omega) _ _ _).mono (by omega), (Own.set3 od (by omega) _ _ _).mono (by omega)⟩⟩⟩
end Go.Proofs.YtibciilhfpgjjadDoor

/- Plain facts on rationals: sums and products go together; lowest terms are unique. -/
namespace Go.Proofs.YtibciilhfpgjjadDoor
set_option linter.unusedVariables false
set_option linter.unusedSimpArgs false
open Go.RowKit

theorem cancel {a b k : Int} (hk : 0 < k) (h : a * k = b * k) : a = b := Int.eq_of_mul_eq_mul_right (by omega) h

theorem field_left {X Y Z xd yd zd S sd P pd : Int} (hs : 0 < sd) (h1 : P * (xd * sd) = X * S * pd) (h2 : S * (yd * zd) = (Y * zd + Z * yd) * sd) : P * (xd * (yd * zd)) = X * pd * (Y * zd + Z * yd) := by
  refine cancel hs ?_
  have e1 : P * (xd * (yd * zd)) * sd = P * (xd * sd) * (yd * zd) := by ac_rfl
  have e2 : X * S * pd * (yd * zd) = X * pd * (S * (yd * zd)) := by ac_rfl
  have e3 : X * pd * ((Y * zd + Z * yd) * sd) = X * pd * (Y * zd + Z * yd) * sd := by ac_rfl
  rw [e1, h1, e2, h2, e3]

theorem field_right {X Y Z xd yd zd Q qd R rd T td : Int} (hq : 0 < qd) (hr : 0 < rd) (h1 : Q * (xd * yd) = X * Y * qd) (h2 : R * (xd * zd) = X * Z * rd) (h3 : T * (qd * rd) = (Q * rd + R * qd) * td) : T * (xd * (yd * zd)) = X * td * (Y * zd + Z * yd) := by
  refine cancel (Int.mul_pos hq hr) ?_
  have e1 : T * (xd * (yd * zd)) * (qd * rd) = T * (qd * rd) * (xd * (yd * zd)) := by ac_rfl
  have e2 : (Q * rd + R * qd) * td * (xd * (yd * zd)) = Q * (xd * yd) * (rd * zd * td) + R * (xd * zd) * (qd * yd * td) := by
    rw [Int.add_mul, Int.add_mul]
    congr 1 <;> ac_rfl
  have e3 : X * Y * qd * (rd * zd * td) = X * td * (Y * zd) * (qd * rd) := by ac_rfl
  have e4 : X * Z * rd * (qd * yd * td) = X * td * (Z * yd) * (qd * rd) := by ac_rfl
  rw [e1, h3, e2, h1, h2, e3, e4, ← Int.add_mul, ← Int.mul_add]

theorem field_same {P pd T td K M : Int} {X : Int} (hK : 0 < K) (h1 : P * K = X * pd * M) (h2 : T * K = X * td * M) : P * td = T * pd := by
  refine cancel hK ?_
  have e1 : P * td * K = P * K * td := by ac_rfl
  have e2 : T * pd * K = T * K * pd := by ac_rfl
  rw [e1, e2, h1, h2]
  ac_rfl

/-- Lowest terms are unique. -/
theorem lowest {b c : Bool} {ns ds ms es : List Int} (h : RightP b ns ds) (k : RightP c ms es) (e : sg b (val ns) * val es = sg c (val ms) * val ds) : b = c ∧ ns = ms ∧ ds = es := by
  have hp := right_pos h
  have kp := right_pos k
  have hz : ∀ {b : Bool} {ns ds : List Int}, RightP b ns ds → val ns = 0 → b = false := by
    intro b ns ds h hv
    have h1 := (can_zero h.2.2.1).2 hv
    cases b with
    | false => rfl
    | true => exact absurd ⟨rfl, h1⟩ h.2.2.2.2.1
  have hab : val ns * val es = val ms * val ds ∧ b = c := by
    have n1 : 0 ≤ val ns * val es := Int.mul_nonneg hp.2 (by omega)
    have n2 : 0 ≤ val ms * val ds := Int.mul_nonneg kp.2 (by omega)
    rw [← sg_mul, ← sg_mul] at e
    have zero : val ns * val es = 0 → val ms * val ds = 0 → b = c := by
      intro z1 z2
      have y1 : val ns = 0 := by
        rcases Int.mul_eq_zero.1 z1 with y | y
        · exact y
        · omega
      have y2 : val ms = 0 := by
        rcases Int.mul_eq_zero.1 z2 with y | y
        · exact y
        · omega
      rw [hz h y1, hz k y2]
    unfold sg at e
    generalize val ns * val es = p at *
    generalize val ms * val ds = q at *
    cases b <;> cases c <;> simp at e
    · exact ⟨e, rfl⟩
    · have : p = 0 ∧ q = 0 := by omega
      exact ⟨by omega, zero this.1 this.2⟩
    · have : p = 0 ∧ q = 0 := by omega
      exact ⟨by omega, zero this.1 this.2⟩
    · exact ⟨by omega, rfl⟩
  obtain ⟨hm, hbc⟩ := hab
  obtain ⟨n, en⟩ := Int.eq_ofNat_of_zero_le hp.2
  obtain ⟨d, ed⟩ := Int.eq_ofNat_of_zero_le (Int.le_of_lt hp.1)
  obtain ⟨m, em⟩ := Int.eq_ofNat_of_zero_le kp.2
  obtain ⟨f, ef⟩ := Int.eq_ofNat_of_zero_le (Int.le_of_lt kp.1)
  have g1 : Nat.gcd n d = 1 := by
    have := h.2.2.2.2.2.2
    rw [en, ed] at this
    unfold gI at this
    simp only [Int.toNat_natCast] at this
    omega
  have g2 : Nat.gcd m f = 1 := by
    have := k.2.2.2.2.2.2
    rw [em, ef] at this
    unfold gI at this
    simp only [Int.toNat_natCast] at this
    omega
  rw [en, ed, em, ef] at hm
  have hmn : n * f = m * d := by exact_mod_cast hm
  have d1 : d ∣ f := (Nat.Coprime.dvd_of_dvd_mul_left (show Nat.Coprime d n by rw [Nat.coprime_comm]; exact g1) ⟨m, by rw [hmn, Nat.mul_comm]⟩)
  have d2 : f ∣ d := (Nat.Coprime.dvd_of_dvd_mul_left (show Nat.Coprime f m by rw [Nat.coprime_comm]; exact g2) ⟨n, by rw [← hmn, Nat.mul_comm]⟩)
  have hdf : d = f := Nat.dvd_antisymm d1 d2
  subst hdf
  have hd0 : 0 < d := by omega
  have hnm : n = m := Nat.eq_of_mul_eq_mul_right hd0 hmn
  exact ⟨hbc, can_inj h.2.2.1 k.2.2.1 (by rw [en, em, hnm]), can_inj h.2.2.2.1 k.2.2.2.1 (by rw [ed, ef])⟩

/-- The lists that an answer reads as, whatever it is. -/
theorem Out.lists {w' : World} {k : Nat} {P : Prop} {N D err : Int} {b : Bool} {x1 x2 : Option Addr} {n m y1 y2 : Nat} (h : Out w' k P N D b x1 n y1 x2 m y2 err) :
    ∃ ns ds, n = ns.length ∧ m = ds.length ∧ Rd w'.heap.size w' (.slice x1 ns.length y1) ns ∧ Rd w'.heap.size w' (.slice x2 ds.length y2) ds ∧ Hid ((err = 0 → P ∧ RightP b ns ds ∧ sg b (val ns) * D = N * val ds) ∧ (¬ P → err = 22)) := by
  have nil : Rd w'.heap.size w' (.slice none 0 0) [] := Own.rd (base := 0) ⟨lim_nil, World.ownsRow_nil _ _ _ _⟩
  rcases h with ⟨hp, rfl, rfl, rfl, rfl, rfl, rfl, rfl, rfl⟩ | ⟨hp, rfl, rfl, rfl, rfl, rfl, rfl, rfl, rfl, _⟩ | ⟨hp, rfl, ns, ds, rfl, rfl, on, od, hr, hv⟩
  · exact ⟨[], [], rfl, rfl, nil, nil, (fun h => by omega), fun _ => rfl⟩
  · exact ⟨[], [], rfl, rfl, nil, nil, (fun h => by omega), fun h => absurd hp h⟩
  · exact ⟨ns, ds, rfl, rfl, on.rd, od.rd, (fun _ => ⟨hp, hr, hv⟩), fun h => absurd hp h⟩
end Go.Proofs.YtibciilhfpgjjadDoor

/- The walk over TopField: sums and products of rationals go together as they should. -/
namespace Go.Proofs.YtibciilhfpgjjadDoor
set_option linter.unusedVariables false
set_option linter.unusedSimpArgs false
open Go.RowKit

theorem one_text : ratText false [1] [1] = ⟨#[49]⟩ := by
  unfold ratText digB
  have e : (val [1]).toNat = 1 := by decide
  rw [e, Lib.decDigits_one (by omega)]
  rfl

set_option maxRecDepth 100000 in
set_option maxHeartbeats 16000000 in
theorem topField_walk {w : World} {bx cy dz : Bool} {a1 a2 a3 a4 a5 a6 : Option Addr} {c1 c2 c3 c4 c5 c6 : Nat} {xn xd yn yd zn zd : List Int} (h1 : Rd w.heap.size w (.slice a1 xn.length c1) xn) (h2 : Rd w.heap.size w (.slice a2 xd.length c2) xd) (h3 : Rd w.heap.size w (.slice a3 yn.length c3) yn) (h4 : Rd w.heap.size w (.slice a4 yd.length c4) yd) (h5 : Rd w.heap.size w (.slice a5 zn.length c5) zn) (h6 : Rd w.heap.size w (.slice a6 zd.length c6) zd) (htab : Lib.TabIs Tryd.prog w "internal/strconv.uint64pow10" .u64 Lib.pow10Tab) :
    Calls Tryd.prog 7 #[.agg #[.bool bx, .slice a1 xn.length c1, .slice a2 xd.length c2], .agg #[.bool cy, .slice a3 yn.length c3, .slice a4 yd.length c4], .agg #[.bool dz, .slice a5 zn.length c5, .slice a6 zd.length c6]] w fun e w' => e = .returned (.bool true) ∧ Below w.heap.size w w' := by
  have bX : Box3 ((((w.alloc (.cells #[.bool bx, .slice a1 xn.length c1, .slice a2 xd.length c2] 24)).alloc (.cells #[.bool cy, .slice a3 yn.length c3, .slice a4 yd.length c4] 24)).alloc (.cells #[.bool dz, .slice a5 zn.length c5, .slice a6 zd.length c6] 24)).alloc (.cells #[.bool cy, .slice a3 yn.length c3, .slice a4 yd.length c4, .bool dz, .slice a5 zn.length c5, .slice a6 zd.length c6] 24)) w.heap.size 24 (.bool bx) (.slice a1 xn.length c1) (.slice a2 xd.length c2) := (((box3_new w _ _ _ _).below (below_alloc _ _) (by simp)).below (below_alloc _ _) (by simp <;> omega)).below (below_alloc _ _) (by simp <;> omega)
  have bY : Box3 ((((w.alloc (.cells #[.bool bx, .slice a1 xn.length c1, .slice a2 xd.length c2] 24)).alloc (.cells #[.bool cy, .slice a3 yn.length c3, .slice a4 yd.length c4] 24)).alloc (.cells #[.bool dz, .slice a5 zn.length c5, .slice a6 zd.length c6] 24)).alloc (.cells #[.bool cy, .slice a3 yn.length c3, .slice a4 yd.length c4, .bool dz, .slice a5 zn.length c5, .slice a6 zd.length c6] 24)) (w.heap.size + 1) 24 (.bool cy) (.slice a3 yn.length c3) (.slice a4 yd.length c4) := by
    have h := ((box3_new (w.alloc (.cells #[.bool bx, .slice a1 xn.length c1, .slice a2 xd.length c2] 24)) (.bool cy) (.slice a3 yn.length c3) (.slice a4 yd.length c4) 24).below (below_alloc _ (.cells #[.bool dz, .slice a5 zn.length c5, .slice a6 zd.length c6] 24)) (by simp)).below (below_alloc _ (.cells #[.bool cy, .slice a3 yn.length c3, .slice a4 yd.length c4, .bool dz, .slice a5 zn.length c5, .slice a6 zd.length c6] 24)) (by simp <;> omega)
    simpa using h
  have bZ : Box3 ((((w.alloc (.cells #[.bool bx, .slice a1 xn.length c1, .slice a2 xd.length c2] 24)).alloc (.cells #[.bool cy, .slice a3 yn.length c3, .slice a4 yd.length c4] 24)).alloc (.cells #[.bool dz, .slice a5 zn.length c5, .slice a6 zd.length c6] 24)).alloc (.cells #[.bool cy, .slice a3 yn.length c3, .slice a4 yd.length c4, .bool dz, .slice a5 zn.length c5, .slice a6 zd.length c6] 24)) (w.heap.size + 1 + 1) 24 (.bool dz) (.slice a5 zn.length c5) (.slice a6 zd.length c6) := by
    have h := (box3_new ((w.alloc (.cells #[.bool bx, .slice a1 xn.length c1, .slice a2 xd.length c2] 24)).alloc (.cells #[.bool cy, .slice a3 yn.length c3, .slice a4 yd.length c4] 24)) (.bool dz) (.slice a5 zn.length c5) (.slice a6 zd.length c6) 24).below (below_alloc _ (.cells #[.bool cy, .slice a3 yn.length c3, .slice a4 yd.length c4, .bool dz, .slice a5 zn.length c5, .slice a6 zd.length c6] 24)) (by simp)
    simpa using h
  have hT : Two ((((w.alloc (.cells #[.bool bx, .slice a1 xn.length c1, .slice a2 xd.length c2] 24)).alloc (.cells #[.bool cy, .slice a3 yn.length c3, .slice a4 yd.length c4] 24)).alloc (.cells #[.bool dz, .slice a5 zn.length c5, .slice a6 zd.length c6] 24)).alloc (.cells #[.bool cy, .slice a3 yn.length c3, .slice a4 yd.length c4, .bool dz, .slice a5 zn.length c5, .slice a6 zd.length c6] 24)) (w.heap.size + 1 + 1 + 1) (.bool cy) (.slice a3 yn.length c3) (.slice a4 yd.length c4) (.bool dz) (.slice a5 zn.length c5) (.slice a6 zd.length c6) := by
    have h := two_new (((w.alloc (.cells #[.bool bx, .slice a1 xn.length c1, .slice a2 xd.length c2] 24)).alloc (.cells #[.bool cy, .slice a3 yn.length c3, .slice a4 yd.length c4] 24)).alloc (.cells #[.bool dz, .slice a5 zn.length c5, .slice a6 zd.length c6] 24)) (.bool cy) (.slice a3 yn.length c3) (.slice a4 yd.length c4) (.bool dz) (.slice a5 zn.length c5) (.slice a6 zd.length c6) 24
    simp only [World.size_alloc] at h
    exact h
  have b0 : Below w.heap.size w ((((w.alloc (.cells #[.bool bx, .slice a1 xn.length c1, .slice a2 xd.length c2] 24)).alloc (.cells #[.bool cy, .slice a3 yn.length c3, .slice a4 yd.length c4] 24)).alloc (.cells #[.bool dz, .slice a5 zn.length c5, .slice a6 zd.length c6] 24)).alloc (.cells #[.bool cy, .slice a3 yn.length c3, .slice a4 yd.length c4, .bool dz, .slice a5 zn.length c5, .slice a6 zd.length c6] 24)) := (((below_alloc w _).alloc (by simp) _).alloc (by simp <;> omega) _).alloc (by simp <;> omega) _
  have s0 : w.heap.size + 1 + 1 + 1 < ((((w.alloc (.cells #[.bool bx, .slice a1 xn.length c1, .slice a2 xd.length c2] 24)).alloc (.cells #[.bool cy, .slice a3 yn.length c3, .slice a4 yd.length c4] 24)).alloc (.cells #[.bool dz, .slice a5 zn.length c5, .slice a6 zd.length c6] 24)).alloc (.cells #[.bool cy, .slice a3 yn.length c3, .slice a4 yd.length c4, .bool dz, .slice a5 zn.length c5, .slice a6 zd.length c6] 24)).heap.size := by simp
  replace h1 := (h1.below b0).mono b0.size
  replace h2 := (h2.below b0).mono b0.size
  replace h3 := (h3.below b0).mono b0.size
  replace h4 := (h4.below b0).mono b0.size
  replace h5 := (h5.below b0).mono b0.size
  replace h6 := (h6.below b0).mono b0.size
  go_enter Tryd.func7, Tryd.ntmps7
  go_wp2_with fail
  generalize hA : ((((w.alloc (.cells #[.bool bx, .slice a1 xn.length c1, .slice a2 xd.length c2] 24)).alloc (.cells #[.bool cy, .slice a3 yn.length c3, .slice a4 yd.length c4] 24)).alloc (.cells #[.bool dz, .slice a5 zn.length c5, .slice a6 zd.length c6] 24)).alloc (.cells #[.bool cy, .slice a3 yn.length c3, .slice a4 yd.length c4, .bool dz, .slice a5 zn.length c5, .slice a6 zd.length c6] 24)) = w0 at *
  clear hA
  refine (add2 hT h3 h4 h5 h6 (Nat.le_refl _)).mono ?_
  rintro e w1 ⟨ks, bs, xs, ns, ys, us, ms, ts, es, rfl, os⟩
  obtain ⟨Ns, Ds, rfl, rfl, rsn, rsd, Hs⟩ := os.out.lists
  clear os
  have zw1 := ks.size
  replace bX := bX.below ks (by omega)
  replace h1 := (h1.below ks).mono zw1
  replace h2 := (h2.below ks).mono zw1
  replace bY := bY.below ks (by omega)
  replace h3 := (h3.below ks).mono zw1
  replace h4 := (h4.below ks).mono zw1
  replace bZ := bZ.below ks (by omega)
  replace h5 := (h5.below ks).mono zw1
  replace h6 := (h6.below ks).mono zw1
  have g1 : Below w.heap.size w w1 := b0.trans (ks.mono (by omega))
  have zz1 : w.heap.size + 1 + 1 + 1 < w1.heap.size := by omega
  have A2 := below_alloc w1 (.cells #[.bool bs, .slice xs Ns.length ys, .slice us Ds.length ts] 24)
  have p20 := (A2.cell (p := ⟨w.heap.size, 0, none⟩) (show w.heap.size < w1.heap.size by omega)).trans bX.c0
  have p21 := (A2.cell (p := ⟨w.heap.size, 1, none⟩) (show w.heap.size < w1.heap.size by omega)).trans bX.c1
  have p22 := (A2.cell (p := ⟨w.heap.size, 2, none⟩) (show w.heap.size < w1.heap.size by omega)).trans bX.c2
  have q20 := (box3_new w1 (.bool bs) (.slice xs Ns.length ys) (.slice us Ds.length ts) 24).c0
  have q21 := (box3_new w1 (.bool bs) (.slice xs Ns.length ys) (.slice us Ds.length ts) 24).c1
  have q22 := (box3_new w1 (.bool bs) (.slice xs Ns.length ys) (.slice us Ds.length ts) 24).c2
  have Bs : Box3 ((w1.alloc (.cells #[.bool bs, .slice xs Ns.length ys, .slice us Ds.length ts] 24)).alloc (.cells #[.bool bx, .slice a1 xn.length c1, .slice a2 xd.length c2, .bool bs, .slice xs Ns.length ys, .slice us Ds.length ts] 24)) w1.heap.size 24 (.bool bs) (.slice xs Ns.length ys) (.slice us Ds.length ts) := (box3_new w1 _ _ _ _).below (below_alloc _ _) (by simp)
  have T2 : Two ((w1.alloc (.cells #[.bool bs, .slice xs Ns.length ys, .slice us Ds.length ts] 24)).alloc (.cells #[.bool bx, .slice a1 xn.length c1, .slice a2 xd.length c2, .bool bs, .slice xs Ns.length ys, .slice us Ds.length ts] 24)) (w1.heap.size + 1) (.bool bx) (.slice a1 xn.length c1) (.slice a2 xd.length c2) (.bool bs) (.slice xs Ns.length ys) (.slice us Ds.length ts) := by
    have h := two_new (w1.alloc (.cells #[.bool bs, .slice xs Ns.length ys, .slice us Ds.length ts] 24)) (.bool bx) (.slice a1 xn.length c1) (.slice a2 xd.length c2) (.bool bs) (.slice xs Ns.length ys) (.slice us Ds.length ts) 24
    simp only [World.size_alloc] at h
    exact h
  have C2 : Below w1.heap.size w1 ((w1.alloc (.cells #[.bool bs, .slice xs Ns.length ys, .slice us Ds.length ts] 24)).alloc (.cells #[.bool bx, .slice a1 xn.length c1, .slice a2 xd.length c2, .bool bs, .slice xs Ns.length ys, .slice us Ds.length ts] 24)) := A2.alloc (by simp) _
  have S2 : w1.heap.size + 1 < ((w1.alloc (.cells #[.bool bs, .slice xs Ns.length ys, .slice us Ds.length ts] 24)).alloc (.cells #[.bool bx, .slice a1 xn.length c1, .slice a2 xd.length c2, .bool bs, .slice xs Ns.length ys, .slice us Ds.length ts] 24)).heap.size := by simp
  go_wp2_with fail
  clear p20 p21 p22 q20 q21 q22 A2
  generalize hA : ((w1.alloc (.cells #[.bool bs, .slice xs Ns.length ys, .slice us Ds.length ts] 24)).alloc (.cells #[.bool bx, .slice a1 xn.length c1, .slice a2 xd.length c2, .bool bs, .slice xs Ns.length ys, .slice us Ds.length ts] 24)) = v2 at *
  clear hA
  have zv2 := C2.size
  replace bX := bX.below C2 (by omega)
  replace h1 := (h1.below C2).mono zv2
  replace h2 := (h2.below C2).mono zv2
  replace bY := bY.below C2 (by omega)
  replace h3 := (h3.below C2).mono zv2
  replace h4 := (h4.below C2).mono zv2
  replace bZ := bZ.below C2 (by omega)
  replace h5 := (h5.below C2).mono zv2
  replace h6 := (h6.below C2).mono zv2
  replace rsn := (rsn.below C2).mono zv2
  replace rsd := (rsd.below C2).mono zv2
  refine (mul2 T2 h1 h2 rsn rsd (Nat.le_refl _)).mono ?_
  rintro e w2 ⟨kp, bp, xp, np, yp, up, mp, tp, ep, rfl, op⟩
  obtain ⟨Np, Dp, rfl, rfl, rpn, rpd, Hp⟩ := op.out.lists
  clear op
  have zw2 := kp.size
  replace bX := bX.below kp (by omega)
  replace h1 := (h1.below kp).mono zw2
  replace h2 := (h2.below kp).mono zw2
  replace bY := bY.below kp (by omega)
  replace h3 := (h3.below kp).mono zw2
  replace h4 := (h4.below kp).mono zw2
  replace bZ := bZ.below kp (by omega)
  replace h5 := (h5.below kp).mono zw2
  replace h6 := (h6.below kp).mono zw2
  replace Bs := Bs.below kp (by omega)
  replace rsn := (rsn.below kp).mono zw2
  replace rsd := (rsd.below kp).mono zw2
  have g2 : Below w.heap.size w w2 := g1.trans ((C2.mono (by omega)).trans (kp.mono (by omega)))
  clear T2 C2
  have A3 := below_alloc w2 (.cells #[.bool bp, .slice xp Np.length yp, .slice up Dp.length tp] 24)
  have p30 := (A3.cell (p := ⟨w.heap.size, 0, none⟩) (show w.heap.size < w2.heap.size by omega)).trans bX.c0
  have p31 := (A3.cell (p := ⟨w.heap.size, 1, none⟩) (show w.heap.size < w2.heap.size by omega)).trans bX.c1
  have p32 := (A3.cell (p := ⟨w.heap.size, 2, none⟩) (show w.heap.size < w2.heap.size by omega)).trans bX.c2
  have q30 := (A3.cell (p := ⟨w.heap.size + 1, 0, none⟩) (show w.heap.size + 1 < w2.heap.size by omega)).trans bY.c0
  have q31 := (A3.cell (p := ⟨w.heap.size + 1, 1, none⟩) (show w.heap.size + 1 < w2.heap.size by omega)).trans bY.c1
  have q32 := (A3.cell (p := ⟨w.heap.size + 1, 2, none⟩) (show w.heap.size + 1 < w2.heap.size by omega)).trans bY.c2
  have Bp : Box3 ((w2.alloc (.cells #[.bool bp, .slice xp Np.length yp, .slice up Dp.length tp] 24)).alloc (.cells #[.bool bx, .slice a1 xn.length c1, .slice a2 xd.length c2, .bool cy, .slice a3 yn.length c3, .slice a4 yd.length c4] 24)) w2.heap.size 24 (.bool bp) (.slice xp Np.length yp) (.slice up Dp.length tp) := (box3_new w2 _ _ _ _).below (below_alloc _ _) (by simp)
  have T3 : Two ((w2.alloc (.cells #[.bool bp, .slice xp Np.length yp, .slice up Dp.length tp] 24)).alloc (.cells #[.bool bx, .slice a1 xn.length c1, .slice a2 xd.length c2, .bool cy, .slice a3 yn.length c3, .slice a4 yd.length c4] 24)) (w2.heap.size + 1) (.bool bx) (.slice a1 xn.length c1) (.slice a2 xd.length c2) (.bool cy) (.slice a3 yn.length c3) (.slice a4 yd.length c4) := by
    have h := two_new (w2.alloc (.cells #[.bool bp, .slice xp Np.length yp, .slice up Dp.length tp] 24)) (.bool bx) (.slice a1 xn.length c1) (.slice a2 xd.length c2) (.bool cy) (.slice a3 yn.length c3) (.slice a4 yd.length c4) 24
    simp only [World.size_alloc] at h
    exact h
  have C3 : Below w2.heap.size w2 ((w2.alloc (.cells #[.bool bp, .slice xp Np.length yp, .slice up Dp.length tp] 24)).alloc (.cells #[.bool bx, .slice a1 xn.length c1, .slice a2 xd.length c2, .bool cy, .slice a3 yn.length c3, .slice a4 yd.length c4] 24)) := A3.alloc (by simp) _
  have S3 : w2.heap.size + 1 < ((w2.alloc (.cells #[.bool bp, .slice xp Np.length yp, .slice up Dp.length tp] 24)).alloc (.cells #[.bool bx, .slice a1 xn.length c1, .slice a2 xd.length c2, .bool cy, .slice a3 yn.length c3, .slice a4 yd.length c4] 24)).heap.size := by simp
  go_wp2_with fail
  clear p30 p31 p32 q30 q31 q32 A3
  generalize hA : ((w2.alloc (.cells #[.bool bp, .slice xp Np.length yp, .slice up Dp.length tp] 24)).alloc (.cells #[.bool bx, .slice a1 xn.length c1, .slice a2 xd.length c2, .bool cy, .slice a3 yn.length c3, .slice a4 yd.length c4] 24)) = v3 at *
  clear hA
  have zv3 := C3.size
  replace bX := bX.below C3 (by omega)
  replace h1 := (h1.below C3).mono zv3
  replace h2 := (h2.below C3).mono zv3
  replace bY := bY.below C3 (by omega)
  replace h3 := (h3.below C3).mono zv3
  replace h4 := (h4.below C3).mono zv3
  replace bZ := bZ.below C3 (by omega)
  replace h5 := (h5.below C3).mono zv3
  replace h6 := (h6.below C3).mono zv3
  replace Bs := Bs.below C3 (by omega)
  replace rsn := (rsn.below C3).mono zv3
  replace rsd := (rsd.below C3).mono zv3
  replace rpn := (rpn.below C3).mono zv3
  replace rpd := (rpd.below C3).mono zv3
  refine (mul2 T3 h1 h2 h3 h4 (Nat.le_refl _)).mono ?_
  rintro e w3 ⟨kq, bq, xq, nq, yq, uq, mq, tq, eq, rfl, oq⟩
  obtain ⟨Nq, Dq, rfl, rfl, rqn, rqd, Hq⟩ := oq.out.lists
  clear oq
  have zw3 := kq.size
  replace bX := bX.below kq (by omega)
  replace h1 := (h1.below kq).mono zw3
  replace h2 := (h2.below kq).mono zw3
  replace bY := bY.below kq (by omega)
  replace h3 := (h3.below kq).mono zw3
  replace h4 := (h4.below kq).mono zw3
  replace bZ := bZ.below kq (by omega)
  replace h5 := (h5.below kq).mono zw3
  replace h6 := (h6.below kq).mono zw3
  replace Bs := Bs.below kq (by omega)
  replace rsn := (rsn.below kq).mono zw3
  replace rsd := (rsd.below kq).mono zw3
  replace Bp := Bp.below kq (by omega)
  replace rpn := (rpn.below kq).mono zw3
  replace rpd := (rpd.below kq).mono zw3
  have g3 : Below w.heap.size w w3 := g2.trans ((C3.mono (by omega)).trans (kq.mono (by omega)))
  clear T3 C3
  have A4 := below_alloc w3 (.cells #[.bool bq, .slice xq Nq.length yq, .slice uq Dq.length tq] 24)
  have p40 := (A4.cell (p := ⟨w.heap.size, 0, none⟩) (show w.heap.size < w3.heap.size by omega)).trans bX.c0
  have p41 := (A4.cell (p := ⟨w.heap.size, 1, none⟩) (show w.heap.size < w3.heap.size by omega)).trans bX.c1
  have p42 := (A4.cell (p := ⟨w.heap.size, 2, none⟩) (show w.heap.size < w3.heap.size by omega)).trans bX.c2
  have q40 := (A4.cell (p := ⟨w.heap.size + 1 + 1, 0, none⟩) (show w.heap.size + 1 + 1 < w3.heap.size by omega)).trans bZ.c0
  have q41 := (A4.cell (p := ⟨w.heap.size + 1 + 1, 1, none⟩) (show w.heap.size + 1 + 1 < w3.heap.size by omega)).trans bZ.c1
  have q42 := (A4.cell (p := ⟨w.heap.size + 1 + 1, 2, none⟩) (show w.heap.size + 1 + 1 < w3.heap.size by omega)).trans bZ.c2
  have Bq : Box3 ((w3.alloc (.cells #[.bool bq, .slice xq Nq.length yq, .slice uq Dq.length tq] 24)).alloc (.cells #[.bool bx, .slice a1 xn.length c1, .slice a2 xd.length c2, .bool dz, .slice a5 zn.length c5, .slice a6 zd.length c6] 24)) w3.heap.size 24 (.bool bq) (.slice xq Nq.length yq) (.slice uq Dq.length tq) := (box3_new w3 _ _ _ _).below (below_alloc _ _) (by simp)
  have T4 : Two ((w3.alloc (.cells #[.bool bq, .slice xq Nq.length yq, .slice uq Dq.length tq] 24)).alloc (.cells #[.bool bx, .slice a1 xn.length c1, .slice a2 xd.length c2, .bool dz, .slice a5 zn.length c5, .slice a6 zd.length c6] 24)) (w3.heap.size + 1) (.bool bx) (.slice a1 xn.length c1) (.slice a2 xd.length c2) (.bool dz) (.slice a5 zn.length c5) (.slice a6 zd.length c6) := by
    have h := two_new (w3.alloc (.cells #[.bool bq, .slice xq Nq.length yq, .slice uq Dq.length tq] 24)) (.bool bx) (.slice a1 xn.length c1) (.slice a2 xd.length c2) (.bool dz) (.slice a5 zn.length c5) (.slice a6 zd.length c6) 24
    simp only [World.size_alloc] at h
    exact h
  have C4 : Below w3.heap.size w3 ((w3.alloc (.cells #[.bool bq, .slice xq Nq.length yq, .slice uq Dq.length tq] 24)).alloc (.cells #[.bool bx, .slice a1 xn.length c1, .slice a2 xd.length c2, .bool dz, .slice a5 zn.length c5, .slice a6 zd.length c6] 24)) := A4.alloc (by simp) _
  have S4 : w3.heap.size + 1 < ((w3.alloc (.cells #[.bool bq, .slice xq Nq.length yq, .slice uq Dq.length tq] 24)).alloc (.cells #[.bool bx, .slice a1 xn.length c1, .slice a2 xd.length c2, .bool dz, .slice a5 zn.length c5, .slice a6 zd.length c6] 24)).heap.size := by simp
  go_wp2_with fail
  clear p40 p41 p42 q40 q41 q42 A4
  generalize hA : ((w3.alloc (.cells #[.bool bq, .slice xq Nq.length yq, .slice uq Dq.length tq] 24)).alloc (.cells #[.bool bx, .slice a1 xn.length c1, .slice a2 xd.length c2, .bool dz, .slice a5 zn.length c5, .slice a6 zd.length c6] 24)) = v4 at *
  clear hA
  have zv4 := C4.size
  replace bX := bX.below C4 (by omega)
  replace h1 := (h1.below C4).mono zv4
  replace h2 := (h2.below C4).mono zv4
  replace bY := bY.below C4 (by omega)
  replace h3 := (h3.below C4).mono zv4
  replace h4 := (h4.below C4).mono zv4
  replace bZ := bZ.below C4 (by omega)
  replace h5 := (h5.below C4).mono zv4
  replace h6 := (h6.below C4).mono zv4
  replace Bs := Bs.below C4 (by omega)
  replace rsn := (rsn.below C4).mono zv4
  replace rsd := (rsd.below C4).mono zv4
  replace Bp := Bp.below C4 (by omega)
  replace rpn := (rpn.below C4).mono zv4
  replace rpd := (rpd.below C4).mono zv4
  replace rqn := (rqn.below C4).mono zv4
  replace rqd := (rqd.below C4).mono zv4
  refine (mul2 T4 h1 h2 h5 h6 (Nat.le_refl _)).mono ?_
  rintro e w4 ⟨kr, br, xr, nr, yr, ur, mr, tr, er, rfl, or⟩
  obtain ⟨Nr, Dr, rfl, rfl, rrn, rrd, Hr⟩ := or.out.lists
  clear or
  have zw4 := kr.size
  replace bX := bX.below kr (by omega)
  replace h1 := (h1.below kr).mono zw4
  replace h2 := (h2.below kr).mono zw4
  replace bY := bY.below kr (by omega)
  replace h3 := (h3.below kr).mono zw4
  replace h4 := (h4.below kr).mono zw4
  replace bZ := bZ.below kr (by omega)
  replace h5 := (h5.below kr).mono zw4
  replace h6 := (h6.below kr).mono zw4
  replace Bs := Bs.below kr (by omega)
  replace rsn := (rsn.below kr).mono zw4
  replace rsd := (rsd.below kr).mono zw4
  replace Bp := Bp.below kr (by omega)
  replace rpn := (rpn.below kr).mono zw4
  replace rpd := (rpd.below kr).mono zw4
  replace Bq := Bq.below kr (by omega)
  replace rqn := (rqn.below kr).mono zw4
  replace rqd := (rqd.below kr).mono zw4
  have g4 : Below w.heap.size w w4 := g3.trans ((C4.mono (by omega)).trans (kr.mono (by omega)))
  clear T4 C4
  have A5 := below_alloc w4 (.cells #[.bool br, .slice xr Nr.length yr, .slice ur Dr.length tr] 24)
  have p50 := (A5.cell (p := ⟨w3.heap.size, 0, none⟩) (show w3.heap.size < w4.heap.size by omega)).trans Bq.c0
  have p51 := (A5.cell (p := ⟨w3.heap.size, 1, none⟩) (show w3.heap.size < w4.heap.size by omega)).trans Bq.c1
  have p52 := (A5.cell (p := ⟨w3.heap.size, 2, none⟩) (show w3.heap.size < w4.heap.size by omega)).trans Bq.c2
  have q50 := (box3_new w4 (.bool br) (.slice xr Nr.length yr) (.slice ur Dr.length tr) 24).c0
  have q51 := (box3_new w4 (.bool br) (.slice xr Nr.length yr) (.slice ur Dr.length tr) 24).c1
  have q52 := (box3_new w4 (.bool br) (.slice xr Nr.length yr) (.slice ur Dr.length tr) 24).c2
  have Br : Box3 ((w4.alloc (.cells #[.bool br, .slice xr Nr.length yr, .slice ur Dr.length tr] 24)).alloc (.cells #[.bool bq, .slice xq Nq.length yq, .slice uq Dq.length tq, .bool br, .slice xr Nr.length yr, .slice ur Dr.length tr] 24)) w4.heap.size 24 (.bool br) (.slice xr Nr.length yr) (.slice ur Dr.length tr) := (box3_new w4 _ _ _ _).below (below_alloc _ _) (by simp)
  have T5 : Two ((w4.alloc (.cells #[.bool br, .slice xr Nr.length yr, .slice ur Dr.length tr] 24)).alloc (.cells #[.bool bq, .slice xq Nq.length yq, .slice uq Dq.length tq, .bool br, .slice xr Nr.length yr, .slice ur Dr.length tr] 24)) (w4.heap.size + 1) (.bool bq) (.slice xq Nq.length yq) (.slice uq Dq.length tq) (.bool br) (.slice xr Nr.length yr) (.slice ur Dr.length tr) := by
    have h := two_new (w4.alloc (.cells #[.bool br, .slice xr Nr.length yr, .slice ur Dr.length tr] 24)) (.bool bq) (.slice xq Nq.length yq) (.slice uq Dq.length tq) (.bool br) (.slice xr Nr.length yr) (.slice ur Dr.length tr) 24
    simp only [World.size_alloc] at h
    exact h
  have C5 : Below w4.heap.size w4 ((w4.alloc (.cells #[.bool br, .slice xr Nr.length yr, .slice ur Dr.length tr] 24)).alloc (.cells #[.bool bq, .slice xq Nq.length yq, .slice uq Dq.length tq, .bool br, .slice xr Nr.length yr, .slice ur Dr.length tr] 24)) := A5.alloc (by simp) _
  have S5 : w4.heap.size + 1 < ((w4.alloc (.cells #[.bool br, .slice xr Nr.length yr, .slice ur Dr.length tr] 24)).alloc (.cells #[.bool bq, .slice xq Nq.length yq, .slice uq Dq.length tq, .bool br, .slice xr Nr.length yr, .slice ur Dr.length tr] 24)).heap.size := by simp
  go_wp2_with fail
  clear p50 p51 p52 q50 q51 q52 A5
  generalize hA : ((w4.alloc (.cells #[.bool br, .slice xr Nr.length yr, .slice ur Dr.length tr] 24)).alloc (.cells #[.bool bq, .slice xq Nq.length yq, .slice uq Dq.length tq, .bool br, .slice xr Nr.length yr, .slice ur Dr.length tr] 24)) = v5 at *
  clear hA
  have zv5 := C5.size
  replace bX := bX.below C5 (by omega)
  replace h1 := (h1.below C5).mono zv5
  replace h2 := (h2.below C5).mono zv5
  replace bY := bY.below C5 (by omega)
  replace h3 := (h3.below C5).mono zv5
  replace h4 := (h4.below C5).mono zv5
  replace bZ := bZ.below C5 (by omega)
  replace h5 := (h5.below C5).mono zv5
  replace h6 := (h6.below C5).mono zv5
  replace Bs := Bs.below C5 (by omega)
  replace rsn := (rsn.below C5).mono zv5
  replace rsd := (rsd.below C5).mono zv5
  replace Bp := Bp.below C5 (by omega)
  replace rpn := (rpn.below C5).mono zv5
  replace rpd := (rpd.below C5).mono zv5
  replace Bq := Bq.below C5 (by omega)
  replace rqn := (rqn.below C5).mono zv5
  replace rqd := (rqd.below C5).mono zv5
  replace rrn := (rrn.below C5).mono zv5
  replace rrd := (rrd.below C5).mono zv5
  refine (add2 T5 rqn rqd rrn rrd (Nat.le_refl _)).mono ?_
  rintro e w5 ⟨kt, bt, xt, nt, yt, ut, mt, tt, et, rfl, ot⟩
  obtain ⟨Nt, Dt, rfl, rfl, rtn, rtd, Ht⟩ := ot.out.lists
  clear ot
  have zw5 := kt.size
  replace bX := bX.below kt (by omega)
  replace h1 := (h1.below kt).mono zw5
  replace h2 := (h2.below kt).mono zw5
  replace bY := bY.below kt (by omega)
  replace h3 := (h3.below kt).mono zw5
  replace h4 := (h4.below kt).mono zw5
  replace bZ := bZ.below kt (by omega)
  replace h5 := (h5.below kt).mono zw5
  replace h6 := (h6.below kt).mono zw5
  replace Bs := Bs.below kt (by omega)
  replace rsn := (rsn.below kt).mono zw5
  replace rsd := (rsd.below kt).mono zw5
  replace Bp := Bp.below kt (by omega)
  replace rpn := (rpn.below kt).mono zw5
  replace rpd := (rpd.below kt).mono zw5
  replace Bq := Bq.below kt (by omega)
  replace rqn := (rqn.below kt).mono zw5
  replace rqd := (rqd.below kt).mono zw5
  replace Br := Br.below kt (by omega)
  replace rrn := (rrn.below kt).mono zw5
  replace rrd := (rrd.below kt).mono zw5
  have g5 : Below w.heap.size w w5 := g4.trans ((C5.mono (by omega)).trans (kt.mono (by omega)))
  clear T5 C5
  have A6 := below_alloc w5 (.cells #[.bool bt, .slice xt Nt.length yt, .slice ut Dt.length tt] 24)
  have p60 := (A6.cell (p := ⟨w.heap.size, 0, none⟩) (show w.heap.size < w5.heap.size by omega)).trans bX.c0
  have p61 := (A6.cell (p := ⟨w.heap.size, 1, none⟩) (show w.heap.size < w5.heap.size by omega)).trans bX.c1
  have p62 := (A6.cell (p := ⟨w.heap.size, 2, none⟩) (show w.heap.size < w5.heap.size by omega)).trans bX.c2
  have Bt := box3_new w5 (.bool bt) (.slice xt Nt.length yt) (.slice ut Dt.length tt) 24
  have S6 : w5.heap.size < (w5.alloc (.cells #[.bool bt, .slice xt Nt.length yt, .slice ut Dt.length tt] 24)).heap.size := by simp
  go_wp2_with fail
  generalize hA : w5.alloc (.cells #[.bool bt, .slice xt Nt.length yt, .slice ut Dt.length tt] 24) = v6 at *
  clear hA p60 p61 p62
  have zv6 := A6.size
  replace bX := bX.below A6 (by omega)
  replace h1 := (h1.below A6).mono zv6
  replace h2 := (h2.below A6).mono zv6
  replace bY := bY.below A6 (by omega)
  replace h3 := (h3.below A6).mono zv6
  replace h4 := (h4.below A6).mono zv6
  replace bZ := bZ.below A6 (by omega)
  replace h5 := (h5.below A6).mono zv6
  replace h6 := (h6.below A6).mono zv6
  replace Bs := Bs.below A6 (by omega)
  replace rsn := (rsn.below A6).mono zv6
  replace rsd := (rsd.below A6).mono zv6
  replace Bp := Bp.below A6 (by omega)
  replace rpn := (rpn.below A6).mono zv6
  replace rpd := (rpd.below A6).mono zv6
  replace Bq := Bq.below A6 (by omega)
  replace rqn := (rqn.below A6).mono zv6
  replace rqd := (rqd.below A6).mono zv6
  replace Br := Br.below A6 (by omega)
  replace rrn := (rrn.below A6).mono zv6
  replace rrd := (rrd.below A6).mono zv6
  replace rtn := (rtn.below A6).mono zv6
  replace rtd := (rtd.below A6).mono zv6
  refine (div_self h1 h2 (Nat.le_refl _)).mono ?_
  rintro e w6 ⟨kf, bo, xo, no, yo, uo, mo, to', ef, rfl, hself⟩
  have zw6 := kf.size
  replace bX := bX.below kf (by omega)
  replace h1 := (h1.below kf).mono zw6
  replace h2 := (h2.below kf).mono zw6
  replace bY := bY.below kf (by omega)
  replace h3 := (h3.below kf).mono zw6
  replace h4 := (h4.below kf).mono zw6
  replace bZ := bZ.below kf (by omega)
  replace h5 := (h5.below kf).mono zw6
  replace h6 := (h6.below kf).mono zw6
  replace Bs := Bs.below kf (by omega)
  replace rsn := (rsn.below kf).mono zw6
  replace rsd := (rsd.below kf).mono zw6
  replace Bp := Bp.below kf (by omega)
  replace rpn := (rpn.below kf).mono zw6
  replace rpd := (rpd.below kf).mono zw6
  replace Bq := Bq.below kf (by omega)
  replace rqn := (rqn.below kf).mono zw6
  replace rqd := (rqd.below kf).mono zw6
  replace Br := Br.below kf (by omega)
  replace rrn := (rrn.below kf).mono zw6
  replace rrd := (rrd.below kf).mono zw6
  replace Bt := Bt.below kf (by omega)
  replace rtn := (rtn.below kf).mono zw6
  replace rtd := (rtd.below kf).mono zw6
  have g6 : Below w.heap.size w w6 := g5.trans ((A6.mono (by omega)).trans (kf.mono (by omega)))
  have A7 := below_alloc w6 (.cells #[.bool bo, .slice xo no yo, .slice uo mo to'] 24)
  have p70 := (A7.cell (p := ⟨w.heap.size, 0, none⟩) (show w.heap.size < w6.heap.size by omega)).trans bX.c0
  have p71 := (A7.cell (p := ⟨w.heap.size, 1, none⟩) (show w.heap.size < w6.heap.size by omega)).trans bX.c1
  have p72 := (A7.cell (p := ⟨w.heap.size, 2, none⟩) (show w.heap.size < w6.heap.size by omega)).trans bX.c2
  have Bo := box3_new w6 (.bool bo) (.slice xo no yo) (.slice uo mo to') 24
  have S7 : w6.heap.size < (w6.alloc (.cells #[.bool bo, .slice xo no yo, .slice uo mo to'] 24)).heap.size := by simp
  have HSELF : Hid ((¬ RightP bx xn xd → ef = 22) ∧ (RightP bx xn xd → ef = 0 ∧ bo = false ∧ no = [(1 : Int)].length ∧ mo = [(1 : Int)].length ∧ Rd w6.heap.size w6 (.slice xo no yo) [1] ∧ Rd w6.heap.size w6 (.slice uo mo to') [1])) := ⟨hself.out.1, fun h => by
    obtain ⟨q1, q2, q3, q4, q5, q6⟩ := hself.out.2 h
    refine ⟨q1, q2, q3, q4, ?_, ?_⟩
    · rw [q3] at q5 ⊢; exact q5.rd
    · rw [q4] at q6 ⊢; exact q6.rd⟩
  clear hself
  go_wp2_with fail
  generalize hA : w6.alloc (.cells #[.bool bo, .slice xo no yo, .slice uo mo to'] 24) = v7 at *
  clear hA p70 p71 p72
  have zv7 := A7.size
  replace bX := bX.below A7 (by omega)
  replace h1 := (h1.below A7).mono zv7
  replace h2 := (h2.below A7).mono zv7
  replace bY := bY.below A7 (by omega)
  replace h3 := (h3.below A7).mono zv7
  replace h4 := (h4.below A7).mono zv7
  replace bZ := bZ.below A7 (by omega)
  replace h5 := (h5.below A7).mono zv7
  replace h6 := (h6.below A7).mono zv7
  replace Bs := Bs.below A7 (by omega)
  replace rsn := (rsn.below A7).mono zv7
  replace rsd := (rsd.below A7).mono zv7
  replace Bp := Bp.below A7 (by omega)
  replace rpn := (rpn.below A7).mono zv7
  replace rpd := (rpd.below A7).mono zv7
  replace Bq := Bq.below A7 (by omega)
  replace rqn := (rqn.below A7).mono zv7
  replace rqd := (rqd.below A7).mono zv7
  replace Br := Br.below A7 (by omega)
  replace rrn := (rrn.below A7).mono zv7
  replace rrd := (rrd.below A7).mono zv7
  replace Bt := Bt.below A7 (by omega)
  replace rtn := (rtn.below A7).mono zv7
  replace rtd := (rtd.below A7).mono zv7
  refine (right_rat h1 h2 (Nat.le_refl _)).mono ?_
  rintro e w7 ⟨⟨r, rfl, hr⟩, k7⟩
  have zw7 := k7.size
  replace bX := bX.below k7 (by omega)
  replace h1 := (h1.below k7).mono zw7
  replace h2 := (h2.below k7).mono zw7
  replace bY := bY.below k7 (by omega)
  replace h3 := (h3.below k7).mono zw7
  replace h4 := (h4.below k7).mono zw7
  replace bZ := bZ.below k7 (by omega)
  replace h5 := (h5.below k7).mono zw7
  replace h6 := (h6.below k7).mono zw7
  replace Bs := Bs.below k7 (by omega)
  replace rsn := (rsn.below k7).mono zw7
  replace rsd := (rsd.below k7).mono zw7
  replace Bp := Bp.below k7 (by omega)
  replace rpn := (rpn.below k7).mono zw7
  replace rpd := (rpd.below k7).mono zw7
  replace Bq := Bq.below k7 (by omega)
  replace rqn := (rqn.below k7).mono zw7
  replace rqd := (rqd.below k7).mono zw7
  replace Br := Br.below k7 (by omega)
  replace rrn := (rrn.below k7).mono zw7
  replace rrd := (rrd.below k7).mono zw7
  replace Bt := Bt.below k7 (by omega)
  replace rtn := (rtn.below k7).mono zw7
  replace rtd := (rtd.below k7).mono zw7
  have g7 : Below w.heap.size w w7 := g6.trans ((A7.mono (by omega)).trans (k7.mono (by omega)))
  replace Bo := Bo.below k7 S7
  cases r with
  | false =>
    have HP : Hid (¬ RightP bx xn xd) := fun h => by have := hr.2 h; cases this
    obtain rfl : ef = 22 := HSELF.out.1 HP.out
    obtain rfl : eq = 22 := Hq.out.2 (fun h => HP.out h.1)
    clear hr
    go_wp2
    go_ret
    exact ⟨rfl, g7⟩
  | true =>
    have HP : Hid (RightP bx xn xd) := hr.1 rfl
    clear hr
    obtain ⟨rfl, rfl, rfl, rfl, ro1, ro2⟩ := HSELF.out.2 HP.out
    clear HSELF
    have bo7 : Below w6.heap.size w6 w7 := A7.trans (k7.mono (by omega))
    replace ro1 := (ro1.below bo7).mono (by omega : w6.heap.size ≤ w7.heap.size)
    replace ro2 := (ro2.below bo7).mono (by omega : w6.heap.size ≤ w7.heap.size)
    have d0 := Bo.c0
    have d1 := Bo.c1
    have d2 := Bo.c2
    have hR1 : RightP false [1] [1] := ⟨by decide, by decide, can_one, can_one, by simp, by decide, by decide⟩
    have hpr := print_rat (b := false) ro1 ro2 (Nat.le_refl _) hR1 (tabIs_below htab g7)
    rw [one_text] at hpr
    clear hR1
    have heq1 : ((ByteArray.mk #[49]).toList == (ByteArray.mk #[49]).toList) = true := by simp
    go_wp2_with fail
    refine hpr.mono ?_
    rintro e w8 ⟨rfl, k8⟩
    clear hpr d0 d1 d2
    have zw8 := k8.size
    replace bX := bX.below k8 (by omega)
    replace h1 := (h1.below k8).mono zw8
    replace h2 := (h2.below k8).mono zw8
    clear bY h3 h4
    clear bZ h5 h6
    clear Bs rsn rsd
    replace Bp := Bp.below k8 (by omega)
    replace rpn := (rpn.below k8).mono zw8
    replace rpd := (rpd.below k8).mono zw8
    clear Bq rqn rqd
    clear Br rrn rrd
    replace Bt := Bt.below k8 (by omega)
    replace rtn := (rtn.below k8).mono zw8
    replace rtd := (rtd.below k8).mono zw8
    have g8 : Below w.heap.size w w8 := g7.trans (k8.mono (by omega))
    clear ro1 ro2 Bo
    have hcs : ¬ es = 0 ∨ (es = 0 ∧ ¬ ep = 0) ∨ (es = 0 ∧ ep = 0 ∧ ¬ eq = 0) ∨ (es = 0 ∧ ep = 0 ∧ eq = 0 ∧ ¬ er = 0) ∨ (es = 0 ∧ ep = 0 ∧ eq = 0 ∧ er = 0 ∧ ¬ et = 0) ∨ (es = 0 ∧ ep = 0 ∧ eq = 0 ∧ er = 0 ∧ et = 0) := by
      omega
    have x1' := bX.c1
    rcases hcs with q1 | ⟨rfl, q1⟩ | ⟨rfl, rfl, q1⟩ | ⟨rfl, rfl, rfl, q1⟩ | ⟨rfl, rfl, rfl, rfl, q1⟩ | ⟨rfl, rfl, rfl, rfl, rfl⟩
    rotate_right
    · obtain ⟨⟨Py, Pz⟩, Ps, Es⟩ := Hs.out.1 rfl
      obtain ⟨_, Pp, Ep⟩ := Hp.out.1 rfl
      obtain ⟨_, Pq, Eq'⟩ := Hq.out.1 rfl
      obtain ⟨_, Pr, Er⟩ := Hr.out.1 rfl
      obtain ⟨_, Pt, Et⟩ := Ht.out.1 rfl
      have hsame : sg bp (val Np) * val Dt = sg bt (val Nt) * val Dp := field_same (Int.mul_pos (right_pos HP.out).1 (Int.mul_pos (right_pos Py).1 (right_pos Pz).1)) (field_left (right_pos Ps).1 Ep Es) (field_right (right_pos Pq).1 (right_pos Pr).1 Eq' Er Et)
      obtain ⟨rfl, rfl, rfl⟩ := lowest Pp Pt hsame
      have HPP : Hid (RightP bp Np Dp) := Pp
      have HC : Hid (cmpI (sg bp (val Np) * val Dp) (sg bp (val Np) * val Dp) = 0) := cmpI_eq rfl
      clear Hs Hp Hq Hr Ht Es Ep Eq' Er Et Ps Pp Pq Pr Pt Py Pz hsame
      have i0 := Bp.c0
      have i1 := Bp.c1
      have i2 := Bp.c2
      have j0 := Bt.c0
      have j1 := Bt.c1
      have j2 := Bt.c2
      have g9 : Below w8.heap.size w8 w8 := Below.refl _ _
      have hcells : ∀ {w' : World}, Below w8.heap.size w8 w' → w'.cell? ⟨w2.heap.size, 0, none⟩ = some (.bool bp) ∧ w'.cell? ⟨w2.heap.size, 1, none⟩ = some (.slice xp Np.length yp) ∧ w'.cell? ⟨w2.heap.size, 2, none⟩ = some (.slice up Dp.length tp) ∧ w'.cell? ⟨w5.heap.size, 0, none⟩ = some (.bool bp) ∧ w'.cell? ⟨w5.heap.size, 1, none⟩ = some (.slice xt Np.length yt) ∧ w'.cell? ⟨w5.heap.size, 2, none⟩ = some (.slice ut Dp.length tt) := fun hb => ⟨(Bp.below hb (by omega)).c0, (Bp.below hb (by omega)).c1, (Bp.below hb (by omega)).c2, (Bt.below hb (by omega)).c0, (Bt.below hb (by omega)).c1, (Bt.below hb (by omega)).c2⟩
      have rpn' : Rd w8.heap.size w8.drew (.slice xp Np.length yp) Np := rpn
      have rpd' : Rd w8.heap.size w8.drew (.slice up Dp.length tp) Dp := rpd
      have rtn' : Rd w8.heap.size w8.drew (.slice xt Np.length yt) Np := rtn
      have rtd' : Rd w8.heap.size w8.drew (.slice ut Dp.length tt) Dp := rtd
      go_wp2
      go_region_held3 (fun w' => w'.cell? ⟨w2.heap.size, 0, none⟩ = some (.bool bp) ∧ w'.cell? ⟨w2.heap.size, 1, none⟩ = some (.slice xp Np.length yp) ∧ w'.cell? ⟨w2.heap.size, 2, none⟩ = some (.slice up Dp.length tp) ∧ w'.cell? ⟨w5.heap.size, 0, none⟩ = some (.bool bp) ∧ w'.cell? ⟨w5.heap.size, 1, none⟩ = some (.slice xt Np.length yt) ∧ w'.cell? ⟨w5.heap.size, 2, none⟩ = some (.slice ut Dp.length tt))
        (first | (go_keep; done) | exact tw | exact tw2 | exact tw3)
        (first
          | (go_at_call 12; refine (compare_rat rpn' rpd' rtn' rtd' (Nat.le_refl _)).mono ?_; rintro e wA ⟨kA, rC, rfl, _, hC⟩; obtain rfl : rC = 0 := (hC ⟨HPP.out, HPP.out⟩).trans HC.out; have kA' : Below w8.heap.size w8 wA := ⟨kA.os, kA.tape, kA.output, kA.size, kA.block⟩; have tw := hcells kA')
          | (go_at_call_of 20 (Value.slice xp Np.length yp); refine (print_rat ((rpn.below kA').mono kA'.size) ((rpd.below kA').mono kA'.size) (Nat.le_refl _) HPP.out (tabIs_below htab (g8.trans (kA'.mono (by omega))))).mono ?_; rintro e wB ⟨rfl, kB⟩; have kB' := kA'.trans (kB.mono kA'.size); have tw2 := hcells kB')
          | (go_at_call_of 20 (Value.slice xt Np.length yt); refine (print_rat ((rtn.below kB').mono kB'.size) ((rtd.below kB').mono kB'.size) (Nat.le_refl _) HPP.out (tabIs_below htab (g8.trans (kB'.mono (by omega))))).mono ?_; rintro e wC ⟨rfl, kC⟩; have kC' := kB'.trans (kC.mono kB'.size); have tw3 := hcells kC'))
      all_goals
        go_wp2
        go_ret
        exact ⟨rfl, g8.trans (kC'.mono (by omega))⟩
    all_goals
      clear Hs Hp Hq Hr Ht
      go_wp2_with fail
      refine (right_any h1).mono ?_
      rintro e w' ⟨rfl, rfl⟩
      rw [(rightB_can h1.lim).2 HP.out.2.2.1]
      go_wp2
      go_ret
      exact ⟨rfl, g8⟩
end Go.Proofs.YtibciilhfpgjjadDoor
