/- rat.withSign of a right number: the same limbs, in memory of their own. -/
import Derived.Test.YtibciilhfpgjjadDoorRatTimes
namespace Go.Proofs.YtibciilhfpgjjadDoor
set_option linter.unusedVariables false
set_option linter.unusedSimpArgs false
open Go.RowKit

set_option maxRecDepth 100000 in
set_option maxHeartbeats 8000000 in
theorem withSign_rat {B : Nat} {w : World} {b b0 : Bool} {a1 a2 : Option Addr} {c1 c2 : Nat} {ns ds : List Int} (h1 : Rd B w (.slice a1 ns.length c1) ns) (h2 : Rd B w (.slice a2 ds.length c2) ds) (hB : B ≤ w.heap.size) (hr : RightP b0 ns ds) :
    Calls Tryd.prog 23 #[.bool b, .agg #[.bool b0, .slice a1 ns.length c1, .slice a2 ds.length c2]] w fun e w' => Below w.heap.size w w' ∧ ∃ x1 y1 x2 y2, e = .returned (.tuple #[.agg #[.bool (b && decide (0 < ns.length)), .slice x1 ns.length y1, .slice x2 ds.length y2], .int .i64 0]) ∧ Own w.heap.size w' (.slice x1 ns.length y1) ns ∧ Own w.heap.size w' (.slice x2 ds.length y2) ds := by
  have t1 : Hid (tr ns = ns) := can_inj (tr_can h1.lim) hr.2.2.1 (val_tr ns)
  have t2 : Hid (tr ds = ds) := can_inj (tr_can h2.lim) hr.2.2.2.1 (val_tr ds)
  have q1' := hr.1
  have q2' := hr.2.1
  clear hr
  have hbX : Box3 ((w.alloc (.cells #[.bool b0, .slice a1 ns.length c1, .slice a2 ds.length c2] 24)).alloc (.cells #[.bool false, .slice none 0 0, .slice none 0 0] 24)) w.heap.size 24 (.bool b0) (.slice a1 ns.length c1) (.slice a2 ds.length c2) := (box3_new w _ _ _ _).below (below_alloc _ _) (by simp)
  have hbR : Box3 ((w.alloc (.cells #[.bool b0, .slice a1 ns.length c1, .slice a2 ds.length c2] 24)).alloc (.cells #[.bool false, .slice none 0 0, .slice none 0 0] 24)) (w.heap.size + 1) 24 (.bool false) (.slice none 0 0) (.slice none 0 0) := by
    have h5 := box3_new (w.alloc (.cells #[.bool b0, .slice a1 ns.length c1, .slice a2 ds.length c2] 24)) (.bool false) (.slice none 0 0) (.slice none 0 0) 24
    simpa using h5
  have b0' : Below w.heap.size w ((w.alloc (.cells #[.bool b0, .slice a1 ns.length c1, .slice a2 ds.length c2] 24)).alloc (.cells #[.bool false, .slice none 0 0, .slice none 0 0] 24)) := (below_alloc w _).alloc (by simp) _
  have s0 : w.heap.size + 1 < ((w.alloc (.cells #[.bool b0, .slice a1 ns.length c1, .slice a2 ds.length c2] 24)).alloc (.cells #[.bool false, .slice none 0 0, .slice none 0 0] 24)).heap.size := by simp
  have g1 := h1.below (b0'.mono hB)
  have g2 := h2.below (b0'.mono hB)
  clear h1 h2
  go_enter Tryd.func23, Tryd.ntmps23
  go_wp2
  generalize hA : ((w.alloc (.cells #[.bool b0, .slice a1 ns.length c1, .slice a2 ds.length c2] 24)).alloc (.cells #[.bool false, .slice none 0 0, .slice none 0 0] 24)) = wP at *
  clear hA
  have hcells : ∀ {w' : World}, Below wP.heap.size wP w' → w'.cell? ⟨w.heap.size, 0, none⟩ = some (.bool b0) ∧ w'.cell? ⟨w.heap.size, 1, none⟩ = some (.slice a1 ns.length c1) ∧ w'.cell? ⟨w.heap.size, 2, none⟩ = some (.slice a2 ds.length c2) := fun hb => ⟨(hbX.below hb (by omega)).c0, (hbX.below hb (by omega)).c1, (hbX.below hb (by omega)).c2⟩
  obtain ⟨k0, k1, k2⟩ := hcells (Below.refl _ _)
  have d1 : Rd B wP.drew (.slice a1 ns.length c1) ns := g1
  go_region_held3 (fun w' => w'.cell? ⟨w.heap.size, 0, none⟩ = some (.bool b0) ∧ w'.cell? ⟨w.heap.size, 1, none⟩ = some (.slice a1 ns.length c1) ∧ w'.cell? ⟨w.heap.size, 2, none⟩ = some (.slice a2 ds.length c2))
    (first | (go_keep; done) | exact tw | exact tw2 | exact tw3 | exact ⟨(hX2.other (by omega) _ _ _).c0, (hX2.other (by omega) _ _ _).c1, (hX2.other (by omega) _ _ _).c2⟩)
    (first
      | (go_at_call_of 45 (Value.slice a1 ns.length c1); refine (trim_rd d1 (by omega)).mono ?_; intro e wa hm; rw [t1.out] at hm; obtain ⟨x1, y1, rfl, o1, ba⟩ := Makes.undrew hm; have sa := ba.size; have tw := hcells ba; have e2 := g2.below (ba.mono (by omega)))
      | (go_at_call_of 45 (Value.slice a2 ds.length c2); refine (trim_rd e2 (by omega)).mono ?_; intro e wb hm; rw [t2.out] at hm; obtain ⟨x2, y2, rfl, o2, bb⟩ := hm; have bPb := ba.trans (bb.mono sa); have tw2 := hcells bPb)
      | (go_at_call 34; refine (limited_ok b x1 x2 ns.length y1 ds.length y2 wb q1' q2').mono ?_; rintro e wc ⟨rfl, bc⟩; have bPc : Below wP.heap.size wP wc := bPb.trans (bc.mono bPb.size); have tw3 := hcells bPc; have hX2 := hbX.below bPc (by omega); have hR2 := hbR.below bPc s0; have q0 := hR2.c0; have q1 := hR2.c1; have q2 := hR2.c2; have p0 := hR2.f0; have p1 := hR2.f1; have p2 := hR2.f2))
  all_goals
    have o1c : Own wP.heap.size wc (.slice x1 ns.length y1) ns := ((o1.below bb (Nat.le_refl _)).below bc (Nat.le_refl _))
    have o2c : Own wP.heap.size wc (.slice x2 ds.length y2) ds := (o2.below bc (Nat.le_refl _)).mono sa
    go_wp2
    have hR3 := hR2.set (.bool (b && decide (0 < ns.length))) (.slice x1 ns.length y1) (.slice x2 ds.length y2)
    have r0 := hR3.c0
    have r1 := hR3.c1
    have r2 := hR3.c2
    refine bodyPost_ret (v := .tuple #[.agg #[.bool (b && decide (0 < ns.length)), .slice x1 ns.length y1, .slice x2 ds.length y2], .int .i64 0]) (by simp [results, Tryd.results23, go_sem, r0, r1, r2]) rfl ?_
    exact ⟨Below.set3 (b0'.trans (bPc.mono (by omega))) (by omega) _ _ _, x1, y1, x2, y2, rfl, (Own.set3 o1c s0 _ _ _).mono (by omega), (Own.set3 o2c s0 _ _ _).mono (by omega)⟩
end Go.Proofs.YtibciilhfpgjjadDoor
