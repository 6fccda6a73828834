/- pairing.numbers at +: what is reckoned. -/
import Derived.Test.YtmijanocljmaeaaGreatKS1
namespace Go.Proofs.YtmijanocljmaeaaGreat
set_option linter.unusedVariables false
set_option linter.unusedSimpArgs false
open Go.RowKit

section
variable {w : World} {bx cy : Bool} {a1 a2 a3 a4 : Option Addr} {xn xd yn yd : List Int} {c1 c2 c3 c4 : Nat} {p : Nat} {F : Value} {cc kk : Int}
set_option maxRecDepth 100000 in
set_option maxHeartbeats 8000000 in
theorem numbers_work (hp : p < w.heap.size) (q1 : w.cell? ⟨p, 1, none⟩ = some (.func (.func 77) #[] #[])) (q2 : w.cell? ⟨p, 2, none⟩ = some (.int .i64 cc)) (q3 : w.cell? ⟨p, 3, none⟩ = some (.int .i64 kk)) (hk : ¬ kk < cc) (h1 : Rd w.heap.size w (.slice a1 xn.length c1) xn) (h2 : Rd w.heap.size w (.slice a2 xd.length c2) xd) (h3 : Rd w.heap.size w (.slice a3 yn.length c3) yn) (h4 : Rd w.heap.size w (.slice a4 yd.length c4) yd) :
    Calls Tryz.prog 141 #[.pointer (some ⟨p, 0, none⟩), .agg #[.bool bx, .slice a1 xn.length c1, .slice a2 xd.length c2], .agg #[.bool cy, .slice a3 yn.length c3, .slice a4 yd.length c4]] w fun e w' => Gives w (RightP bx xn xd ∧ RightP cy yn yd) (sg bx (val xn) * val yd + sg cy (val yn) * val xd) (val xd * val yd) e w' := by
 have k1 := below_alloc w (.cells #[.bool bx, .slice a1 xn.length c1, .slice a2 xd.length c2] 33)
 have k2 := below_alloc (w.alloc (.cells #[.bool bx, .slice a1 xn.length c1, .slice a2 xd.length c2] 33)) (.cells #[.bool cy, .slice a3 yn.length c3, .slice a4 yd.length c4] 33)
 have k3 := below_alloc ((w.alloc (.cells #[.bool bx, .slice a1 xn.length c1, .slice a2 xd.length c2] 33)).alloc (.cells #[.bool cy, .slice a3 yn.length c3, .slice a4 yd.length c4] 33)) (.cells #[.bool false, .slice none 0 0, .slice none 0 0] 33)
 have k23 : Below (w.alloc (.cells #[.bool bx, .slice a1 xn.length c1, .slice a2 xd.length c2] 33)).heap.size (w.alloc (.cells #[.bool bx, .slice a1 xn.length c1, .slice a2 xd.length c2] 33)) (((w.alloc (.cells #[.bool bx, .slice a1 xn.length c1, .slice a2 xd.length c2] 33)).alloc (.cells #[.bool cy, .slice a3 yn.length c3, .slice a4 yd.length c4] 33)).alloc (.cells #[.bool false, .slice none 0 0, .slice none 0 0] 33)) := k2.trans (k3.mono (by simp))
 have X := (boxA_new w #[.bool bx, .slice a1 xn.length c1, .slice a2 xd.length c2] 33).below k23 (by simp)
 have Y := (boxA_new (w.alloc (.cells #[.bool bx, .slice a1 xn.length c1, .slice a2 xd.length c2] 33)) #[.bool cy, .slice a3 yn.length c3, .slice a4 yd.length c4] 33).below k3 (by simp)
 have R := boxA_new ((w.alloc (.cells #[.bool bx, .slice a1 xn.length c1, .slice a2 xd.length c2] 33)).alloc (.cells #[.bool cy, .slice a3 yn.length c3, .slice a4 yd.length c4] 33)) #[.bool false, .slice none 0 0, .slice none 0 0] 33
 rw [World.size_alloc] at Y
 have sz : ((w.alloc (.cells #[.bool bx, .slice a1 xn.length c1, .slice a2 xd.length c2] 33)).alloc (.cells #[.bool cy, .slice a3 yn.length c3, .slice a4 yd.length c4] 33)).heap.size = w.heap.size + 1 + 1 := by simp
 rw [sz] at R
 have g : Below w.heap.size w (((w.alloc (.cells #[.bool bx, .slice a1 xn.length c1, .slice a2 xd.length c2] 33)).alloc (.cells #[.bool cy, .slice a3 yn.length c3, .slice a4 yd.length c4] 33)).alloc (.cells #[.bool false, .slice none 0 0, .slice none 0 0] 33)) := (k1.trans (k2.mono (by simp))).trans (k3.mono (by simp; omega))
 have s3 : (((w.alloc (.cells #[.bool bx, .slice a1 xn.length c1, .slice a2 xd.length c2] 33)).alloc (.cells #[.bool cy, .slice a3 yn.length c3, .slice a4 yd.length c4] 33)).alloc (.cells #[.bool false, .slice none 0 0, .slice none 0 0] 33)).heap.size = w.heap.size + 1 + 1 + 1 := by simp
 have hcells : ∀ {w' : World}, Below (((w.alloc (.cells #[.bool bx, .slice a1 xn.length c1, .slice a2 xd.length c2] 33)).alloc (.cells #[.bool cy, .slice a3 yn.length c3, .slice a4 yd.length c4] 33)).alloc (.cells #[.bool false, .slice none 0 0, .slice none 0 0] 33)).heap.size (((w.alloc (.cells #[.bool bx, .slice a1 xn.length c1, .slice a2 xd.length c2] 33)).alloc (.cells #[.bool cy, .slice a3 yn.length c3, .slice a4 yd.length c4] 33)).alloc (.cells #[.bool false, .slice none 0 0, .slice none 0 0] 33)) w' → w'.cell? ⟨p, 1, none⟩ = some (.func (.func 77) #[] #[]) ∧ w'.cell? ⟨p, 2, none⟩ = some (.int .i64 cc) ∧ w'.cell? ⟨p, 3, none⟩ = some (.int .i64 kk) ∧ w'.cell? ⟨w.heap.size, 0, none⟩ = some (.bool bx) ∧ w'.cell? ⟨w.heap.size, 1, none⟩ = some (.slice a1 xn.length c1) ∧ w'.cell? ⟨w.heap.size, 2, none⟩ = some (.slice a2 xd.length c2) ∧ w'.cell? ⟨w.heap.size + 1, 0, none⟩ = some (.bool cy) ∧ w'.cell? ⟨w.heap.size + 1, 1, none⟩ = some (.slice a3 yn.length c3) ∧ w'.cell? ⟨w.heap.size + 1, 2, none⟩ = some (.slice a4 yd.length c4) := fun k => ⟨((g.trans (k.mono (by omega))).cell (p := ⟨p, 1, none⟩) hp).trans q1, ((g.trans (k.mono (by omega))).cell (p := ⟨p, 2, none⟩) hp).trans q2, ((g.trans (k.mono (by omega))).cell (p := ⟨p, 3, none⟩) hp).trans q3, (X.below k (by omega)).cell 0 rfl, (X.below k (by omega)).cell 1 rfl, (X.below k (by omega)).cell 2 rfl, (Y.below k (by omega)).cell 0 rfl, (Y.below k (by omega)).cell 1 rfl, (Y.below k (by omega)).cell 2 rfl⟩
 have HC : Hid (∀ {w' : World}, Below (((w.alloc (.cells #[.bool bx, .slice a1 xn.length c1, .slice a2 xd.length c2] 33)).alloc (.cells #[.bool cy, .slice a3 yn.length c3, .slice a4 yd.length c4] 33)).alloc (.cells #[.bool false, .slice none 0 0, .slice none 0 0] 33)).heap.size (((w.alloc (.cells #[.bool bx, .slice a1 xn.length c1, .slice a2 xd.length c2] 33)).alloc (.cells #[.bool cy, .slice a3 yn.length c3, .slice a4 yd.length c4] 33)).alloc (.cells #[.bool false, .slice none 0 0, .slice none 0 0] 33)) w' → w'.cell? ⟨p, 1, none⟩ = some (.func (.func 77) #[] #[]) ∧ w'.cell? ⟨p, 2, none⟩ = some (.int .i64 cc) ∧ w'.cell? ⟨p, 3, none⟩ = some (.int .i64 kk) ∧ w'.cell? ⟨w.heap.size, 0, none⟩ = some (.bool bx) ∧ w'.cell? ⟨w.heap.size, 1, none⟩ = some (.slice a1 xn.length c1) ∧ w'.cell? ⟨w.heap.size, 2, none⟩ = some (.slice a2 xd.length c2) ∧ w'.cell? ⟨w.heap.size + 1, 0, none⟩ = some (.bool cy) ∧ w'.cell? ⟨w.heap.size + 1, 1, none⟩ = some (.slice a3 yn.length c3) ∧ w'.cell? ⟨w.heap.size + 1, 2, none⟩ = some (.slice a4 yd.length c4)) := hcells
 clear hcells k1 k2 k3 k23 q1 q2 q3
 go_enter Tryz.func141, Tryz.ntmps141
 go_upto_region 1 with fail
 generalize hA : ((w.alloc (.cells #[.bool bx, .slice a1 xn.length c1, .slice a2 xd.length c2] 33)).alloc (.cells #[.bool cy, .slice a3 yn.length c3, .slice a4 yd.length c4] 33)).alloc (.cells #[.bool false, .slice none 0 0, .slice none 0 0] 33) = v at *
 clear hA
 have d0 : Below v.heap.size v v.drew := ⟨rfl, rfl, rfl, Nat.le_refl _, fun _ _ => rfl⟩
 have j0 := HC.out d0
 have hgt : (kk < cc) = False := by simp [hk]
 have H1 : Hid (Rd w.heap.size w (.slice a1 xn.length c1) xn) := h1
 have H2 : Hid (Rd w.heap.size w (.slice a2 xd.length c2) xd) := h2
 have H3 : Hid (Rd w.heap.size w (.slice a3 yn.length c3) yn) := h3
 have H4 : Hid (Rd w.heap.size w (.slice a4 yd.length c4) yd) := h4
 clear h1 h2 h3 h4
 obtain ⟨i0, i1, i2, i3, i4, i5, i6, i7, i8⟩ := j0
 obtain ⟨v0, v1, v2, v3, v4, v5, v6, v7, v8⟩ := HC.out (Below.refl _ v)
 first | go_region_with (fail) | fail
 all_goals
  clear i0 i1 i2 i3 i4 i5 i6 i7 i8 v0 v1 v2 v3 v4 v5 v6 v7 v8
  go_upto_region 3 with fail
  generalize hB : v.drew = w1 at *
  clear hB
  have d1 : Below v.heap.size v w1.drew := d0.trans ⟨rfl, rfl, rfl, Nat.le_refl _, fun _ _ => rfl⟩
  obtain ⟨e0, e1, e2, e3, e4, e5, e6, e7, e8⟩ := HC.out d1
  obtain ⟨e0', e1', e2', e3', e4', e5', e6', e7', e8'⟩ := HC.out d0
  have HRW : Hid (∀ {w' : World}, Below v.heap.size v w' → BoxA w' (w.heap.size + 1 + 1) 33 #[.bool false, .slice none 0 0, .slice none 0 0]) := fun k => R.below k (by omega)
  have s1 : v.heap.size ≤ w1.heap.size := d0.size
  have s1' := d1.size
  have K2 : Hid (Calls Tryz.prog 77 #[.agg #[.bool bx, .slice a1 xn.length c1, .slice a2 xd.length c2], .agg #[.bool cy, .slice a3 yn.length c3, .slice a4 yd.length c4]] w1.drew fun e w' => Gives w1.drew (RightP bx xn xd ∧ RightP cy yn yd) (sg bx (val xn) * val yd + sg cy (val yn) * val xd) (val xd * val yd) e w') := plus_two ((H1.out.below (g.trans (d1.mono g.size))).mono (by omega)) ((H2.out.below (g.trans (d1.mono g.size))).mono (by omega)) ((H3.out.below (g.trans (d1.mono g.size))).mono (by omega)) ((H4.out.below (g.trans (d1.mono g.size))).mono (by omega))
  first | go_region_with (go_at_call 77; refine K2.out.mono ?_; rintro e w2 ⟨q2, b, z1, m1, u1, z2, m2, u2, err, rfl, ho⟩; have kk2 : Below v.heap.size v w2 := d1.trans (q2.mono d1.size); have R2 := HRW.out kk2; have r0 := R2.cell 0 rfl; have r1 := R2.cell 1 rfl; have r2 := R2.cell 2 rfl; have f0 := R2.frozen 0; have f1 := R2.frozen 1; have f2 := R2.frozen 2) | fail
  all_goals
   have R3 := ((R2.put 0 (.bool b)).put 1 (.slice z1 m1 u1)).put 2 (.slice z2 m2 u2)
   have q0 := R3.cell 0 rfl
   have q1' := R3.cell 1 rfl
   have q2' := R3.cell 2 rfl
   go_wp2
   refine bodyPost_ret (v := .tuple #[.agg #[.bool b, .slice z1 m1 u1, .slice z2 m2 u2], .int .i64 err]) (by simp [results, Tryz.results141, go_sem, q0, q1', q2']) rfl ?_
   refine ⟨Below.set3 (g.trans (kk2.mono g.size)) (by omega) _ _ _, b, z1, m1, u1, z2, m2, u2, err, rfl, ?_⟩
   exact ho.out.turn (fun V xs hO => ((((hO.setCell (a := ⟨w.heap.size + 1 + 1, 0, none⟩) (fun e => by have := (hO.2.lt _ e).1; simp at this; omega) _).setCell (a := ⟨w.heap.size + 1 + 1, 1, none⟩) (fun e => by have := (hO.2.lt _ e).1; simp at this; omega) _).setCell (a := ⟨w.heap.size + 1 + 1, 2, none⟩) (fun e => by have := (hO.2.lt _ e).1; simp at this; omega) _).mono (by omega)))
end
end Go.Proofs.YtmijanocljmaeaaGreat
