/- array.Enclose of a right array. -/
import Derived.Test.YtnkaimkdlpieaaaK12
import Derived.Test.YtnkaimkdlpieaaaK11
import Derived.Test.YtnkaimkdlpieaaaK8
import Derived.Test.YtnkaimkdlpieaaaKA
namespace Go.Proofs.Ytnkaimkdlpieaaa
set_option linter.unusedVariables false
set_option linter.unusedSimpArgs false
open Go.RowKit

section
variable {D : Nat → Prop} {f : Nat} {W : World} {x1 : Option Addr} {n1 y1 : Nat} {x2 : Option Addr} {n2 y2 : Nat} {t : Tr}
set_option maxRecDepth 100000 in
set_option maxHeartbeats 6400000 in
theorem enclose_box (hD : ∀ g, D g → g < W.heap.size) (h : ArV (f + 1) D W (.slice x1 n1 y1) (.slice x2 n2 y2) t) (hR : (measF 16 t).isSome = true) (hs : simpB t = false) :
    Calls Try.prog 23 #[.agg #[.slice x1 n1 y1, .slice x2 n2 y2]] W fun e w' => ∃ y : IV, e = .returned (.agg #[.int .u8 y.k, .bool y.b, .slice y.a1 y.n1 y.c1, .slice y.a2 y.n2 y.c2, .int .i32 y.c, .slice y.a3 y.n3 y.c3]) ∧ IsIt (f + 1) (Fr W.heap.size w'.heap.size) w' y (boxT t) ∧ Below W.heap.size W w' := by
  obtain rfl := h.1.len
  obtain rfl := h.2.len
  have k0 := below_alloc W (.cells #[.slice x1 t.ns.length y1, .slice x2 t.kids.length y2] 25)
  have X0 := boxA_new W #[.slice x1 t.ns.length y1, .slice x2 t.kids.length y2] 25
  have k1 := below_alloc (W.alloc (.cells #[.slice x1 t.ns.length y1, .slice x2 t.kids.length y2] 25)) (.cells #[.int .u8 0, .bool false, .slice none 0 0, .slice none 0 0, .int .i32 0, .slice none 0 0] 45)
  have R := boxA_new (W.alloc (.cells #[.slice x1 t.ns.length y1, .slice x2 t.kids.length y2] 25)) #[.int .u8 0, .bool false, .slice none 0 0, .slice none 0 0, .int .i32 0, .slice none 0 0] 45
  rw [World.size_alloc] at R
  have X := X0.below k1 (by simp)
  have g : Below W.heap.size W _ := k0.trans (k1.mono (by simp))
  have sv : ((W.alloc (.cells #[.slice x1 t.ns.length y1, .slice x2 t.kids.length y2] 25)).alloc (.cells #[.int .u8 0, .bool false, .slice none 0 0, .slice none 0 0, .int .i32 0, .slice none 0 0] 45)).heap.size = W.heap.size + 1 + 1 := by simp
  have z0 := X.cell 0 rfl
  have z1 := X.cell 1 rfl
  have H : Hid (ArV (f + 1) D W (.slice x1 t.ns.length y1) (.slice x2 t.kids.length y2) t) := h
  have HD : Hid (∀ g, D g → g < W.heap.size) := hD
  obtain ⟨L', hL', m1, m2, m3, m4, m5⟩ := measF_some hR
  have HW : Hid (WorkC f D t.kids t.kids) := workC m5
  have hs1 : t.ns.length * 8 ≤ 140737488355328 := by omega
  have hs2 : t.kids.length * 96 ≤ 140737488355328 := by omega
  have HR : Hid ((measF 16 t).isSome = true) := hR
  have HSB : Hid (simpB t = false) := hs
  clear h hD hR hs m1 m2 m3 m4 m5 hL'
  go_enter Try.func23, Try.ntmps23
  go_wp2_with fail
  generalize hA : (W.alloc (.cells #[.slice x1 t.ns.length y1, .slice x2 t.kids.length y2] 25)).alloc (.cells #[.int .u8 0, .bool false, .slice none 0 0, .slice none 0 0, .int .i32 0, .slice none 0 0] 45) = v at *
  clear hA k0 k1 X0
  refine (right3_any (fun g' hg => by have := HD.out g' hg; omega) (H.out.agree (Agree.of g HD.out))).mono ?_
  rintro e w1 ⟨rfl, q1⟩
  rw [HR.out]
  have X1 := X.below q1 (by omega)
  have k1 : Below W.heap.size W w1 := g.trans (q1.mono (by omega))
  have s1 := q1.size
  have v0 := X1.cell 0 rfl
  have v1 := X1.cell 1 rfl
  clear z0 z1
  go_wp2_with fail
  refine (isSimpleT_any (H.out.agree (Agree.of k1 HD.out)) (fun g' hg => by have := HD.out g' hg; omega)).mono ?_
  rintro e w2 ⟨rfl, hw⟩
  have q2 := below_alloc w1 (.cells #[.slice x1 t.ns.length y1, .slice x2 t.kids.length y2] 25)
  rw [← hw] at q2
  clear hw
  rw [HSB.out]
  have s2 := q2.size
  have X2 := X1.below q2 (by omega)
  have k2 : Below W.heap.size W w2 := k1.trans (q2.mono (by omega))
  have u0 := X2.cell 0 rfl
  have u1 := X2.cell 1 rfl
  clear v0 v1
  have T := throughC_any (H.out.agree (Agree.of k2 HD.out)) (fun g' hg => by have := HD.out g' hg; omega) hs1 hs2 rfl rfl HW.out
  go_wp2_with fail
  refine T.mono ?_
  rintro e w3 ⟨z1, p1, z2, p2, rfl, hv, q3⟩
  clear T
  have HV : Hid (ArV (f + 1) (Fr w2.heap.size w3.heap.size) w3 (.slice z1 t.ns.length p1) (.slice z2 t.kids.length p2) t) := hv
  clear hv
  have s3 := q3.size
  go_wp2_with fail
  refine box_any.mono ?_
  rintro e w4 ⟨k, rfl, hk, hB, q4⟩
  have s4 := q4.size
  have kx : Below v.heap.size v w4 := ((q1.trans (q2.mono s1)).trans (q3.mono (by omega))).trans (q4.mono (by omega))
  have Rc := R.below kx (by omega)
  have q0 := Rc.cell 0 rfl
  have q1' := Rc.cell 1 rfl
  have q2' := Rc.cell 2 rfl
  have q3' := Rc.cell 3 rfl
  have q4' := Rc.cell 4 rfl
  have q5 := Rc.cell 5 rfl
  have f0 := Rc.frozen 0
  have f1 := Rc.frozen 1
  have f2 := Rc.frozen 2
  have f3 := Rc.frozen 3
  have f4 := Rc.frozen 4
  have f5 := Rc.frozen 5
  go_wp2
  have Rd6 := Rc.set6 (.int .u8 3) (.bool false) (.slice none 0 0) (.slice none 0 0) (.int .i32 0) (.slice (some ⟨k, 0, none⟩) 1 1)
  have r0 := Rd6.cell 0 rfl
  have r1 := Rd6.cell 1 rfl
  have r2 := Rd6.cell 2 rfl
  have r3 := Rd6.cell 3 rfl
  have r4 := Rd6.cell 4 rfl
  have r5 := Rd6.cell 5 rfl
  try simp only [Exit.inBlock, Exit.then]
  refine bodyPost_ret (v := .agg #[.int .u8 3, .bool false, .slice none 0 0, .slice none 0 0, .int .i32 0, .slice (some ⟨k, 0, none⟩) 1 1]) ?_ rfl ?_
  · simp [results, Try.results23, go_sem, r0, r1, r2, r3, r4, r5]
  have hne : W.heap.size + 1 ≠ k := by omega
  refine ⟨⟨3, false, none, 0, 0, none, 0, 0, 0, some ⟨k, 0, none⟩, 1, 1⟩, rfl, ?_, Below.set6 (g.trans (kx.mono (by omega))) (by omega) _ _ _ _ _ _⟩
  refine isIt_box (w := (((((w3.setCell ⟨W.heap.size + 1, 0, none⟩ (.int .u8 3)).setCell ⟨W.heap.size + 1, 1, none⟩ (.bool false)).setCell ⟨W.heap.size + 1, 2, none⟩ (.slice none 0 0)).setCell ⟨W.heap.size + 1, 3, none⟩ (.slice none 0 0)).setCell ⟨W.heap.size + 1, 4, none⟩ (.int .i32 0)).setCell ⟨W.heap.size + 1, 5, none⟩ (.slice (some ⟨k, 0, none⟩) 1 1)) (a := t) rfl rfl rfl rfl rfl rfl rfl (by omega) (boxA_o6 hB hne _ _ _ _ _ _) ?_ (below_both6 q4 _ _ _ _ _ _)
  refine ArV.imp ?_ ?_ (f + 1) (f + 1) _ _ _ (Nat.le_refl _) HV.out
  · rintro g' ⟨h1, h2⟩; exact ⟨by omega, by rw [set6_size]; exact h2⟩
  · rintro g' ⟨h1, h2⟩; exact set6_other (by omega) _ _ _ _ _ _
end
end Go.Proofs.Ytnkaimkdlpieaaa

/- array.Open of a right item; array.Enclose of a simple scalar. -/
namespace Go.Proofs.Ytnkaimkdlpieaaa
set_option linter.unusedVariables false
set_option linter.unusedSimpArgs false
open Go.RowKit

section
variable {w : World} {x : IV}
set_option maxRecDepth 100000 in
set_option maxHeartbeats 1600000 in
/-- A scalar of any item. -/
theorem scalarG_any :
    Calls Try.prog 41 #[.agg #[.int .u8 x.k, .bool x.b, .slice x.a1 x.n1 x.c1, .slice x.a2 x.n2 x.c2, .int .i32 x.c, .slice x.a3 x.n3 x.c3]] w fun e w' => ∃ k, e = .returned (.agg #[.slice none 0 0, .slice (some ⟨k, 0, none⟩) 1 1]) ∧ w.heap.size ≤ k ∧ BoxA w' k 45 #[.int .u8 x.k, .bool x.b, .slice x.a1 x.n1 x.c1, .slice x.a2 x.n2 x.c2, .int .i32 x.c, .slice x.a3 x.n3 x.c3] ∧ Below w.heap.size w w' := by
  have g1 := (Below.refl w.heap.size w).alloc (Nat.le_refl _) (.cells #[.int .u8 x.k, .bool x.b, .slice x.a1 x.n1 x.c1, .slice x.a2 x.n2 x.c2, .int .i32 x.c, .slice x.a3 x.n3 x.c3] 45)
  have g2 := g1.alloc (by simp) (.cells #[.slice none 0 0, .slice (some ⟨w.heap.size + 1 + 1, 0, none⟩) 1 1] 25)
  have g3 := g2.alloc (by simp; omega) (.cells #[.int .u8 x.k, .bool x.b, .slice x.a1 x.n1 x.c1, .slice x.a2 x.n2 x.c2, .int .i32 x.c, .slice x.a3 x.n3 x.c3] 45)
  have hk := boxA_new ((w.alloc (.cells #[.int .u8 x.k, .bool x.b, .slice x.a1 x.n1 x.c1, .slice x.a2 x.n2 x.c2, .int .i32 x.c, .slice x.a3 x.n3 x.c3] 45)).alloc (.cells #[.slice none 0 0, .slice (some ⟨w.heap.size + 1 + 1, 0, none⟩) 1 1] 25)) #[.int .u8 x.k, .bool x.b, .slice x.a1 x.n1 x.c1, .slice x.a2 x.n2 x.c2, .int .i32 x.c, .slice x.a3 x.n3 x.c3] 45
  rw [World.size_alloc, World.size_alloc] at hk
  have hb := boxA_new (w.alloc (.cells #[.int .u8 x.k, .bool x.b, .slice x.a1 x.n1 x.c1, .slice x.a2 x.n2 x.c2, .int .i32 x.c, .slice x.a3 x.n3 x.c3] 45)) #[.slice none 0 0, .slice (some ⟨w.heap.size + 1 + 1, 0, none⟩) 1 1] 25
  have hb2 := hb.below (below_alloc _ (.cells #[.int .u8 x.k, .bool x.b, .slice x.a1 x.n1 x.c1, .slice x.a2 x.n2 x.c2, .int .i32 x.c, .slice x.a3 x.n3 x.c3] 45)) (by simp)
  rw [World.size_alloc] at hb2
  go_enter Try.func41, Try.ntmps41
  go_wp2
  have r0 := hb2.cell 0 rfl
  have r1 := hb2.cell 1 rfl
  refine bodyPost_ret (v := .agg #[.slice none 0 0, .slice (some ⟨w.heap.size + 1 + 1, 0, none⟩) 1 1]) (by simp [results, Try.results41, go_sem, r0, r1]) rfl ?_
  exact ⟨_, rfl, by omega, hk, g3⟩
end
/-- A scalar whose item is t. -/
theorem scalar_arv {f B k : Nat} {w w' : World} {x : IV} {t : Tr} (h : IsIt f (Fr B w.heap.size) w x t) (kb : Below w.heap.size w w') (hk : B ≤ k) (hB : BoxA w' k 45 #[.int .u8 x.k, .bool x.b, .slice x.a1 x.n1 x.c1, .slice x.a2 x.n2 x.c2, .int .i32 x.c, .slice x.a3 x.n3 x.c3]) : ArV (f + 1) (Fr B w'.heap.size) w' (.slice none 0 0) (.slice (some ⟨k, 0, none⟩) 1 1) (arrT [] [t]) := by
  have hs := kb.size
  refine ⟨⟨(fun x h => by cases h), none, 0, rfl, Nat.le_refl _, by omega, fun _ => rfl, Or.inl rfl⟩, some ⟨k, 0, none⟩, 1, rfl, Nat.le_refl _, by omega, (fun h => by cases h), Or.inr ⟨k, 0, rfl, ⟨hk, hB.lt⟩, fun j hj => ?_⟩⟩
  have hj : j < 1 := hj
  obtain rfl : j = 0 := by omega
  exact itc_of (h.imp (fun q hq => ⟨hq.1, by have := hq.2; omega⟩) (fun q hq => kb.block q hq.2)) hB
section
variable {D : Nat → Prop} {f : Nat} {w : World} {x : IV} {t : Tr}
set_option maxRecDepth 100000 in
set_option maxHeartbeats 16000000 in
theorem open_simple (hD : ∀ g, D g → g < w.heap.size) (hx : IsIt f D w x t) (hm : (measI (measF 16) t).isSome = true) (hk : ¬ t.k = 3) :
    Calls Try.prog 26 #[.agg #[.int .u8 x.k, .bool x.b, .slice x.a1 x.n1 x.c1, .slice x.a2 x.n2 x.c2, .int .i32 x.c, .slice x.a3 x.n3 x.c3]] w fun e w' => ∃ z1 m1 u1 z2 m2 u2, e = .returned (.agg #[.slice z1 m1 u1, .slice z2 m2 u2]) ∧ ArV (f + 1) (Fr w.heap.size w'.heap.size) w' (.slice z1 m1 u1) (.slice z2 m2 u2) (arrT [] [t]) ∧ Below w.heap.size w w' := by
  have X0 := boxA_new w #[.int .u8 x.k, .bool x.b, .slice x.a1 x.n1 x.c1, .slice x.a2 x.n2 x.c2, .int .i32 x.c, .slice x.a3 x.n3 x.c3] 45
  have k0 := below_alloc w (.cells #[.int .u8 x.k, .bool x.b, .slice x.a1 x.n1 x.c1, .slice x.a2 x.n2 x.c2, .int .i32 x.c, .slice x.a3 x.n3 x.c3] 45)
  have k1 := below_alloc (w.alloc (.cells #[.int .u8 x.k, .bool x.b, .slice x.a1 x.n1 x.c1, .slice x.a2 x.n2 x.c2, .int .i32 x.c, .slice x.a3 x.n3 x.c3] 45)) (.cells #[.slice none 0 0, .slice none 0 0] 25)
  have R := boxA_new (w.alloc (.cells #[.int .u8 x.k, .bool x.b, .slice x.a1 x.n1 x.c1, .slice x.a2 x.n2 x.c2, .int .i32 x.c, .slice x.a3 x.n3 x.c3] 45)) #[.slice none 0 0, .slice none 0 0] 25
  rw [World.size_alloc] at R
  have X := X0.below k1 (by simp)
  have g : Below w.heap.size w _ := k0.trans (k1.mono (by simp))
  have sv : ((w.alloc (.cells #[.int .u8 x.k, .bool x.b, .slice x.a1 x.n1 x.c1, .slice x.a2 x.n2 x.c2, .int .i32 x.c, .slice x.a3 x.n3 x.c3] 45)).alloc (.cells #[.slice none 0 0, .slice none 0 0] 25)).heap.size = w.heap.size + 1 + 1 := by simp
  have m0 := X.cell 0 rfl
  have m1 := X.cell 1 rfl
  have m2 := X.cell 2 rfl
  have m3 := X.cell 3 rfl
  have m4 := X.cell 4 rfl
  have m5 := X.cell 5 rfl
  have hx2 := hx.agree (Agree.of g hD)
  have C0 := measuredItem_all (L := 16) (meas_all 16 (by omega)) hx2.v (fun g' hg => by have := hD g' hg; omega)
  rw [← hx.k, ← hx.b, ← hx.n1, ← hx.n2, ← hx.c, ← hx.n3, show ((16 : Nat) : Int) = 16 from rfl] at C0
  obtain ⟨p, hp⟩ := Option.isSome_iff_exists.1 hm
  unfold mEnd at C0
  rw [hp] at C0
  simp only [Option.getD_some, Option.isSome_some] at C0
  obtain ⟨p1, p2⟩ := p
  simp only [] at C0
  have hk2 : (x.k == 3) = false := by rw [beq_eq_false_iff_ne, hx.k]; exact hk
  have HX : Hid (IsIt f D w x t) := hx
  have HD : Hid (∀ g, D g → g < w.heap.size) := hD
  have HM : Hid ((measI (measF 16) t).isSome = true) := hm
  clear hx hx2 hm hp hD hk
  go_enter Try.func26, Try.ntmps26
  go_wp2_with fail
  generalize hA : (w.alloc (.cells #[.int .u8 x.k, .bool x.b, .slice x.a1 x.n1 x.c1, .slice x.a2 x.n2 x.c2, .int .i32 x.c, .slice x.a3 x.n3 x.c3] 45)).alloc (.cells #[.slice none 0 0, .slice none 0 0] 25) = v at *
  clear hA k0 k1 X0
  refine C0.mono ?_
  rintro e w1 ⟨rfl, q1⟩
  clear C0 m0 m1 m2 m3 m4 m5
  have s1 := q1.size
  have kM := below_alloc w1 (.cells #[.int .i64 p1, .int .i64 p2] 54)
  have q2 : Below v.heap.size v (w1.alloc (.cells #[.int .i64 p1, .int .i64 p2] 54)) := q1.trans (kM.mono s1)
  have X2 := X.below q2 (by omega)
  have m0 := X2.cell 0 rfl
  have m1 := X2.cell 1 rfl
  have m2 := X2.cell 2 rfl
  have m3 := X2.cell 3 rfl
  have m4 := X2.cell 4 rfl
  have m5 := X2.cell 5 rfl
  have kw2 : Below w.heap.size w (w1.alloc (.cells #[.int .i64 p1, .int .i64 p2] 54)) := g.trans (q2.mono (by omega))
  have C1 := copyOf_all f 16 D (w1.alloc (.cells #[.int .i64 p1, .int .i64 p2] 54)) x t (fun g' hg => by have := HD.out g' hg; have := kw2.size; omega) (HX.out.agree (Agree.of kw2 HD.out)) HM.out
  go_wp2_with fail
  generalize hA : w1.alloc (.cells #[.int .i64 p1, .int .i64 p2] 54) = w2 at *
  clear hA m0 m1 m2 m3 m4 m5 kM
  refine C1.mono ?_
  rintro e w3 ⟨y, rfl, hy, q3⟩
  have HY : Hid (IsIt f (Fr w2.heap.size w3.heap.size) w3 y t) := hy
  clear hy C1
  have s2 := q2.size
  have s3 := q3.size
  go_wp2_with fail
  refine scalarG_any.mono ?_
  rintro e w4 ⟨k, rfl, hk, hB, q4⟩
  have s4 := q4.size
  have kx : Below v.heap.size v w4 := (q2.trans (q3.mono s2)).trans (q4.mono (by omega))
  have Rc := R.below kx (by omega)
  have r0 := Rc.cell 0 rfl
  have r1 := Rc.cell 1 rfl
  have f0 := Rc.frozen 0
  have f1 := Rc.frozen 1
  go_wp2
  have R4 := Rc.set2 (.slice none 0 0) (.slice (some ⟨k, 0, none⟩) 1 1)
  have e0 := R4.cell 0 rfl
  have e1 := R4.cell 1 rfl
  refine bodyPost_ret (v := .agg #[.slice none 0 0, .slice (some ⟨k, 0, none⟩) 1 1]) (by simp [results, Try.results26, go_sem, e0, e1]) rfl ?_
  refine ⟨none, 0, 0, some ⟨k, 0, none⟩, 1, 1, rfl, ?_, Below.set2 (g.trans (kx.mono (by omega))) (by omega) _ _⟩
  have A := scalar_arv (B := w2.heap.size) HY.out q4 (by omega) hB
  refine ArV.imp ?_ ?_ (f + 1) (f + 1) _ _ _ (Nat.le_refl _) A
  · rintro q ⟨h1, h2⟩; exact ⟨by omega, by rw [set1_size, set1_size]; omega⟩
  · rintro q ⟨h1, h2⟩; rw [set1_other (by show ¬ w.heap.size + 1 = q; omega), set1_other (by show ¬ w.heap.size + 1 = q; omega)]
set_option maxRecDepth 100000 in
set_option maxHeartbeats 16000000 in
theorem open_box {a : Tr} (hD : ∀ g, D g → g < w.heap.size) (hx : IsIt (f + 1) D w x (boxT a)) (hm : (measF 16 a).isSome = true) (hs : simpB a = false) :
    Calls Try.prog 26 #[.agg #[.int .u8 x.k, .bool x.b, .slice x.a1 x.n1 x.c1, .slice x.a2 x.n2 x.c2, .int .i32 x.c, .slice x.a3 x.n3 x.c3]] w fun e w' => ∃ z1 m1 u1 z2 m2 u2, e = .returned (.agg #[.slice z1 m1 u1, .slice z2 m2 u2]) ∧ ArV (f + 1) (Fr w.heap.size w'.heap.size) w' (.slice z1 m1 u1) (.slice z2 m2 u2) a ∧ Below w.heap.size w w' := by
  obtain ⟨e1, e2, e3, e4, e5, e6, hv0⟩ := hx
  obtain ⟨xk, xb, xa1, xn1, xc1, xa2, xn2, xc2, xc, xa3, xn3, xc3⟩ := x
  simp only [] at e1 e2 e3 e4 e5 e6 hv0
  obtain rfl : xk = 3 := e1
  obtain rfl : xb = false := e2
  obtain rfl : xn1 = 0 := e3
  obtain rfl : xn2 = 0 := e4
  obtain rfl : xc = 0 := e5
  obtain rfl : xn3 = 1 := e6
  obtain ⟨g1, o1, ea, hg1, hc1⟩ := hv0.bx.ptr (by show 0 < 1; omega)
  subst ea
  obtain ⟨r1, s1', t1, r2, s2', t2, c1, c2, hv⟩ := hc1 0 (by show 0 < 1; omega)
  rw [Nat.zero_mul, Nat.add_zero] at c1 c2
  have hv : ArV (f + 1) D w (.slice r1 s1' t1) (.slice r2 s2' t2) a := hv
  obtain rfl := hv.1.len
  obtain rfl := hv.2.len
  have X0 := boxA_new w #[.int .u8 3, .bool false, .slice xa1 0 xc1, .slice xa2 0 xc2, .int .i32 0, .slice (some ⟨g1, o1, none⟩) 1 xc3] 45
  have k0 := below_alloc w (.cells #[.int .u8 3, .bool false, .slice xa1 0 xc1, .slice xa2 0 xc2, .int .i32 0, .slice (some ⟨g1, o1, none⟩) 1 xc3] 45)
  have k1 := below_alloc (w.alloc (.cells #[.int .u8 3, .bool false, .slice xa1 0 xc1, .slice xa2 0 xc2, .int .i32 0, .slice (some ⟨g1, o1, none⟩) 1 xc3] 45)) (.cells #[.slice none 0 0, .slice none 0 0] 25)
  have R := boxA_new (w.alloc (.cells #[.int .u8 3, .bool false, .slice xa1 0 xc1, .slice xa2 0 xc2, .int .i32 0, .slice (some ⟨g1, o1, none⟩) 1 xc3] 45)) #[.slice none 0 0, .slice none 0 0] 25
  rw [World.size_alloc] at R
  have X := X0.below k1 (by simp)
  have g : Below w.heap.size w _ := k0.trans (k1.mono (by simp))
  have sv : ((w.alloc (.cells #[.int .u8 3, .bool false, .slice xa1 0 xc1, .slice xa2 0 xc2, .int .i32 0, .slice (some ⟨g1, o1, none⟩) 1 xc3] 45)).alloc (.cells #[.slice none 0 0, .slice none 0 0] 25)).heap.size = w.heap.size + 1 + 1 := by simp
  have m0 := X.cell 0 rfl
  have m1 := X.cell 1 rfl
  have m2 := X.cell 2 rfl
  have m3 := X.cell 3 rfl
  have m4 := X.cell 4 rfl
  have m5 := X.cell 5 rfl
  obtain ⟨p, hp⟩ := Option.isSome_iff_exists.1 hm
  obtain ⟨p1, p2⟩ := p
  have eb : measI (measF 16) (boxT a) = some (p1, p2) := (measI_box (t := boxT a) rfl ⟨rfl, rfl, rfl, hs⟩).trans hp
  have C0 : Calls Try.prog 47 #[.agg #[.int .u8 3, .bool false, .slice xa1 0 xc1, .slice xa2 0 xc2, .int .i32 0, .slice (some ⟨g1, o1, none⟩) 1 xc3], .int .i64 16] ((w.alloc (.cells #[.int .u8 3, .bool false, .slice xa1 0 xc1, .slice xa2 0 xc2, .int .i32 0, .slice (some ⟨g1, o1, none⟩) 1 xc3] 45)).alloc (.cells #[.slice none 0 0, .slice none 0 0] 25)) fun e w' => e = .returned (.tuple #[.agg #[.int .i64 p1, .int .i64 p2], .bool true]) ∧ Below ((w.alloc (.cells #[.int .u8 3, .bool false, .slice xa1 0 xc1, .slice xa2 0 xc2, .int .i32 0, .slice (some ⟨g1, o1, none⟩) 1 xc3] 45)).alloc (.cells #[.slice none 0 0, .slice none 0 0] 25)).heap.size ((w.alloc (.cells #[.int .u8 3, .bool false, .slice xa1 0 xc1, .slice xa2 0 xc2, .int .i32 0, .slice (some ⟨g1, o1, none⟩) 1 xc3] 45)).alloc (.cells #[.slice none 0 0, .slice none 0 0] 25)) w' := by
    have := measuredItem_all (L := 16) (meas_all 16 (by omega)) (hv0.agree (Agree.of g hD)) (fun g' hg => by have := hD g' hg; omega)
    rw [eb] at this
    exact this
  have lg := hD g1 hg1
  obtain ⟨L', hL', b1, b2, b3, b4, b5⟩ := measF_some hm
  have HW : Hid (WorkC f D a.kids a.kids) := workC b5
  have hs1 : a.ns.length * 8 ≤ 140737488355328 := by omega
  have hs2 : a.kids.length * 96 ≤ 140737488355328 := by omega
  have HV : Hid (ArV (f + 1) D w (.slice r1 a.ns.length t1) (.slice r2 a.kids.length t2) a) := hv
  have HD : Hid (∀ g, D g → g < w.heap.size) := hD
  clear hv0 hm hp hD hs b1 b2 b3 b4 b5 hL' hv hc1 eb
  go_enter Try.func26, Try.ntmps26
  go_wp2_with fail
  generalize hA : (w.alloc (.cells #[.int .u8 3, .bool false, .slice xa1 0 xc1, .slice xa2 0 xc2, .int .i32 0, .slice (some ⟨g1, o1, none⟩) 1 xc3] 45)).alloc (.cells #[.slice none 0 0, .slice none 0 0] 25) = v at *
  clear hA k0 k1 X0
  refine C0.mono ?_
  rintro e w1 ⟨rfl, q1⟩
  clear C0 m0 m1 m2 m3 m4 m5
  have s1 := q1.size
  have kM := below_alloc w1 (.cells #[.int .i64 p1, .int .i64 p2] 54)
  have q2 : Below v.heap.size v (w1.alloc (.cells #[.int .i64 p1, .int .i64 p2] 54)) := q1.trans (kM.mono s1)
  have X2 := X.below q2 (by omega)
  have m0 := X2.cell 0 rfl
  have m5 := X2.cell 5 rfl
  have kw2 : Below w.heap.size w (w1.alloc (.cells #[.int .i64 p1, .int .i64 p2] 54)) := g.trans (q2.mono (by omega))
  have d1 := (kw2.cell (p := ⟨g1, o1, none⟩) lg).trans c1
  have d2 := (kw2.cell (p := ⟨g1, o1 + 1, none⟩) lg).trans c2
  have T := throughC_any (HV.out.agree (Agree.of kw2 HD.out)) (fun g' hg => by have := HD.out g' hg; have := kw2.size; omega) hs1 hs2 rfl rfl HW.out
  go_wp2_with fail
  generalize hA : w1.alloc (.cells #[.int .i64 p1, .int .i64 p2] 54) = w2 at *
  clear hA m0 m5 kM d1 d2
  refine T.mono ?_
  rintro e w3 ⟨z1, u1, z2, u2, rfl, hv, q3⟩
  have HV3 : Hid (ArV (f + 1) (Fr w2.heap.size w3.heap.size) w3 (.slice z1 a.ns.length u1) (.slice z2 a.kids.length u2) a) := hv
  clear hv T
  have s2 := q2.size
  have s3 := q3.size
  have kx : Below v.heap.size v w3 := q2.trans (q3.mono s2)
  have Rc := R.below kx (by omega)
  have r0 := Rc.cell 0 rfl
  have r1' := Rc.cell 1 rfl
  have f0 := Rc.frozen 0
  have f1 := Rc.frozen 1
  go_wp2
  have R4 := Rc.set2 (.slice z1 a.ns.length u1) (.slice z2 a.kids.length u2)
  have e0 := R4.cell 0 rfl
  have e1 := R4.cell 1 rfl
  refine bodyPost_ret (v := .agg #[.slice z1 a.ns.length u1, .slice z2 a.kids.length u2]) (by simp [results, Try.results26, go_sem, e0, e1]) rfl ?_
  refine ⟨z1, _, u1, z2, _, u2, rfl, ?_, Below.set2 (g.trans (kx.mono (by omega))) (by omega) _ _⟩
  refine ArV.imp ?_ ?_ (f + 1) (f + 1) _ _ _ (Nat.le_refl _) HV3.out
  · rintro q ⟨h1, h2⟩; exact ⟨by omega, by rw [set1_size, set1_size]; omega⟩
  · rintro q ⟨h1, h2⟩; rw [set1_other (by show ¬ w.heap.size + 1 = q; omega), set1_other (by show ¬ w.heap.size + 1 = q; omega)]
end
end Go.Proofs.Ytnkaimkdlpieaaa

/- array.each: of each item that comes its type. -/
namespace Go.Proofs.Ytnkaimkdlpieaaa
set_option linter.unusedVariables false
set_option linter.unusedSimpArgs false
open Go.RowKit Go.Shelf

attribute [local go_sem] Oper.semAt_some

def eachT_ops : Array Oper := #[
  { dst := some 9, op := Op.load 23 (Operand.tmp 5), type := 23, pos := "array.go:135", after := #[], guard := none },
  { dst := some 10, op := Op.load 51 (Operand.tmp 2), type := 51, pos := "array.go:135", after := #[], guard := none },
  { dst := some 11, op := Op.load 45 (Operand.tmp 6), type := 45, pos := "array.go:135", after := #[], guard := none },
  { dst := some 12, op := Op.call { callee := Callee.value (Operand.tmp 10), args := #[Operand.tmp 11], argTypes := #[45] }, type := 45, pos := "array.go:135", after := #[{ on := 1, ground := Ground.data }, { on := 2, ground := Ground.data }], guard := none },
  { dst := some 13, op := Op.buildSlice 23 1 #[(0, Operand.tmp 12)], type := 23, pos := "array.go:135", after := #[{ on := 3, ground := Ground.data }], guard := none },
  { dst := some 14, op := Op.call { callee := Callee.builtin Builtin.append, args := #[Operand.tmp 9, Operand.tmp 13], argTypes := #[23, 23] }, type := 23, pos := "array.go:135", after := #[{ on := 0, ground := Ground.data }, { on := 4, ground := Ground.data }, { on := 3, ground := Ground.chain }], guard := none },
  { dst := none, op := Op.store 23 (Operand.tmp 5) (Operand.tmp 14), type := 0, pos := "array.go:135", after := #[{ on := 5, ground := Ground.data }, { on := 5, ground := Ground.chain }, { on := 0, ground := Ground.phase }, { on := 1, ground := Ground.phase }, { on := 2, ground := Ground.phase }, { on := 3, ground := Ground.phase }, { on := 4, ground := Ground.phase }, { on := 5, ground := Ground.phase }], guard := none }]
theorem info_item4T : (Try.prog.info? 45).map (fun i => (i.zero, i.size, i.bytes)) = some (some (.agg #[.int .u8 0, .bool false, .slice none 0 0, .slice none 0 0, .int .i32 0, .slice none 0 0]), 6, 96) := by kernel_rfl
section
variable {Q : Exit → Act → World → Prop} {l N f i d3 Z Wk O Bx : Nat} {b3 : Option Addr} {W wa : World} {x y : IV} {t : Tr} {xs : List Value} {t0 t1 t2 t3 t4 t5 t6 t7 t8 t9 t10 t11 t12 t13 t14 t15 : Value} {r : List Value} {ds : List Deferred}

set_option maxRecDepth 100000 in
set_option maxHeartbeats 16000000 in
theorem eachT_s51 (HO : W.ownsRow Z 45 6 (.slice b3 i d3) i xs) (BO : BoxA W O 23 #[.slice b3 i d3]) (BW : BoxA W Wk 51 #[.func (.func 45) #[] #[]]) (BX : BoxA W Bx 45 #[.int .u8 x.k, .bool x.b, .slice x.a1 x.n1 x.c1, .slice x.a2 x.n2 x.c2, .int .i32 x.c, .slice x.a3 x.n3 x.c3]) (lO : O < Z) (lZ : Z ≤ W.heap.size) (hi : (i + 1) * 96 ≤ 140737488355328) (hQ : ∀ (y : IV) (wa : World) (b4 : Option Addr) (d4 : Nat) (w2 : World), IsIt f (Fr W.heap.size wa.heap.size) wa y t → Below W.heap.size W wa → w2.ownsRow Z 45 6 (.slice b4 (i + 1) d4) (i + 1) (xs ++ [.int .u8 y.k, .bool y.b, .slice y.a1 y.n1 y.c1, .slice y.a2 y.n2 y.c2, .int .i32 y.c, .slice y.a3 y.n3 y.c3]) → (wa.alloc (.cells #[.int .u8 y.k, .bool y.b, .slice y.a1 y.n1 y.c1, .slice y.a2 y.n2 y.c2, .int .i32 y.c, .slice y.a3 y.n3 y.c3] 45)).grownBy w2 (Value.slice b3 i d3).ownBlock → ((Value.slice b4 (i + 1) d4).ownBlock = (Value.slice b3 i d3).ownBlock ∨ (Value.slice b4 (i + 1) d4).ownBlock = some (wa.alloc (.cells #[.int .u8 y.k, .bool y.b, .slice y.a1 y.n1 y.c1, .slice y.a2 y.n2 y.c2, .int .i32 y.c, .slice y.a3 y.n3 y.c3] 45)).heap.size) → Q .normal { tmps := (t0 :: t1 :: (.pointer (some ⟨Wk, 0, none⟩)) :: t3 :: t4 :: (.pointer (some ⟨O, 0, none⟩)) :: (.pointer (some ⟨Bx, 0, none⟩)) :: t7 :: t8 :: (.slice b3 i d3) :: (.func (.func 45) #[] #[]) :: (.agg #[.int .u8 x.k, .bool x.b, .slice x.a1 x.n1 x.c1, .slice x.a2 x.n2 x.c2, .int .i32 x.c, .slice x.a3 x.n3 x.c3]) :: (.agg #[.int .u8 y.k, .bool y.b, .slice y.a1 y.n1 y.c1, .slice y.a2 y.n2 y.c2, .int .i32 y.c, .slice y.a3 y.n3 y.c3]) :: (.slice (some ⟨wa.heap.size, 0, none⟩) 1 1) :: (.slice b4 (i + 1) d4) :: t15 :: r).toArray, defers := ds } (w2.setCell ⟨O, 0, none⟩ (.slice b4 (i + 1) d4))) (hI : IsIt f (Fr W.heap.size wa.heap.size) wa y t) (k : Below W.heap.size W wa) :
    wpAnyIn (Fence.wide.inRound l) N Try.prog .any eachT_ops Q 2 #[true, true, true, true, true, false, false] { tmps := (t0 :: t1 :: (.pointer (some ⟨Wk, 0, none⟩)) :: t3 :: t4 :: (.pointer (some ⟨O, 0, none⟩)) :: (.pointer (some ⟨Bx, 0, none⟩)) :: t7 :: t8 :: (.slice b3 i d3) :: (.func (.func 45) #[] #[]) :: (.agg #[.int .u8 x.k, .bool x.b, .slice x.a1 x.n1 x.c1, .slice x.a2 x.n2 x.c2, .int .i32 x.c, .slice x.a3 x.n3 x.c3]) :: (.agg #[.int .u8 y.k, .bool y.b, .slice y.a1 y.n1 y.c1, .slice y.a2 y.n2 y.c2, .int .i32 y.c, .slice y.a3 y.n3 y.c3]) :: (.slice (some ⟨wa.heap.size, 0, none⟩) 1 1) :: t14 :: t15 :: r).toArray, defers := ds } (wa.alloc (.cells #[.int .u8 y.k, .bool y.b, .slice y.a1 y.n1 y.c1, .slice y.a2 y.n2 y.c2, .int .i32 y.c, .slice y.a3 y.n3 y.c3] 45)) := by
  obtain ⟨i0, hi0, hz0, hz1, hz2⟩ := info_parts info_item4T
  have sk := k.size
  refine wpAnyIn_ready (rs := [5]) (by kernel_rfl) (by simp) ?_
  refine AllReadyIn.cons (o := { dst := some 14, op := Op.call { callee := Callee.builtin Builtin.append, args := #[Operand.tmp 9, Operand.tmp 13], argTypes := #[23, 23] }, type := 23, pos := "array.go:135", after := #[{ on := 0, ground := Ground.data }, { on := 4, ground := Ground.data }, { on := 3, ground := Ground.chain }], guard := none }) rfl (fun K hK => ?_) ?_
  · refine stepIn_append_at rfl _ _ 23 rfl Z 45 i0 (.agg #[.int .u8 0, .bool false, .slice none 0 0, .slice none 0 0, .int .i32 0, .slice none 0 0]) 6 96 Try.underlying23 hi0 hz0 hz1 hz2 rfl (by decide) _ i xs rfl (row_below HO k (Nat.le_refl _) |>.alloc _) ⟨wa.heap.size, 0, none⟩ 1 1 [.int .u8 y.k, .bool y.b, .slice y.a1 y.n1 y.c1, .slice y.a2 y.n2 y.c2, .int .i32 y.c, .slice y.a3 y.n3 y.c3] rfl rfl (cells_new wa #[.int .u8 y.k, .bool y.b, .slice y.a1 y.n1 y.c1, .slice y.a2 y.n2 y.c2, .int .i32 y.c, .slice y.a3 y.n3 y.c3] _) (by intro u hu; simp at hu; rcases hu with rfl | rfl | rfl | rfl | rfl | rfl <;> rfl) (by unfold maxLen; omega) (by omega) (by simp; omega) ?_
    intro v2 w2 hr hgr hvo
    obtain ⟨b4, d4, rfl⟩ := row_form3 hr
    have HQ : Hid _ := hQ y wa b4 d4 w2 hI k hr hgr hvo
    have BN := boxA_grown ((BO.below k (by omega)).below (below_alloc wa (.cells #[.int .u8 y.k, .bool y.b, .slice y.a1 y.n1 y.c1, .slice y.a2 y.n2 y.c2, .int .i32 y.c, .slice y.a3 y.n3 y.c3] 45)) (by omega)) hgr (fun h => by have := (row_own HO _ h).1; omega)
    have yN := BN.cell 0 rfl
    have fN := BN.frozen 0
    clear hQ hI hr hgr hvo HO BO BW BX
    simp only [Act.put, List.setIfInBounds_toArray, List.set_cons_zero, List.set_cons_succ]
    refine hK _ _ ?_
    clear hK K
    refine wpAnyIn_ready (rs := [6]) (by kernel_rfl) (by simp) ?_
    refine AllReadyIn.cons (o := { dst := none, op := Op.store 23 (Operand.tmp 5) (Operand.tmp 14), type := 0, pos := "array.go:135", after := #[{ on := 5, ground := Ground.data }, { on := 5, ground := Ground.chain }, { on := 0, ground := Ground.phase }, { on := 1, ground := Ground.phase }, { on := 2, ground := Ground.phase }, { on := 3, ground := Ground.phase }, { on := 4, ground := Ground.phase }, { on := 5, ground := Ground.phase }], guard := none }) rfl (fun K hK => ?_) ?_
    · go_simp
      refine hK _ _ ?_
      exact wpAnyIn_done (by kernel_rfl) HQ.out _
    exact AllReadyIn.nil
  exact AllReadyIn.nil

set_option maxRecDepth 100000 in
set_option maxHeartbeats 16000000 in
theorem eachT_s50 (HO : W.ownsRow Z 45 6 (.slice b3 i d3) i xs) (BO : BoxA W O 23 #[.slice b3 i d3]) (BW : BoxA W Wk 51 #[.func (.func 45) #[] #[]]) (BX : BoxA W Bx 45 #[.int .u8 x.k, .bool x.b, .slice x.a1 x.n1 x.c1, .slice x.a2 x.n2 x.c2, .int .i32 x.c, .slice x.a3 x.n3 x.c3]) (lO : O < Z) (lZ : Z ≤ W.heap.size) (hi : (i + 1) * 96 ≤ 140737488355328) (hQ : ∀ (y : IV) (wa : World) (b4 : Option Addr) (d4 : Nat) (w2 : World), IsIt f (Fr W.heap.size wa.heap.size) wa y t → Below W.heap.size W wa → w2.ownsRow Z 45 6 (.slice b4 (i + 1) d4) (i + 1) (xs ++ [.int .u8 y.k, .bool y.b, .slice y.a1 y.n1 y.c1, .slice y.a2 y.n2 y.c2, .int .i32 y.c, .slice y.a3 y.n3 y.c3]) → (wa.alloc (.cells #[.int .u8 y.k, .bool y.b, .slice y.a1 y.n1 y.c1, .slice y.a2 y.n2 y.c2, .int .i32 y.c, .slice y.a3 y.n3 y.c3] 45)).grownBy w2 (Value.slice b3 i d3).ownBlock → ((Value.slice b4 (i + 1) d4).ownBlock = (Value.slice b3 i d3).ownBlock ∨ (Value.slice b4 (i + 1) d4).ownBlock = some (wa.alloc (.cells #[.int .u8 y.k, .bool y.b, .slice y.a1 y.n1 y.c1, .slice y.a2 y.n2 y.c2, .int .i32 y.c, .slice y.a3 y.n3 y.c3] 45)).heap.size) → Q .normal { tmps := (t0 :: t1 :: (.pointer (some ⟨Wk, 0, none⟩)) :: t3 :: t4 :: (.pointer (some ⟨O, 0, none⟩)) :: (.pointer (some ⟨Bx, 0, none⟩)) :: t7 :: t8 :: (.slice b3 i d3) :: (.func (.func 45) #[] #[]) :: (.agg #[.int .u8 x.k, .bool x.b, .slice x.a1 x.n1 x.c1, .slice x.a2 x.n2 x.c2, .int .i32 x.c, .slice x.a3 x.n3 x.c3]) :: (.agg #[.int .u8 y.k, .bool y.b, .slice y.a1 y.n1 y.c1, .slice y.a2 y.n2 y.c2, .int .i32 y.c, .slice y.a3 y.n3 y.c3]) :: (.slice (some ⟨wa.heap.size, 0, none⟩) 1 1) :: (.slice b4 (i + 1) d4) :: t15 :: r).toArray, defers := ds } (w2.setCell ⟨O, 0, none⟩ (.slice b4 (i + 1) d4))) (hI : IsIt f (Fr W.heap.size wa.heap.size) wa y t) (k : Below W.heap.size W wa) :
    wpAnyIn (Fence.wide.inRound l) N Try.prog .any eachT_ops Q 3 #[false, true, true, true, true, false, false] { tmps := (t0 :: t1 :: (.pointer (some ⟨Wk, 0, none⟩)) :: t3 :: t4 :: (.pointer (some ⟨O, 0, none⟩)) :: (.pointer (some ⟨Bx, 0, none⟩)) :: t7 :: t8 :: t9 :: (.func (.func 45) #[] #[]) :: (.agg #[.int .u8 x.k, .bool x.b, .slice x.a1 x.n1 x.c1, .slice x.a2 x.n2 x.c2, .int .i32 x.c, .slice x.a3 x.n3 x.c3]) :: (.agg #[.int .u8 y.k, .bool y.b, .slice y.a1 y.n1 y.c1, .slice y.a2 y.n2 y.c2, .int .i32 y.c, .slice y.a3 y.n3 y.c3]) :: (.slice (some ⟨wa.heap.size, 0, none⟩) 1 1) :: t14 :: t15 :: r).toArray, defers := ds } (wa.alloc (.cells #[.int .u8 y.k, .bool y.b, .slice y.a1 y.n1 y.c1, .slice y.a2 y.n2 y.c2, .int .i32 y.c, .slice y.a3 y.n3 y.c3] 45)) := by
  refine wpAnyIn_ready (rs := [0]) (by kernel_rfl) (by simp) ?_
  refine AllReadyIn.cons (o := { dst := some 9, op := Op.load 23 (Operand.tmp 5), type := 23, pos := "array.go:135", after := #[], guard := none }) rfl (fun K hK => ?_) ?_
  · have cO := (show BoxA _ O 23 #[.slice b3 i d3] from ((BO.below k BO.lt).below (below_alloc wa (.cells #[.int .u8 y.k, .bool y.b, .slice y.a1 y.n1 y.c1, .slice y.a2 y.n2 y.c2, .int .i32 y.c, .slice y.a3 y.n3 y.c3] 45)) (by have := BO.lt; have := k.size; omega))).cell 0 rfl
    go_simp
    refine hK _ _ ?_
    exact eachT_s51 HO BO BW BX lO lZ hi hQ hI k
  exact AllReadyIn.nil

set_option maxRecDepth 100000 in
set_option maxHeartbeats 16000000 in
theorem eachT_s41 (HO : W.ownsRow Z 45 6 (.slice b3 i d3) i xs) (BO : BoxA W O 23 #[.slice b3 i d3]) (BW : BoxA W Wk 51 #[.func (.func 45) #[] #[]]) (BX : BoxA W Bx 45 #[.int .u8 x.k, .bool x.b, .slice x.a1 x.n1 x.c1, .slice x.a2 x.n2 x.c2, .int .i32 x.c, .slice x.a3 x.n3 x.c3]) (lO : O < Z) (lZ : Z ≤ W.heap.size) (hi : (i + 1) * 96 ≤ 140737488355328) (hQ : ∀ (y : IV) (wa : World) (b4 : Option Addr) (d4 : Nat) (w2 : World), IsIt f (Fr W.heap.size wa.heap.size) wa y t → Below W.heap.size W wa → w2.ownsRow Z 45 6 (.slice b4 (i + 1) d4) (i + 1) (xs ++ [.int .u8 y.k, .bool y.b, .slice y.a1 y.n1 y.c1, .slice y.a2 y.n2 y.c2, .int .i32 y.c, .slice y.a3 y.n3 y.c3]) → (wa.alloc (.cells #[.int .u8 y.k, .bool y.b, .slice y.a1 y.n1 y.c1, .slice y.a2 y.n2 y.c2, .int .i32 y.c, .slice y.a3 y.n3 y.c3] 45)).grownBy w2 (Value.slice b3 i d3).ownBlock → ((Value.slice b4 (i + 1) d4).ownBlock = (Value.slice b3 i d3).ownBlock ∨ (Value.slice b4 (i + 1) d4).ownBlock = some (wa.alloc (.cells #[.int .u8 y.k, .bool y.b, .slice y.a1 y.n1 y.c1, .slice y.a2 y.n2 y.c2, .int .i32 y.c, .slice y.a3 y.n3 y.c3] 45)).heap.size) → Q .normal { tmps := (t0 :: t1 :: (.pointer (some ⟨Wk, 0, none⟩)) :: t3 :: t4 :: (.pointer (some ⟨O, 0, none⟩)) :: (.pointer (some ⟨Bx, 0, none⟩)) :: t7 :: t8 :: (.slice b3 i d3) :: (.func (.func 45) #[] #[]) :: (.agg #[.int .u8 x.k, .bool x.b, .slice x.a1 x.n1 x.c1, .slice x.a2 x.n2 x.c2, .int .i32 x.c, .slice x.a3 x.n3 x.c3]) :: (.agg #[.int .u8 y.k, .bool y.b, .slice y.a1 y.n1 y.c1, .slice y.a2 y.n2 y.c2, .int .i32 y.c, .slice y.a3 y.n3 y.c3]) :: (.slice (some ⟨wa.heap.size, 0, none⟩) 1 1) :: (.slice b4 (i + 1) d4) :: t15 :: r).toArray, defers := ds } (w2.setCell ⟨O, 0, none⟩ (.slice b4 (i + 1) d4))) (hI : IsIt f (Fr W.heap.size wa.heap.size) wa y t) (k : Below W.heap.size W wa) :
    wpAnyIn (Fence.wide.inRound l) N Try.prog .any eachT_ops Q 3 #[true, true, true, true, false, false, false] { tmps := (t0 :: t1 :: (.pointer (some ⟨Wk, 0, none⟩)) :: t3 :: t4 :: (.pointer (some ⟨O, 0, none⟩)) :: (.pointer (some ⟨Bx, 0, none⟩)) :: t7 :: t8 :: (.slice b3 i d3) :: (.func (.func 45) #[] #[]) :: (.agg #[.int .u8 x.k, .bool x.b, .slice x.a1 x.n1 x.c1, .slice x.a2 x.n2 x.c2, .int .i32 x.c, .slice x.a3 x.n3 x.c3]) :: (.agg #[.int .u8 y.k, .bool y.b, .slice y.a1 y.n1 y.c1, .slice y.a2 y.n2 y.c2, .int .i32 y.c, .slice y.a3 y.n3 y.c3]) :: t13 :: t14 :: t15 :: r).toArray, defers := ds } wa := by
  have sk := k.size
  refine wpAnyIn_ready (rs := [4]) (by kernel_rfl) (by simp) ?_
  refine AllReadyIn.cons (o := { dst := some 13, op := Op.buildSlice 23 1 #[(0, Operand.tmp 12)], type := 23, pos := "array.go:135", after := #[{ on := 3, ground := Ground.data }], guard := none }) rfl (fun K hK => ?_) ?_
  · go_simp
    refine hK _ _ ?_
    exact eachT_s51 HO BO BW BX lO lZ hi hQ hI k
  exact AllReadyIn.nil

set_option maxRecDepth 100000 in
set_option maxHeartbeats 16000000 in
theorem eachT_s40 (HO : W.ownsRow Z 45 6 (.slice b3 i d3) i xs) (BO : BoxA W O 23 #[.slice b3 i d3]) (BW : BoxA W Wk 51 #[.func (.func 45) #[] #[]]) (BX : BoxA W Bx 45 #[.int .u8 x.k, .bool x.b, .slice x.a1 x.n1 x.c1, .slice x.a2 x.n2 x.c2, .int .i32 x.c, .slice x.a3 x.n3 x.c3]) (lO : O < Z) (lZ : Z ≤ W.heap.size) (hi : (i + 1) * 96 ≤ 140737488355328) (hQ : ∀ (y : IV) (wa : World) (b4 : Option Addr) (d4 : Nat) (w2 : World), IsIt f (Fr W.heap.size wa.heap.size) wa y t → Below W.heap.size W wa → w2.ownsRow Z 45 6 (.slice b4 (i + 1) d4) (i + 1) (xs ++ [.int .u8 y.k, .bool y.b, .slice y.a1 y.n1 y.c1, .slice y.a2 y.n2 y.c2, .int .i32 y.c, .slice y.a3 y.n3 y.c3]) → (wa.alloc (.cells #[.int .u8 y.k, .bool y.b, .slice y.a1 y.n1 y.c1, .slice y.a2 y.n2 y.c2, .int .i32 y.c, .slice y.a3 y.n3 y.c3] 45)).grownBy w2 (Value.slice b3 i d3).ownBlock → ((Value.slice b4 (i + 1) d4).ownBlock = (Value.slice b3 i d3).ownBlock ∨ (Value.slice b4 (i + 1) d4).ownBlock = some (wa.alloc (.cells #[.int .u8 y.k, .bool y.b, .slice y.a1 y.n1 y.c1, .slice y.a2 y.n2 y.c2, .int .i32 y.c, .slice y.a3 y.n3 y.c3] 45)).heap.size) → Q .normal { tmps := (t0 :: t1 :: (.pointer (some ⟨Wk, 0, none⟩)) :: t3 :: t4 :: (.pointer (some ⟨O, 0, none⟩)) :: (.pointer (some ⟨Bx, 0, none⟩)) :: t7 :: t8 :: (.slice b3 i d3) :: (.func (.func 45) #[] #[]) :: (.agg #[.int .u8 x.k, .bool x.b, .slice x.a1 x.n1 x.c1, .slice x.a2 x.n2 x.c2, .int .i32 x.c, .slice x.a3 x.n3 x.c3]) :: (.agg #[.int .u8 y.k, .bool y.b, .slice y.a1 y.n1 y.c1, .slice y.a2 y.n2 y.c2, .int .i32 y.c, .slice y.a3 y.n3 y.c3]) :: (.slice (some ⟨wa.heap.size, 0, none⟩) 1 1) :: (.slice b4 (i + 1) d4) :: t15 :: r).toArray, defers := ds } (w2.setCell ⟨O, 0, none⟩ (.slice b4 (i + 1) d4))) (hI : IsIt f (Fr W.heap.size wa.heap.size) wa y t) (k : Below W.heap.size W wa) :
    wpAnyIn (Fence.wide.inRound l) N Try.prog .any eachT_ops Q 4 #[false, true, true, true, false, false, false] { tmps := (t0 :: t1 :: (.pointer (some ⟨Wk, 0, none⟩)) :: t3 :: t4 :: (.pointer (some ⟨O, 0, none⟩)) :: (.pointer (some ⟨Bx, 0, none⟩)) :: t7 :: t8 :: t9 :: (.func (.func 45) #[] #[]) :: (.agg #[.int .u8 x.k, .bool x.b, .slice x.a1 x.n1 x.c1, .slice x.a2 x.n2 x.c2, .int .i32 x.c, .slice x.a3 x.n3 x.c3]) :: (.agg #[.int .u8 y.k, .bool y.b, .slice y.a1 y.n1 y.c1, .slice y.a2 y.n2 y.c2, .int .i32 y.c, .slice y.a3 y.n3 y.c3]) :: t13 :: t14 :: t15 :: r).toArray, defers := ds } wa := by
  have sk := k.size
  refine wpAnyIn_ready (rs := [0, 4]) (by kernel_rfl) (by simp) ?_
  refine AllReadyIn.cons (o := { dst := some 9, op := Op.load 23 (Operand.tmp 5), type := 23, pos := "array.go:135", after := #[], guard := none }) rfl (fun K hK => ?_) ?_
  · have cO := (show BoxA _ O 23 #[.slice b3 i d3] from (BO.below k BO.lt)).cell 0 rfl
    go_simp
    refine hK _ _ ?_
    exact eachT_s41 HO BO BW BX lO lZ hi hQ hI k
  refine AllReadyIn.cons (o := { dst := some 13, op := Op.buildSlice 23 1 #[(0, Operand.tmp 12)], type := 23, pos := "array.go:135", after := #[{ on := 3, ground := Ground.data }], guard := none }) rfl (fun K hK => ?_) ?_
  · go_simp
    refine hK _ _ ?_
    exact eachT_s50 HO BO BW BX lO lZ hi hQ hI k
  exact AllReadyIn.nil

set_option maxRecDepth 100000 in
set_option maxHeartbeats 16000000 in
theorem eachT_s31 (HO : W.ownsRow Z 45 6 (.slice b3 i d3) i xs) (BO : BoxA W O 23 #[.slice b3 i d3]) (BW : BoxA W Wk 51 #[.func (.func 45) #[] #[]]) (BX : BoxA W Bx 45 #[.int .u8 x.k, .bool x.b, .slice x.a1 x.n1 x.c1, .slice x.a2 x.n2 x.c2, .int .i32 x.c, .slice x.a3 x.n3 x.c3]) (lO : O < Z) (lZ : Z ≤ W.heap.size) (hi : (i + 1) * 96 ≤ 140737488355328) (hQ : ∀ (y : IV) (wa : World) (b4 : Option Addr) (d4 : Nat) (w2 : World), IsIt f (Fr W.heap.size wa.heap.size) wa y t → Below W.heap.size W wa → w2.ownsRow Z 45 6 (.slice b4 (i + 1) d4) (i + 1) (xs ++ [.int .u8 y.k, .bool y.b, .slice y.a1 y.n1 y.c1, .slice y.a2 y.n2 y.c2, .int .i32 y.c, .slice y.a3 y.n3 y.c3]) → (wa.alloc (.cells #[.int .u8 y.k, .bool y.b, .slice y.a1 y.n1 y.c1, .slice y.a2 y.n2 y.c2, .int .i32 y.c, .slice y.a3 y.n3 y.c3] 45)).grownBy w2 (Value.slice b3 i d3).ownBlock → ((Value.slice b4 (i + 1) d4).ownBlock = (Value.slice b3 i d3).ownBlock ∨ (Value.slice b4 (i + 1) d4).ownBlock = some (wa.alloc (.cells #[.int .u8 y.k, .bool y.b, .slice y.a1 y.n1 y.c1, .slice y.a2 y.n2 y.c2, .int .i32 y.c, .slice y.a3 y.n3 y.c3] 45)).heap.size) → Q .normal { tmps := (t0 :: t1 :: (.pointer (some ⟨Wk, 0, none⟩)) :: t3 :: t4 :: (.pointer (some ⟨O, 0, none⟩)) :: (.pointer (some ⟨Bx, 0, none⟩)) :: t7 :: t8 :: (.slice b3 i d3) :: (.func (.func 45) #[] #[]) :: (.agg #[.int .u8 x.k, .bool x.b, .slice x.a1 x.n1 x.c1, .slice x.a2 x.n2 x.c2, .int .i32 x.c, .slice x.a3 x.n3 x.c3]) :: (.agg #[.int .u8 y.k, .bool y.b, .slice y.a1 y.n1 y.c1, .slice y.a2 y.n2 y.c2, .int .i32 y.c, .slice y.a3 y.n3 y.c3]) :: (.slice (some ⟨wa.heap.size, 0, none⟩) 1 1) :: (.slice b4 (i + 1) d4) :: t15 :: r).toArray, defers := ds } (w2.setCell ⟨O, 0, none⟩ (.slice b4 (i + 1) d4))) (hc : ∀ N, CallsIn (Fence.wide.inRound l) N Try.prog 45 #[.agg #[.int .u8 x.k, .bool x.b, .slice x.a1 x.n1 x.c1, .slice x.a2 x.n2 x.c2, .int .i32 x.c, .slice x.a3 x.n3 x.c3]] W fun e w2 => ∃ y : IV, e = .returned (.agg #[.int .u8 y.k, .bool y.b, .slice y.a1 y.n1 y.c1, .slice y.a2 y.n2 y.c2, .int .i32 y.c, .slice y.a3 y.n3 y.c3]) ∧ IsIt f (Fr W.heap.size w2.heap.size) w2 y t ∧ Below W.heap.size W w2) :
    wpAnyIn (Fence.wide.inRound l) N Try.prog .any eachT_ops Q 4 #[true, true, true, false, false, false, false] { tmps := (t0 :: t1 :: (.pointer (some ⟨Wk, 0, none⟩)) :: t3 :: t4 :: (.pointer (some ⟨O, 0, none⟩)) :: (.pointer (some ⟨Bx, 0, none⟩)) :: t7 :: t8 :: (.slice b3 i d3) :: (.func (.func 45) #[] #[]) :: (.agg #[.int .u8 x.k, .bool x.b, .slice x.a1 x.n1 x.c1, .slice x.a2 x.n2 x.c2, .int .i32 x.c, .slice x.a3 x.n3 x.c3]) :: t12 :: t13 :: t14 :: t15 :: r).toArray, defers := ds } W := by
  refine wpAnyIn_ready (rs := [3]) (by kernel_rfl) (by simp) ?_
  refine AllReadyIn.cons (o := { dst := some 12, op := Op.call { callee := Callee.value (Operand.tmp 10), args := #[Operand.tmp 11], argTypes := #[45] }, type := 45, pos := "array.go:135", after := #[{ on := 1, ground := Ground.data }, { on := 2, ground := Ground.data }], guard := none }) rfl (fun K hK => ?_) ?_
  · go_simp
    refine ⟨trivial, (fun h => by cases h), (hc _).mono ?_⟩
    rintro e wa ⟨y, rfl, hI, k⟩
    go_simp
    refine hK _ _ ?_
    exact eachT_s41 HO BO BW BX lO lZ hi hQ hI k
  exact AllReadyIn.nil

set_option maxRecDepth 100000 in
set_option maxHeartbeats 16000000 in
theorem eachT_s30 (HO : W.ownsRow Z 45 6 (.slice b3 i d3) i xs) (BO : BoxA W O 23 #[.slice b3 i d3]) (BW : BoxA W Wk 51 #[.func (.func 45) #[] #[]]) (BX : BoxA W Bx 45 #[.int .u8 x.k, .bool x.b, .slice x.a1 x.n1 x.c1, .slice x.a2 x.n2 x.c2, .int .i32 x.c, .slice x.a3 x.n3 x.c3]) (lO : O < Z) (lZ : Z ≤ W.heap.size) (hi : (i + 1) * 96 ≤ 140737488355328) (hQ : ∀ (y : IV) (wa : World) (b4 : Option Addr) (d4 : Nat) (w2 : World), IsIt f (Fr W.heap.size wa.heap.size) wa y t → Below W.heap.size W wa → w2.ownsRow Z 45 6 (.slice b4 (i + 1) d4) (i + 1) (xs ++ [.int .u8 y.k, .bool y.b, .slice y.a1 y.n1 y.c1, .slice y.a2 y.n2 y.c2, .int .i32 y.c, .slice y.a3 y.n3 y.c3]) → (wa.alloc (.cells #[.int .u8 y.k, .bool y.b, .slice y.a1 y.n1 y.c1, .slice y.a2 y.n2 y.c2, .int .i32 y.c, .slice y.a3 y.n3 y.c3] 45)).grownBy w2 (Value.slice b3 i d3).ownBlock → ((Value.slice b4 (i + 1) d4).ownBlock = (Value.slice b3 i d3).ownBlock ∨ (Value.slice b4 (i + 1) d4).ownBlock = some (wa.alloc (.cells #[.int .u8 y.k, .bool y.b, .slice y.a1 y.n1 y.c1, .slice y.a2 y.n2 y.c2, .int .i32 y.c, .slice y.a3 y.n3 y.c3] 45)).heap.size) → Q .normal { tmps := (t0 :: t1 :: (.pointer (some ⟨Wk, 0, none⟩)) :: t3 :: t4 :: (.pointer (some ⟨O, 0, none⟩)) :: (.pointer (some ⟨Bx, 0, none⟩)) :: t7 :: t8 :: (.slice b3 i d3) :: (.func (.func 45) #[] #[]) :: (.agg #[.int .u8 x.k, .bool x.b, .slice x.a1 x.n1 x.c1, .slice x.a2 x.n2 x.c2, .int .i32 x.c, .slice x.a3 x.n3 x.c3]) :: (.agg #[.int .u8 y.k, .bool y.b, .slice y.a1 y.n1 y.c1, .slice y.a2 y.n2 y.c2, .int .i32 y.c, .slice y.a3 y.n3 y.c3]) :: (.slice (some ⟨wa.heap.size, 0, none⟩) 1 1) :: (.slice b4 (i + 1) d4) :: t15 :: r).toArray, defers := ds } (w2.setCell ⟨O, 0, none⟩ (.slice b4 (i + 1) d4))) (hc : ∀ N, CallsIn (Fence.wide.inRound l) N Try.prog 45 #[.agg #[.int .u8 x.k, .bool x.b, .slice x.a1 x.n1 x.c1, .slice x.a2 x.n2 x.c2, .int .i32 x.c, .slice x.a3 x.n3 x.c3]] W fun e w2 => ∃ y : IV, e = .returned (.agg #[.int .u8 y.k, .bool y.b, .slice y.a1 y.n1 y.c1, .slice y.a2 y.n2 y.c2, .int .i32 y.c, .slice y.a3 y.n3 y.c3]) ∧ IsIt f (Fr W.heap.size w2.heap.size) w2 y t ∧ Below W.heap.size W w2) :
    wpAnyIn (Fence.wide.inRound l) N Try.prog .any eachT_ops Q 5 #[false, true, true, false, false, false, false] { tmps := (t0 :: t1 :: (.pointer (some ⟨Wk, 0, none⟩)) :: t3 :: t4 :: (.pointer (some ⟨O, 0, none⟩)) :: (.pointer (some ⟨Bx, 0, none⟩)) :: t7 :: t8 :: t9 :: (.func (.func 45) #[] #[]) :: (.agg #[.int .u8 x.k, .bool x.b, .slice x.a1 x.n1 x.c1, .slice x.a2 x.n2 x.c2, .int .i32 x.c, .slice x.a3 x.n3 x.c3]) :: t12 :: t13 :: t14 :: t15 :: r).toArray, defers := ds } W := by
  refine wpAnyIn_ready (rs := [0, 3]) (by kernel_rfl) (by simp) ?_
  refine AllReadyIn.cons (o := { dst := some 9, op := Op.load 23 (Operand.tmp 5), type := 23, pos := "array.go:135", after := #[], guard := none }) rfl (fun K hK => ?_) ?_
  · have cO := (show BoxA _ O 23 #[.slice b3 i d3] from BO).cell 0 rfl
    go_simp
    refine hK _ _ ?_
    exact eachT_s31 HO BO BW BX lO lZ hi hQ hc
  refine AllReadyIn.cons (o := { dst := some 12, op := Op.call { callee := Callee.value (Operand.tmp 10), args := #[Operand.tmp 11], argTypes := #[45] }, type := 45, pos := "array.go:135", after := #[{ on := 1, ground := Ground.data }, { on := 2, ground := Ground.data }], guard := none }) rfl (fun K hK => ?_) ?_
  · go_simp
    refine ⟨trivial, (fun h => by cases h), (hc _).mono ?_⟩
    rintro e wa ⟨y, rfl, hI, k⟩
    go_simp
    refine hK _ _ ?_
    exact eachT_s40 HO BO BW BX lO lZ hi hQ hI k
  exact AllReadyIn.nil

set_option maxRecDepth 100000 in
set_option maxHeartbeats 16000000 in
theorem eachT_s21 (HO : W.ownsRow Z 45 6 (.slice b3 i d3) i xs) (BO : BoxA W O 23 #[.slice b3 i d3]) (BW : BoxA W Wk 51 #[.func (.func 45) #[] #[]]) (BX : BoxA W Bx 45 #[.int .u8 x.k, .bool x.b, .slice x.a1 x.n1 x.c1, .slice x.a2 x.n2 x.c2, .int .i32 x.c, .slice x.a3 x.n3 x.c3]) (lO : O < Z) (lZ : Z ≤ W.heap.size) (hi : (i + 1) * 96 ≤ 140737488355328) (hQ : ∀ (y : IV) (wa : World) (b4 : Option Addr) (d4 : Nat) (w2 : World), IsIt f (Fr W.heap.size wa.heap.size) wa y t → Below W.heap.size W wa → w2.ownsRow Z 45 6 (.slice b4 (i + 1) d4) (i + 1) (xs ++ [.int .u8 y.k, .bool y.b, .slice y.a1 y.n1 y.c1, .slice y.a2 y.n2 y.c2, .int .i32 y.c, .slice y.a3 y.n3 y.c3]) → (wa.alloc (.cells #[.int .u8 y.k, .bool y.b, .slice y.a1 y.n1 y.c1, .slice y.a2 y.n2 y.c2, .int .i32 y.c, .slice y.a3 y.n3 y.c3] 45)).grownBy w2 (Value.slice b3 i d3).ownBlock → ((Value.slice b4 (i + 1) d4).ownBlock = (Value.slice b3 i d3).ownBlock ∨ (Value.slice b4 (i + 1) d4).ownBlock = some (wa.alloc (.cells #[.int .u8 y.k, .bool y.b, .slice y.a1 y.n1 y.c1, .slice y.a2 y.n2 y.c2, .int .i32 y.c, .slice y.a3 y.n3 y.c3] 45)).heap.size) → Q .normal { tmps := (t0 :: t1 :: (.pointer (some ⟨Wk, 0, none⟩)) :: t3 :: t4 :: (.pointer (some ⟨O, 0, none⟩)) :: (.pointer (some ⟨Bx, 0, none⟩)) :: t7 :: t8 :: (.slice b3 i d3) :: (.func (.func 45) #[] #[]) :: (.agg #[.int .u8 x.k, .bool x.b, .slice x.a1 x.n1 x.c1, .slice x.a2 x.n2 x.c2, .int .i32 x.c, .slice x.a3 x.n3 x.c3]) :: (.agg #[.int .u8 y.k, .bool y.b, .slice y.a1 y.n1 y.c1, .slice y.a2 y.n2 y.c2, .int .i32 y.c, .slice y.a3 y.n3 y.c3]) :: (.slice (some ⟨wa.heap.size, 0, none⟩) 1 1) :: (.slice b4 (i + 1) d4) :: t15 :: r).toArray, defers := ds } (w2.setCell ⟨O, 0, none⟩ (.slice b4 (i + 1) d4))) (hc : ∀ N, CallsIn (Fence.wide.inRound l) N Try.prog 45 #[.agg #[.int .u8 x.k, .bool x.b, .slice x.a1 x.n1 x.c1, .slice x.a2 x.n2 x.c2, .int .i32 x.c, .slice x.a3 x.n3 x.c3]] W fun e w2 => ∃ y : IV, e = .returned (.agg #[.int .u8 y.k, .bool y.b, .slice y.a1 y.n1 y.c1, .slice y.a2 y.n2 y.c2, .int .i32 y.c, .slice y.a3 y.n3 y.c3]) ∧ IsIt f (Fr W.heap.size w2.heap.size) w2 y t ∧ Below W.heap.size W w2) :
    wpAnyIn (Fence.wide.inRound l) N Try.prog .any eachT_ops Q 5 #[true, false, true, false, false, false, false] { tmps := (t0 :: t1 :: (.pointer (some ⟨Wk, 0, none⟩)) :: t3 :: t4 :: (.pointer (some ⟨O, 0, none⟩)) :: (.pointer (some ⟨Bx, 0, none⟩)) :: t7 :: t8 :: (.slice b3 i d3) :: t10 :: (.agg #[.int .u8 x.k, .bool x.b, .slice x.a1 x.n1 x.c1, .slice x.a2 x.n2 x.c2, .int .i32 x.c, .slice x.a3 x.n3 x.c3]) :: t12 :: t13 :: t14 :: t15 :: r).toArray, defers := ds } W := by
  refine wpAnyIn_ready (rs := [1]) (by kernel_rfl) (by simp) ?_
  refine AllReadyIn.cons (o := { dst := some 10, op := Op.load 51 (Operand.tmp 2), type := 51, pos := "array.go:135", after := #[], guard := none }) rfl (fun K hK => ?_) ?_
  · have cW := BW.cell 0 rfl
    go_simp
    refine hK _ _ ?_
    exact eachT_s31 HO BO BW BX lO lZ hi hQ hc
  exact AllReadyIn.nil

set_option maxRecDepth 100000 in
set_option maxHeartbeats 16000000 in
theorem eachT_s20 (HO : W.ownsRow Z 45 6 (.slice b3 i d3) i xs) (BO : BoxA W O 23 #[.slice b3 i d3]) (BW : BoxA W Wk 51 #[.func (.func 45) #[] #[]]) (BX : BoxA W Bx 45 #[.int .u8 x.k, .bool x.b, .slice x.a1 x.n1 x.c1, .slice x.a2 x.n2 x.c2, .int .i32 x.c, .slice x.a3 x.n3 x.c3]) (lO : O < Z) (lZ : Z ≤ W.heap.size) (hi : (i + 1) * 96 ≤ 140737488355328) (hQ : ∀ (y : IV) (wa : World) (b4 : Option Addr) (d4 : Nat) (w2 : World), IsIt f (Fr W.heap.size wa.heap.size) wa y t → Below W.heap.size W wa → w2.ownsRow Z 45 6 (.slice b4 (i + 1) d4) (i + 1) (xs ++ [.int .u8 y.k, .bool y.b, .slice y.a1 y.n1 y.c1, .slice y.a2 y.n2 y.c2, .int .i32 y.c, .slice y.a3 y.n3 y.c3]) → (wa.alloc (.cells #[.int .u8 y.k, .bool y.b, .slice y.a1 y.n1 y.c1, .slice y.a2 y.n2 y.c2, .int .i32 y.c, .slice y.a3 y.n3 y.c3] 45)).grownBy w2 (Value.slice b3 i d3).ownBlock → ((Value.slice b4 (i + 1) d4).ownBlock = (Value.slice b3 i d3).ownBlock ∨ (Value.slice b4 (i + 1) d4).ownBlock = some (wa.alloc (.cells #[.int .u8 y.k, .bool y.b, .slice y.a1 y.n1 y.c1, .slice y.a2 y.n2 y.c2, .int .i32 y.c, .slice y.a3 y.n3 y.c3] 45)).heap.size) → Q .normal { tmps := (t0 :: t1 :: (.pointer (some ⟨Wk, 0, none⟩)) :: t3 :: t4 :: (.pointer (some ⟨O, 0, none⟩)) :: (.pointer (some ⟨Bx, 0, none⟩)) :: t7 :: t8 :: (.slice b3 i d3) :: (.func (.func 45) #[] #[]) :: (.agg #[.int .u8 x.k, .bool x.b, .slice x.a1 x.n1 x.c1, .slice x.a2 x.n2 x.c2, .int .i32 x.c, .slice x.a3 x.n3 x.c3]) :: (.agg #[.int .u8 y.k, .bool y.b, .slice y.a1 y.n1 y.c1, .slice y.a2 y.n2 y.c2, .int .i32 y.c, .slice y.a3 y.n3 y.c3]) :: (.slice (some ⟨wa.heap.size, 0, none⟩) 1 1) :: (.slice b4 (i + 1) d4) :: t15 :: r).toArray, defers := ds } (w2.setCell ⟨O, 0, none⟩ (.slice b4 (i + 1) d4))) (hc : ∀ N, CallsIn (Fence.wide.inRound l) N Try.prog 45 #[.agg #[.int .u8 x.k, .bool x.b, .slice x.a1 x.n1 x.c1, .slice x.a2 x.n2 x.c2, .int .i32 x.c, .slice x.a3 x.n3 x.c3]] W fun e w2 => ∃ y : IV, e = .returned (.agg #[.int .u8 y.k, .bool y.b, .slice y.a1 y.n1 y.c1, .slice y.a2 y.n2 y.c2, .int .i32 y.c, .slice y.a3 y.n3 y.c3]) ∧ IsIt f (Fr W.heap.size w2.heap.size) w2 y t ∧ Below W.heap.size W w2) :
    wpAnyIn (Fence.wide.inRound l) N Try.prog .any eachT_ops Q 6 #[false, false, true, false, false, false, false] { tmps := (t0 :: t1 :: (.pointer (some ⟨Wk, 0, none⟩)) :: t3 :: t4 :: (.pointer (some ⟨O, 0, none⟩)) :: (.pointer (some ⟨Bx, 0, none⟩)) :: t7 :: t8 :: t9 :: t10 :: (.agg #[.int .u8 x.k, .bool x.b, .slice x.a1 x.n1 x.c1, .slice x.a2 x.n2 x.c2, .int .i32 x.c, .slice x.a3 x.n3 x.c3]) :: t12 :: t13 :: t14 :: t15 :: r).toArray, defers := ds } W := by
  refine wpAnyIn_ready (rs := [0, 1]) (by kernel_rfl) (by simp) ?_
  refine AllReadyIn.cons (o := { dst := some 9, op := Op.load 23 (Operand.tmp 5), type := 23, pos := "array.go:135", after := #[], guard := none }) rfl (fun K hK => ?_) ?_
  · have cO := (show BoxA _ O 23 #[.slice b3 i d3] from BO).cell 0 rfl
    go_simp
    refine hK _ _ ?_
    exact eachT_s21 HO BO BW BX lO lZ hi hQ hc
  refine AllReadyIn.cons (o := { dst := some 10, op := Op.load 51 (Operand.tmp 2), type := 51, pos := "array.go:135", after := #[], guard := none }) rfl (fun K hK => ?_) ?_
  · have cW := BW.cell 0 rfl
    go_simp
    refine hK _ _ ?_
    exact eachT_s30 HO BO BW BX lO lZ hi hQ hc
  exact AllReadyIn.nil

set_option maxRecDepth 100000 in
set_option maxHeartbeats 16000000 in
theorem eachT_s11 (HO : W.ownsRow Z 45 6 (.slice b3 i d3) i xs) (BO : BoxA W O 23 #[.slice b3 i d3]) (BW : BoxA W Wk 51 #[.func (.func 45) #[] #[]]) (BX : BoxA W Bx 45 #[.int .u8 x.k, .bool x.b, .slice x.a1 x.n1 x.c1, .slice x.a2 x.n2 x.c2, .int .i32 x.c, .slice x.a3 x.n3 x.c3]) (lO : O < Z) (lZ : Z ≤ W.heap.size) (hi : (i + 1) * 96 ≤ 140737488355328) (hQ : ∀ (y : IV) (wa : World) (b4 : Option Addr) (d4 : Nat) (w2 : World), IsIt f (Fr W.heap.size wa.heap.size) wa y t → Below W.heap.size W wa → w2.ownsRow Z 45 6 (.slice b4 (i + 1) d4) (i + 1) (xs ++ [.int .u8 y.k, .bool y.b, .slice y.a1 y.n1 y.c1, .slice y.a2 y.n2 y.c2, .int .i32 y.c, .slice y.a3 y.n3 y.c3]) → (wa.alloc (.cells #[.int .u8 y.k, .bool y.b, .slice y.a1 y.n1 y.c1, .slice y.a2 y.n2 y.c2, .int .i32 y.c, .slice y.a3 y.n3 y.c3] 45)).grownBy w2 (Value.slice b3 i d3).ownBlock → ((Value.slice b4 (i + 1) d4).ownBlock = (Value.slice b3 i d3).ownBlock ∨ (Value.slice b4 (i + 1) d4).ownBlock = some (wa.alloc (.cells #[.int .u8 y.k, .bool y.b, .slice y.a1 y.n1 y.c1, .slice y.a2 y.n2 y.c2, .int .i32 y.c, .slice y.a3 y.n3 y.c3] 45)).heap.size) → Q .normal { tmps := (t0 :: t1 :: (.pointer (some ⟨Wk, 0, none⟩)) :: t3 :: t4 :: (.pointer (some ⟨O, 0, none⟩)) :: (.pointer (some ⟨Bx, 0, none⟩)) :: t7 :: t8 :: (.slice b3 i d3) :: (.func (.func 45) #[] #[]) :: (.agg #[.int .u8 x.k, .bool x.b, .slice x.a1 x.n1 x.c1, .slice x.a2 x.n2 x.c2, .int .i32 x.c, .slice x.a3 x.n3 x.c3]) :: (.agg #[.int .u8 y.k, .bool y.b, .slice y.a1 y.n1 y.c1, .slice y.a2 y.n2 y.c2, .int .i32 y.c, .slice y.a3 y.n3 y.c3]) :: (.slice (some ⟨wa.heap.size, 0, none⟩) 1 1) :: (.slice b4 (i + 1) d4) :: t15 :: r).toArray, defers := ds } (w2.setCell ⟨O, 0, none⟩ (.slice b4 (i + 1) d4))) (hc : ∀ N, CallsIn (Fence.wide.inRound l) N Try.prog 45 #[.agg #[.int .u8 x.k, .bool x.b, .slice x.a1 x.n1 x.c1, .slice x.a2 x.n2 x.c2, .int .i32 x.c, .slice x.a3 x.n3 x.c3]] W fun e w2 => ∃ y : IV, e = .returned (.agg #[.int .u8 y.k, .bool y.b, .slice y.a1 y.n1 y.c1, .slice y.a2 y.n2 y.c2, .int .i32 y.c, .slice y.a3 y.n3 y.c3]) ∧ IsIt f (Fr W.heap.size w2.heap.size) w2 y t ∧ Below W.heap.size W w2) :
    wpAnyIn (Fence.wide.inRound l) N Try.prog .any eachT_ops Q 5 #[true, true, false, false, false, false, false] { tmps := (t0 :: t1 :: (.pointer (some ⟨Wk, 0, none⟩)) :: t3 :: t4 :: (.pointer (some ⟨O, 0, none⟩)) :: (.pointer (some ⟨Bx, 0, none⟩)) :: t7 :: t8 :: (.slice b3 i d3) :: (.func (.func 45) #[] #[]) :: t11 :: t12 :: t13 :: t14 :: t15 :: r).toArray, defers := ds } W := by
  refine wpAnyIn_ready (rs := [2]) (by kernel_rfl) (by simp) ?_
  refine AllReadyIn.cons (o := { dst := some 11, op := Op.load 45 (Operand.tmp 6), type := 45, pos := "array.go:135", after := #[], guard := none }) rfl (fun K hK => ?_) ?_
  · have m0 := BX.cell 0 rfl
    have m1 := BX.cell 1 rfl
    have m2 := BX.cell 2 rfl
    have m3 := BX.cell 3 rfl
    have m4 := BX.cell 4 rfl
    have m5 := BX.cell 5 rfl
    go_simp
    refine hK _ _ ?_
    exact eachT_s31 HO BO BW BX lO lZ hi hQ hc
  exact AllReadyIn.nil

set_option maxRecDepth 100000 in
set_option maxHeartbeats 16000000 in
theorem eachT_s10 (HO : W.ownsRow Z 45 6 (.slice b3 i d3) i xs) (BO : BoxA W O 23 #[.slice b3 i d3]) (BW : BoxA W Wk 51 #[.func (.func 45) #[] #[]]) (BX : BoxA W Bx 45 #[.int .u8 x.k, .bool x.b, .slice x.a1 x.n1 x.c1, .slice x.a2 x.n2 x.c2, .int .i32 x.c, .slice x.a3 x.n3 x.c3]) (lO : O < Z) (lZ : Z ≤ W.heap.size) (hi : (i + 1) * 96 ≤ 140737488355328) (hQ : ∀ (y : IV) (wa : World) (b4 : Option Addr) (d4 : Nat) (w2 : World), IsIt f (Fr W.heap.size wa.heap.size) wa y t → Below W.heap.size W wa → w2.ownsRow Z 45 6 (.slice b4 (i + 1) d4) (i + 1) (xs ++ [.int .u8 y.k, .bool y.b, .slice y.a1 y.n1 y.c1, .slice y.a2 y.n2 y.c2, .int .i32 y.c, .slice y.a3 y.n3 y.c3]) → (wa.alloc (.cells #[.int .u8 y.k, .bool y.b, .slice y.a1 y.n1 y.c1, .slice y.a2 y.n2 y.c2, .int .i32 y.c, .slice y.a3 y.n3 y.c3] 45)).grownBy w2 (Value.slice b3 i d3).ownBlock → ((Value.slice b4 (i + 1) d4).ownBlock = (Value.slice b3 i d3).ownBlock ∨ (Value.slice b4 (i + 1) d4).ownBlock = some (wa.alloc (.cells #[.int .u8 y.k, .bool y.b, .slice y.a1 y.n1 y.c1, .slice y.a2 y.n2 y.c2, .int .i32 y.c, .slice y.a3 y.n3 y.c3] 45)).heap.size) → Q .normal { tmps := (t0 :: t1 :: (.pointer (some ⟨Wk, 0, none⟩)) :: t3 :: t4 :: (.pointer (some ⟨O, 0, none⟩)) :: (.pointer (some ⟨Bx, 0, none⟩)) :: t7 :: t8 :: (.slice b3 i d3) :: (.func (.func 45) #[] #[]) :: (.agg #[.int .u8 x.k, .bool x.b, .slice x.a1 x.n1 x.c1, .slice x.a2 x.n2 x.c2, .int .i32 x.c, .slice x.a3 x.n3 x.c3]) :: (.agg #[.int .u8 y.k, .bool y.b, .slice y.a1 y.n1 y.c1, .slice y.a2 y.n2 y.c2, .int .i32 y.c, .slice y.a3 y.n3 y.c3]) :: (.slice (some ⟨wa.heap.size, 0, none⟩) 1 1) :: (.slice b4 (i + 1) d4) :: t15 :: r).toArray, defers := ds } (w2.setCell ⟨O, 0, none⟩ (.slice b4 (i + 1) d4))) (hc : ∀ N, CallsIn (Fence.wide.inRound l) N Try.prog 45 #[.agg #[.int .u8 x.k, .bool x.b, .slice x.a1 x.n1 x.c1, .slice x.a2 x.n2 x.c2, .int .i32 x.c, .slice x.a3 x.n3 x.c3]] W fun e w2 => ∃ y : IV, e = .returned (.agg #[.int .u8 y.k, .bool y.b, .slice y.a1 y.n1 y.c1, .slice y.a2 y.n2 y.c2, .int .i32 y.c, .slice y.a3 y.n3 y.c3]) ∧ IsIt f (Fr W.heap.size w2.heap.size) w2 y t ∧ Below W.heap.size W w2) :
    wpAnyIn (Fence.wide.inRound l) N Try.prog .any eachT_ops Q 6 #[false, true, false, false, false, false, false] { tmps := (t0 :: t1 :: (.pointer (some ⟨Wk, 0, none⟩)) :: t3 :: t4 :: (.pointer (some ⟨O, 0, none⟩)) :: (.pointer (some ⟨Bx, 0, none⟩)) :: t7 :: t8 :: t9 :: (.func (.func 45) #[] #[]) :: t11 :: t12 :: t13 :: t14 :: t15 :: r).toArray, defers := ds } W := by
  refine wpAnyIn_ready (rs := [0, 2]) (by kernel_rfl) (by simp) ?_
  refine AllReadyIn.cons (o := { dst := some 9, op := Op.load 23 (Operand.tmp 5), type := 23, pos := "array.go:135", after := #[], guard := none }) rfl (fun K hK => ?_) ?_
  · have cO := (show BoxA _ O 23 #[.slice b3 i d3] from BO).cell 0 rfl
    go_simp
    refine hK _ _ ?_
    exact eachT_s11 HO BO BW BX lO lZ hi hQ hc
  refine AllReadyIn.cons (o := { dst := some 11, op := Op.load 45 (Operand.tmp 6), type := 45, pos := "array.go:135", after := #[], guard := none }) rfl (fun K hK => ?_) ?_
  · have m0 := BX.cell 0 rfl
    have m1 := BX.cell 1 rfl
    have m2 := BX.cell 2 rfl
    have m3 := BX.cell 3 rfl
    have m4 := BX.cell 4 rfl
    have m5 := BX.cell 5 rfl
    go_simp
    refine hK _ _ ?_
    exact eachT_s30 HO BO BW BX lO lZ hi hQ hc
  exact AllReadyIn.nil

set_option maxRecDepth 100000 in
set_option maxHeartbeats 16000000 in
theorem eachT_s01 (HO : W.ownsRow Z 45 6 (.slice b3 i d3) i xs) (BO : BoxA W O 23 #[.slice b3 i d3]) (BW : BoxA W Wk 51 #[.func (.func 45) #[] #[]]) (BX : BoxA W Bx 45 #[.int .u8 x.k, .bool x.b, .slice x.a1 x.n1 x.c1, .slice x.a2 x.n2 x.c2, .int .i32 x.c, .slice x.a3 x.n3 x.c3]) (lO : O < Z) (lZ : Z ≤ W.heap.size) (hi : (i + 1) * 96 ≤ 140737488355328) (hQ : ∀ (y : IV) (wa : World) (b4 : Option Addr) (d4 : Nat) (w2 : World), IsIt f (Fr W.heap.size wa.heap.size) wa y t → Below W.heap.size W wa → w2.ownsRow Z 45 6 (.slice b4 (i + 1) d4) (i + 1) (xs ++ [.int .u8 y.k, .bool y.b, .slice y.a1 y.n1 y.c1, .slice y.a2 y.n2 y.c2, .int .i32 y.c, .slice y.a3 y.n3 y.c3]) → (wa.alloc (.cells #[.int .u8 y.k, .bool y.b, .slice y.a1 y.n1 y.c1, .slice y.a2 y.n2 y.c2, .int .i32 y.c, .slice y.a3 y.n3 y.c3] 45)).grownBy w2 (Value.slice b3 i d3).ownBlock → ((Value.slice b4 (i + 1) d4).ownBlock = (Value.slice b3 i d3).ownBlock ∨ (Value.slice b4 (i + 1) d4).ownBlock = some (wa.alloc (.cells #[.int .u8 y.k, .bool y.b, .slice y.a1 y.n1 y.c1, .slice y.a2 y.n2 y.c2, .int .i32 y.c, .slice y.a3 y.n3 y.c3] 45)).heap.size) → Q .normal { tmps := (t0 :: t1 :: (.pointer (some ⟨Wk, 0, none⟩)) :: t3 :: t4 :: (.pointer (some ⟨O, 0, none⟩)) :: (.pointer (some ⟨Bx, 0, none⟩)) :: t7 :: t8 :: (.slice b3 i d3) :: (.func (.func 45) #[] #[]) :: (.agg #[.int .u8 x.k, .bool x.b, .slice x.a1 x.n1 x.c1, .slice x.a2 x.n2 x.c2, .int .i32 x.c, .slice x.a3 x.n3 x.c3]) :: (.agg #[.int .u8 y.k, .bool y.b, .slice y.a1 y.n1 y.c1, .slice y.a2 y.n2 y.c2, .int .i32 y.c, .slice y.a3 y.n3 y.c3]) :: (.slice (some ⟨wa.heap.size, 0, none⟩) 1 1) :: (.slice b4 (i + 1) d4) :: t15 :: r).toArray, defers := ds } (w2.setCell ⟨O, 0, none⟩ (.slice b4 (i + 1) d4))) (hc : ∀ N, CallsIn (Fence.wide.inRound l) N Try.prog 45 #[.agg #[.int .u8 x.k, .bool x.b, .slice x.a1 x.n1 x.c1, .slice x.a2 x.n2 x.c2, .int .i32 x.c, .slice x.a3 x.n3 x.c3]] W fun e w2 => ∃ y : IV, e = .returned (.agg #[.int .u8 y.k, .bool y.b, .slice y.a1 y.n1 y.c1, .slice y.a2 y.n2 y.c2, .int .i32 y.c, .slice y.a3 y.n3 y.c3]) ∧ IsIt f (Fr W.heap.size w2.heap.size) w2 y t ∧ Below W.heap.size W w2) :
    wpAnyIn (Fence.wide.inRound l) N Try.prog .any eachT_ops Q 6 #[true, false, false, false, false, false, false] { tmps := (t0 :: t1 :: (.pointer (some ⟨Wk, 0, none⟩)) :: t3 :: t4 :: (.pointer (some ⟨O, 0, none⟩)) :: (.pointer (some ⟨Bx, 0, none⟩)) :: t7 :: t8 :: (.slice b3 i d3) :: t10 :: t11 :: t12 :: t13 :: t14 :: t15 :: r).toArray, defers := ds } W := by
  refine wpAnyIn_ready (rs := [1, 2]) (by kernel_rfl) (by simp) ?_
  refine AllReadyIn.cons (o := { dst := some 10, op := Op.load 51 (Operand.tmp 2), type := 51, pos := "array.go:135", after := #[], guard := none }) rfl (fun K hK => ?_) ?_
  · have cW := BW.cell 0 rfl
    go_simp
    refine hK _ _ ?_
    exact eachT_s11 HO BO BW BX lO lZ hi hQ hc
  refine AllReadyIn.cons (o := { dst := some 11, op := Op.load 45 (Operand.tmp 6), type := 45, pos := "array.go:135", after := #[], guard := none }) rfl (fun K hK => ?_) ?_
  · have m0 := BX.cell 0 rfl
    have m1 := BX.cell 1 rfl
    have m2 := BX.cell 2 rfl
    have m3 := BX.cell 3 rfl
    have m4 := BX.cell 4 rfl
    have m5 := BX.cell 5 rfl
    go_simp
    refine hK _ _ ?_
    exact eachT_s21 HO BO BW BX lO lZ hi hQ hc
  exact AllReadyIn.nil

set_option maxRecDepth 100000 in
set_option maxHeartbeats 16000000 in
theorem eachT_s00 (HO : W.ownsRow Z 45 6 (.slice b3 i d3) i xs) (BO : BoxA W O 23 #[.slice b3 i d3]) (BW : BoxA W Wk 51 #[.func (.func 45) #[] #[]]) (BX : BoxA W Bx 45 #[.int .u8 x.k, .bool x.b, .slice x.a1 x.n1 x.c1, .slice x.a2 x.n2 x.c2, .int .i32 x.c, .slice x.a3 x.n3 x.c3]) (lO : O < Z) (lZ : Z ≤ W.heap.size) (hi : (i + 1) * 96 ≤ 140737488355328) (hQ : ∀ (y : IV) (wa : World) (b4 : Option Addr) (d4 : Nat) (w2 : World), IsIt f (Fr W.heap.size wa.heap.size) wa y t → Below W.heap.size W wa → w2.ownsRow Z 45 6 (.slice b4 (i + 1) d4) (i + 1) (xs ++ [.int .u8 y.k, .bool y.b, .slice y.a1 y.n1 y.c1, .slice y.a2 y.n2 y.c2, .int .i32 y.c, .slice y.a3 y.n3 y.c3]) → (wa.alloc (.cells #[.int .u8 y.k, .bool y.b, .slice y.a1 y.n1 y.c1, .slice y.a2 y.n2 y.c2, .int .i32 y.c, .slice y.a3 y.n3 y.c3] 45)).grownBy w2 (Value.slice b3 i d3).ownBlock → ((Value.slice b4 (i + 1) d4).ownBlock = (Value.slice b3 i d3).ownBlock ∨ (Value.slice b4 (i + 1) d4).ownBlock = some (wa.alloc (.cells #[.int .u8 y.k, .bool y.b, .slice y.a1 y.n1 y.c1, .slice y.a2 y.n2 y.c2, .int .i32 y.c, .slice y.a3 y.n3 y.c3] 45)).heap.size) → Q .normal { tmps := (t0 :: t1 :: (.pointer (some ⟨Wk, 0, none⟩)) :: t3 :: t4 :: (.pointer (some ⟨O, 0, none⟩)) :: (.pointer (some ⟨Bx, 0, none⟩)) :: t7 :: t8 :: (.slice b3 i d3) :: (.func (.func 45) #[] #[]) :: (.agg #[.int .u8 x.k, .bool x.b, .slice x.a1 x.n1 x.c1, .slice x.a2 x.n2 x.c2, .int .i32 x.c, .slice x.a3 x.n3 x.c3]) :: (.agg #[.int .u8 y.k, .bool y.b, .slice y.a1 y.n1 y.c1, .slice y.a2 y.n2 y.c2, .int .i32 y.c, .slice y.a3 y.n3 y.c3]) :: (.slice (some ⟨wa.heap.size, 0, none⟩) 1 1) :: (.slice b4 (i + 1) d4) :: t15 :: r).toArray, defers := ds } (w2.setCell ⟨O, 0, none⟩ (.slice b4 (i + 1) d4))) (hc : ∀ N, CallsIn (Fence.wide.inRound l) N Try.prog 45 #[.agg #[.int .u8 x.k, .bool x.b, .slice x.a1 x.n1 x.c1, .slice x.a2 x.n2 x.c2, .int .i32 x.c, .slice x.a3 x.n3 x.c3]] W fun e w2 => ∃ y : IV, e = .returned (.agg #[.int .u8 y.k, .bool y.b, .slice y.a1 y.n1 y.c1, .slice y.a2 y.n2 y.c2, .int .i32 y.c, .slice y.a3 y.n3 y.c3]) ∧ IsIt f (Fr W.heap.size w2.heap.size) w2 y t ∧ Below W.heap.size W w2) :
    wpAnyIn (Fence.wide.inRound l) N Try.prog .any eachT_ops Q 7 #[false, false, false, false, false, false, false] { tmps := (t0 :: t1 :: (.pointer (some ⟨Wk, 0, none⟩)) :: t3 :: t4 :: (.pointer (some ⟨O, 0, none⟩)) :: (.pointer (some ⟨Bx, 0, none⟩)) :: t7 :: t8 :: t9 :: t10 :: t11 :: t12 :: t13 :: t14 :: t15 :: r).toArray, defers := ds } W := by
  refine wpAnyIn_ready (rs := [0, 1, 2]) (by kernel_rfl) (by simp) ?_
  refine AllReadyIn.cons (o := { dst := some 9, op := Op.load 23 (Operand.tmp 5), type := 23, pos := "array.go:135", after := #[], guard := none }) rfl (fun K hK => ?_) ?_
  · have cO := (show BoxA _ O 23 #[.slice b3 i d3] from BO).cell 0 rfl
    go_simp
    refine hK _ _ ?_
    exact eachT_s01 HO BO BW BX lO lZ hi hQ hc
  refine AllReadyIn.cons (o := { dst := some 10, op := Op.load 51 (Operand.tmp 2), type := 51, pos := "array.go:135", after := #[], guard := none }) rfl (fun K hK => ?_) ?_
  · have cW := BW.cell 0 rfl
    go_simp
    refine hK _ _ ?_
    exact eachT_s10 HO BO BW BX lO lZ hi hQ hc
  refine AllReadyIn.cons (o := { dst := some 11, op := Op.load 45 (Operand.tmp 6), type := 45, pos := "array.go:135", after := #[], guard := none }) rfl (fun K hK => ?_) ?_
  · have m0 := BX.cell 0 rfl
    have m1 := BX.cell 1 rfl
    have m2 := BX.cell 2 rfl
    have m3 := BX.cell 3 rfl
    have m4 := BX.cell 4 rfl
    have m5 := BX.cell 5 rfl
    go_simp
    refine hK _ _ ?_
    exact eachT_s20 HO BO BW BX lO lZ hi hQ hc
  exact AllReadyIn.nil

end
end Go.Proofs.Ytnkaimkdlpieaaa

/- array.each over an iterator of items: a new row. -/
namespace Go.Proofs.Ytnkaimkdlpieaaa
set_option linter.unusedVariables false
set_option linter.unusedSimpArgs false
open Go.RowKit Go.Shelf

attribute [local go_sem] Oper.semAt_some

set_option maxRecDepth 100000 in
set_option maxHeartbeats 6400000 in
theorem eachT_any {w : World} {gf : Nat} {lb : Array Value} {Gd : List IV → IV → World → Prop} {Sx : List IV → World → Prop} {f : Nat} {ts : List Tr}
    (eg : ∀ args w, (callFunc gf args).run Try.prog w = .ok (.enter gf args) w) (hp : Pays Fence.wide 5 Try.prog gf lb IV.encs (KeepW w.heap.size) Gd Sx w) (hS : OwnFrom w.heap.size Sx)
    (hGs : ∀ pre x, OwnFrom w.heap.size (fun (_ : Unit) W => Gd pre x W)) (hGl : ∀ pre x W, Gd pre x W → pre.length < ts.length) (hSl : ∀ xs W, Sx xs W → xs.length = ts.length) (hsz : ts.length * 96 ≤ 140737488355328)
    (hwk : ∀ pre x W, Gd pre x W → Calls Try.prog 45 #[.agg #[.int .u8 x.k, .bool x.b, .slice x.a1 x.n1 x.c1, .slice x.a2 x.n2 x.c2, .int .i32 x.c, .slice x.a3 x.n3 x.c3]] W fun e w' => ∃ y : IV, e = .returned (.agg #[.int .u8 y.k, .bool y.b, .slice y.a1 y.n1 y.c1, .slice y.a2 y.n2 y.c2, .int .i32 y.c, .slice y.a3 y.n3 y.c3]) ∧ IsIt f (Fr W.heap.size w'.heap.size) w' y (ts.getD pre.length tr0) ∧ Below W.heap.size W w') :
    Calls Try.prog 53 #[.func (.func 45) #[] #[], .func (.func gf) #[] lb] w fun e w' => ∃ a c, e = .returned (.slice a ts.length c) ∧ RowB (Fr w.heap.size w'.heap.size) ts.length (.slice a ts.length c) (fun g o j => ItC (ArV f (Fr w.heap.size w'.heap.size) w') (Fr w.heap.size w'.heap.size) w' g (o + j * 6) (ts.getD j tr0)) ∧ Below w.heap.size w w' := by
  have g1 := below_alloc w (.cells #[.func (.func 45) #[] #[]] 51)
  have g2 := below_alloc (w.alloc (.cells #[.func (.func 45) #[] #[]] 51)) (.cells #[.slice none 0 0] 23)
  have BW := (boxA_new w #[.func (.func 45) #[] #[]] 51).below g2 (by simp)
  have BO := boxA_new (w.alloc (.cells #[.func (.func 45) #[] #[]] 51)) #[.slice none 0 0] 23
  rw [World.size_alloc] at BO
  have g : Below w.heap.size w _ := g1.trans (g2.mono (by simp))
  have sW : ((w.alloc (.cells #[.func (.func 45) #[] #[]] 51)).alloc (.cells #[.slice none 0 0] 23)).heap.size = w.heap.size + 1 + 1 := by simp
  clear g1 g2
  refine (callsIn_wide (n := 6)).1 ?_
  refine callsIn_of_wp_marks Try.func53 rfl trivial ?_ rfl
  simp only [Try.ntmps53, List.size_toArray, List.length_cons, List.length_nil, Nat.reduceAdd, Nat.reduceSub, Array.replicate_succ, Array.replicate_zero, List.push_toArray, List.append_toArray, List.nil_append, List.cons_append]
  gi_wp2_with fail
  generalize (w.alloc (.cells #[.func (.func 45) #[] #[]] 51)).alloc (.cells #[.slice none 0 0] 23) = W0 at *
  refine wpIn_range_pays rfl (by omega) (gf := gf) (lb := lb) rfl trivial eg hp (fun h h' => h.trans h') (fun W l o o' hl ho _ hw => keepW_put (B0 := W0.heap.size) (by omega) W l o o' hl ho hw) g (fun _ => rfl)
    (fun pre W => ∃ a c, BoxA W (w.heap.size + 1) 23 #[.slice a pre.length c] ∧ RowOf 45 6 (ElI f ts) (w.heap.size + 1 + 1) W (.slice a pre.length c) pre.length ∧ BoxA W w.heap.size 51 #[.func (.func 45) #[] #[]] ∧ Below w.heap.size w W)
    ?hI ⟨none, 0, BO, RowOf.nil, BW, g⟩ (fun s A B row h hg hrow => hS s A B row h hg (fun k e => ⟨by have := (hrow k e).1; omega, (hrow k e).2⟩))
    (fun pre x a' W => Gd pre x W ∧ ∃ Bx, BoxA W Bx 45 #[.int .u8 x.k, .bool x.b, .slice x.a1 x.n1 x.c1, .slice x.a2 x.n2 x.c2, .int .i32 x.c, .slice x.a3 x.n3 x.c3] ∧ a' = { tmps := #[.func (.func 45) #[] #[], .func (.func gf) #[] lb, .pointer (some ⟨w.heap.size, 0, none⟩), undef, .slice none 0 0, .pointer (some ⟨w.heap.size + 1, 0, none⟩), .pointer (some ⟨Bx, 0, none⟩), .func (.func gf) #[] lb, .agg #[.int .u8 x.k, .bool x.b, .slice x.a1 x.n1 x.c1, .slice x.a2 x.n2 x.c2, .int .i32 x.c, .slice x.a3 x.n3 x.c3], undef, undef, undef, undef, undef, undef, undef], defers := [] })
    ?hAx ?assign ?body ?done
  case hI =>
    rintro s A B row ⟨a, c, b1, b2, b3, b4⟩ hg hrow
    exact ⟨a, c, boxA_kept b1 hg (fun k e => (hrow k e).2), rowI_grown b2 hg (fun k e => (hrow k e).2), boxA_kept b3 hg (fun k e => (hrow k e).2), b4.grown hg b4.size (fun k e => by have := (hrow k e).1; omega)⟩
  case hAx =>
    rintro pre x a' _ A B row ⟨h1, Bx, h3, h4⟩ hg hrow
    exact ⟨hGs pre x () A B row h1 hg (fun k e => ⟨by have := (hrow k e).1; omega, (hrow k e).2⟩), Bx, boxA_kept h3 hg (fun k e => (hrow k e).2), h4⟩
  case assign =>
    rintro l pre x W K ⟨a, c, b1, b2, b3, b4⟩ hG hK
    dsimp only [IV.encs]
    have kx := below_alloc W (.cells #[.int .u8 x.k, .bool x.b, .slice x.a1 x.n1 x.c1, .slice x.a2 x.n2 x.c2, .int .i32 x.c, .slice x.a3 x.n3 x.c3] 45)
    have BX := boxA_new W #[.int .u8 x.k, .bool x.b, .slice x.a1 x.n1 x.c1, .slice x.a2 x.n2 x.c2, .int .i32 x.c, .slice x.a3 x.n3 x.c3] 45
    have hG2 := hGs pre x () W _ none hG (World.grownBy_alloc W (.cells #[.int .u8 x.k, .bool x.b, .slice x.a1 x.n1 x.c1, .slice x.a2 x.n2 x.c2, .int .i32 x.c, .slice x.a3 x.n3 x.c3] 45) none) (fun r e => by cases e)
    have sb := b4.size
    have c1 := b1.below kx b1.lt
    have c3 := b3.below kx b3.lt
    have c2 := b2.below (elI_ok f ts) kx (Nat.le_refl _)
    have c4 := b4.trans (kx.mono sb)
    have hk1 := (KeepsOthers.alloc W (.cells #[.int .u8 x.k, .bool x.b, .slice x.a1 x.n1 x.c1, .slice x.a2 x.n2 x.c2, .int .i32 x.c, .slice x.a3 x.n3 x.c3] 45))
    have hk2 : KeepW w.heap.size W _ := ⟨kx.mono sb, hk1.walks⟩
    clear b1 b2 b3 b4 hG kx
    gi_wp2
    exact hK _ _ (hk1.from _) hk2 ⟨a, c, c1, c2, c3, c4⟩ ⟨hG2, W.heap.size, BX, rfl⟩
  case body =>
    rintro l pre x a' W ⟨a, c, b1, b2, b3, b4⟩ ⟨hG, Bx, bX, rfl⟩
    have sb := b4.size
    have lO := b1.lt
    obtain ⟨xs, ho, he⟩ := b2
    have hl := hGl pre x W hG
    have hG2 : Gd pre x W.drew := hGs pre x () W W.drew none hG ⟨rfl, rfl, rfl, Nat.le_refl _, fun _ _ _ => rfl⟩ (fun r e => by cases e)
    have hlen : (pre ++ [x]).length = pre.length + 1 := by simp
    gi_wp2_with fail
    refine wpIn_region_any (by kernel_rfl) ?_
    refine eachT_s00 (W := W.drew) (f := f) (t := ts.getD pre.length tr0) (Z := w.heap.size + 1 + 1) (xs := xs) (Wk := w.heap.size) (O := w.heap.size + 1) (Bx := Bx) (i := pre.length) (b3 := a) (d3 := c) (x := x) (l := l) ho b1 b3 bX (by omega) (by show _ ≤ W.heap.size; omega) (by omega) ?_ (fun N => CallsIn.inRound l (callsIn_wide.2 (hwk pre x _ hG2)))
    intro y wa b4' d4 w2 hI k hr hgr hvo
    have kb : Below W.heap.size W wa := below_undrew k
    have hrr := row_round (o := 0) (Y := w.heap.size + 1) (B := w.heap.size) (V := w) (wc := W) (u := .slice b4' (pre.length + 1) d4) (elI_ok f ts) ho he (fun _ _ _ => rfl) b4 (by omega) (by omega) (by omega) kb rfl (show ElI f ts _ wa _ pre.length from ⟨y.a1, y.c1, y.a2, y.c2, y.a3, y.c3, ⟨by rw [← hI.k]; rfl, by rw [← hI.b]; rfl, by rw [← hI.n1]; rfl, by rw [← hI.n2]; rfl, by rw [← hI.c]; rfl, by rw [← hI.n3]; rfl⟩, hI.v⟩) hr hgr hvo
    obtain ⟨t1, t2, t3, t4⟩ := hrr
    have BN := boxA_grown ((b1.below kb lO).below (below_alloc wa _) (by have := kb.size; omega)) hgr (fun h => by have := (row_own ho _ h).1; omega)
    have BWN := boxA_o (boxA_grown ((b3.below kb b3.lt).below (below_alloc wa _) (by have := kb.size; have := b3.lt; omega)) hgr (fun h => by have := (row_own ho _ h).1; omega)) (p := ⟨w.heap.size + 1, 0, none⟩) (show w.heap.size + 1 ≠ w.heap.size by omega) (.slice b4' (pre.length + 1) d4)
    have hO1 : KeepsOthers W wa := ⟨kb.size, fun q o hq _ => (kb.block q (Array.getElem?_eq_some_iff.1 hq).1).trans hq⟩
    have hO2 := (hO1.trans (KeepsOthers.alloc wa (.cells #[.int .u8 y.k, .bool y.b, .slice y.a1 y.n1 y.c1, .slice y.a2 y.n2 y.c2, .int .i32 y.c, .slice y.a3 y.n3 y.c3] 45))).trans ((KeepsOthers.of_grownBy hgr (fun j o e ho' => by
      have hz := row_below ho kb (Nat.le_refl _) |>.alloc (.cells #[.int .u8 y.k, .bool y.b, .slice y.a1 y.n1 y.c1, .slice y.a2 y.n2 y.c2, .int .i32 y.c, .slice y.a3 y.n3 y.c3] 45)
      obtain ⟨o', ho2, hc⟩ := row_isC hz j e
      rw [ho'] at ho2; cases ho2; exact hc)).trans (KeepsOthers.setCell w2 ⟨w.heap.size + 1, 0, none⟩ (.slice b4' (pre.length + 1) d4)))
    have kB : Below w.heap.size W (w2.setCell ⟨w.heap.size + 1, 0, none⟩ (.slice b4' (pre.length + 1) d4)) := by
      refine ((((kb.mono (by omega)).trans ((below_alloc wa _).mono (by have := kb.size; omega)))).grown hgr ?_ ?_).setCell (p := ⟨w.heap.size + 1, 0, none⟩) (show w.heap.size ≤ w.heap.size + 1 by omega) _
      · have := kb.size; simp; omega
      · intro q e; have := (row_own ho q e).1; omega
    refine ⟨rfl, hO2.from _, ⟨kB, hO2.walks⟩, b4', d4, ?_, ?_, BWN, t2⟩
    · rw [hlen]; exact boxA_p1 BN _
    · rw [hlen]; exact t1
  case done =>
    rintro D xs W hD hxs ⟨a, c, b1, b2, b3, b4⟩ hK
    have hl := hSl xs W hxs
    rw [hl] at b1 b2
    have cO := b1.cell 0 rfl
    have sb := b4.size
    gi_wp2
    have hDW : D < W.heap.size := (Array.getElem?_eq_some_iff.1 hK).1
    refine ⟨by simp, .inl ⟨_, _, rfl, run_takeDeferred hK, ?_⟩⟩
    have hgp := grownBy_putObj' W D (.deferred none)
    have hr := rowI_grown b2 hgp (fun k e => by cases e; exact ⟨_, hK, rfl⟩)
    refine ⟨.slice a ts.length c, by simp [results, Try.results53, go_sem], a, c, rfl, rowB_I hr (fun q h1 h2 => ⟨by omega, h2⟩), b4.grown hgp sb (fun k e => by cases e; omega)⟩
end Go.Proofs.Ytnkaimkdlpieaaa

/- array.each over the items of an array; array.through. -/
namespace Go.Proofs.Ytnkaimkdlpieaaa
set_option linter.unusedVariables false
set_option linter.unusedSimpArgs false
open Go.RowKit

/-- What the work makes of each item. -/
def WorkT (f : Nat) (D : Nat → Prop) (l l' : List Tr) : Prop := ∀ j x W, j < l.length → IsIt f D W x (l.getD j tr0) → (∀ g, D g → g < W.heap.size) → Calls Try.prog 45 #[.agg #[.int .u8 x.k, .bool x.b, .slice x.a1 x.n1 x.c1, .slice x.a2 x.n2 x.c2, .int .i32 x.c, .slice x.a3 x.n3 x.c3]] W fun e w' => ∃ y : IV, e = .returned (.agg #[.int .u8 y.k, .bool y.b, .slice y.a1 y.n1 y.c1, .slice y.a2 y.n2 y.c2, .int .i32 y.c, .slice y.a3 y.n3 y.c3]) ∧ IsIt f (Fr W.heap.size w'.heap.size) w' y (l'.getD j tr0) ∧ Below W.heap.size W w'
section
variable {w : World} {f : Nat} {D : Nat → Prop} {a2 : Option Addr} {c2 Bn : Nat} {l l' : List Tr}
theorem eachValT (hB : BoxA w Bn 23 #[.slice a2 l.length c2]) (hR : RowB D l.length (.slice a2 l.length c2) (fun g o j => ItC (ArV f D w) D w g (o + j * 6) (l.getD j tr0))) (hD : ∀ g, D g → g < w.heap.size) (hs : l.length * 96 ≤ 140737488355328) (hl : l'.length = l.length) (hwk : WorkT f D l l') :
    Calls Try.prog 53 #[.func (.func 45) #[] #[], .func (.func 79) #[] #[.pointer (some ⟨Bn, 0, none⟩)]] w fun e w' => ∃ a c, e = .returned (.slice a l.length c) ∧ RowB (Fr w.heap.size w'.heap.size) l.length (.slice a l.length c) (fun g o j => ItC (ArV f (Fr w.heap.size w'.heap.size) w') (Fr w.heap.size w'.heap.size) w' g (o + j * 6) (l'.getD j tr0)) ∧ Below w.heap.size w w' := by
  obtain ⟨L, hL, hRL, hI⟩ := row_iv hR
  have hp := values_pays (w := w) (D := D) (a2 := a2) (c2 := c2) (L := L) (Bn := Bn) (n₀ := w.heap.size) 5 (by omega) hB.lt (Nat.le_refl _) (by rw [hL]; exact hB) (by rw [← hL] at hRL; exact hRL) hD
  refine (eachT_any (f := f) (ts := l') (enters_of Try.func79 (by kernel_rfl) rfl) hp ?_ ?_ ?_ ?_ (by omega) ?_).mono ?_
  · rintro s A B row ⟨h1, h2⟩ hg hrow
    exact ⟨h1, h2.grown hg h2.size (fun k e => (hrow k e).1)⟩
  · rintro pre x _ A B row ⟨h1, h2⟩ hg hrow
    exact ⟨h1, h2.grown hg h2.size (fun k e => (hrow k e).1)⟩
  · rintro pre x W ⟨h1, _⟩
    have := (pre_next (d := iv0) h1).1
    omega
  · rintro xs W ⟨h1, _⟩
    rw [h1, hL, hl]
  · rintro pre x W ⟨h1, h2⟩
    obtain ⟨h3, h4⟩ := pre_next (d := iv0) h1
    have hi := (hI pre.length (by omega)).agree (Agree.of h2 hD)
    rw [← h4] at hi
    exact hwk pre.length x W (by omega) hi (fun g hg => Nat.lt_of_lt_of_le (hD g hg) h2.size)
  · rintro e w' ⟨a, c, rfl, h1, h2⟩
    rw [hl] at h1
    exact ⟨a, c, by rw [hl], h1, h2⟩
end
section
variable {w : World} {f : Nat} {D : Nat → Prop} {x1 : Option Addr} {y1 : Nat} {x2 : Option Addr} {y2 : Nat} {t t' : Tr}
set_option maxRecDepth 100000 in
set_option maxHeartbeats 6400000 in
theorem throughT_any (h : ArV (f + 1) D w (.slice x1 t.ns.length y1) (.slice x2 t.kids.length y2) t) (hD : ∀ g, D g → g < w.heap.size) (hs1 : t.ns.length * 8 ≤ 140737488355328) (hs2 : t.kids.length * 96 ≤ 140737488355328) (hns : t'.ns = t.ns) (hkl : t'.kids.length = t.kids.length) (hwk : WorkT f D t.kids t'.kids) :
    Calls Try.prog 44 #[.func (.func 45) #[] #[], .agg #[.slice x1 t.ns.length y1, .slice x2 t.kids.length y2]] w fun e w' => ∃ z1 u1 z2 u2, e = .returned (.agg #[.slice z1 t.ns.length u1, .slice z2 t.kids.length u2]) ∧ ArV (f + 1) (Fr w.heap.size w'.heap.size) w' (.slice z1 t.ns.length u1) (.slice z2 t.kids.length u2) t' ∧ Below w.heap.size w w' := by
  have X0 := boxA_new w #[.slice x1 t.ns.length y1, .slice x2 t.kids.length y2] 25
  have k0 := below_alloc w (.cells #[.slice x1 t.ns.length y1, .slice x2 t.kids.length y2] 25)
  have k1 := below_alloc (w.alloc (.cells #[.slice x1 t.ns.length y1, .slice x2 t.kids.length y2] 25)) (.cells #[.slice none 0 0, .slice none 0 0] 25)
  have R := boxA_new (w.alloc (.cells #[.slice x1 t.ns.length y1, .slice x2 t.kids.length y2] 25)) #[.slice none 0 0, .slice none 0 0] 25
  rw [World.size_alloc] at R
  have X := X0.below k1 (by simp)
  have g : Below w.heap.size w _ := k0.trans (k1.mono (by simp))
  have sv : ((w.alloc (.cells #[.slice x1 t.ns.length y1, .slice x2 t.kids.length y2] 25)).alloc (.cells #[.slice none 0 0, .slice none 0 0] 25)).heap.size = w.heap.size + 1 + 1 := by simp
  have H : Hid (ArV (f + 1) D w (.slice x1 t.ns.length y1) (.slice x2 t.kids.length y2) t) := h
  have HD : Hid (∀ g, D g → g < w.heap.size) := hD
  have HW : Hid (WorkT f D t.kids t'.kids) := hwk
  have HN : Hid (t'.ns = t.ns) := hns
  have HL : Hid (t'.kids.length = t.kids.length) := hkl
  clear h hD hwk hns hkl
  go_enter Try.func44, Try.ntmps44
  go_upto_region 1 with fail
  generalize hA : (w.alloc (.cells #[.slice x1 t.ns.length y1, .slice x2 t.kids.length y2] 25)).alloc (.cells #[.slice none 0 0, .slice none 0 0] 25) = v at *
  clear hA k0 k1 X0
  have lx : w.heap.size < v.heap.size := by omega
  have lr : w.heap.size + 1 < v.heap.size := by omega
  have hcells : ∀ {w' : World}, Below v.heap.size v w' → w'.cell? ⟨w.heap.size, 0, none⟩ = some (.slice x1 t.ns.length y1) ∧ w'.cell? ⟨w.heap.size, 1, none⟩ = some (.slice x2 t.kids.length y2) := fun hb => ⟨(X.below hb lx).cell 0 rfl, (X.below hb lx).cell 1 rfl⟩
  have d0 : Below v.heap.size v v.drew := ⟨rfl, rfl, rfl, Nat.le_refl _, fun _ _ => rfl⟩
  have j0 := hcells d0
  have C0 : ∀ {w' : World}, Below v.heap.size v w' → Calls Try.prog 52 #[.slice x1 t.ns.length y1] w' _ := fun {w'} k => copyInts_any (H.out.1.imp (fun _ h => h) (Agree.of (g.trans (k.mono (by omega))) HD.out)) hs1
  have HC : Hid (∀ {w' : World}, Below v.heap.size v w' → w'.cell? ⟨w.heap.size, 0, none⟩ = some (.slice x1 t.ns.length y1) ∧ w'.cell? ⟨w.heap.size, 1, none⟩ = some (.slice x2 t.kids.length y2)) := hcells
  have K0 : Hid (∀ {w' : World}, Below v.heap.size v w' → Calls Try.prog 52 #[.slice x1 t.ns.length y1] w' _) := C0
  clear hcells C0
  go_region_held3 (fun w' => w'.cell? ⟨w.heap.size, 0, none⟩ = some (.slice x1 t.ns.length y1) ∧ w'.cell? ⟨w.heap.size, 1, none⟩ = some (.slice x2 t.kids.length y2))
    (first | exact j3 | exact j2 | exact j1 | exact j0 | (go_keep; done))
    (first
      | (have p := k2; go_at_call 53; refine (eachValT (f := f) (D := D) (l := t.kids) (l' := t'.kids) (Bn := w1.heap.size) (boxA_new w1 _ _) (RowB.imp H.out.2 (fun _ h => h) (fun g' o j hg hj hc => hc.imp hg (fun _ h => h) (Agree.of (g.trans (k2.mono (by omega))) HD.out) (fun _ _ _ h => h.agree (Agree.of (g.trans (k2.mono (by omega))) HD.out)))) (fun g' hg => by have := HD.out g' hg; have := k2.size; omega) hs2 HL.out HW.out).mono ?_; rintro e w3 ⟨z2, u2, rfl, hr, q3⟩; have k3 : Below v.heap.size v w3 := k2.trans (q3.mono k2.size); have j3 := HC.out k3; have HR : Hid (RowB (Fr (w1.alloc (.cells #[.slice x2 t.kids.length y2] 23)).heap.size w3.heap.size) t.kids.length (.slice z2 t.kids.length u2) (fun g o j => ItC (ArV f (Fr (w1.alloc (.cells #[.slice x2 t.kids.length y2] 23)).heap.size w3.heap.size) w3) (Fr (w1.alloc (.cells #[.slice x2 t.kids.length y2] 23)).heap.size w3.heap.size) w3 g (o + j * 6) (t'.kids.getD j tr0))) := hr; have R3 := R.below k3 lr; have q0 := R3.cell 0 rfl; have q1 := R3.cell 1 rfl; have p0 := R3.frozen 0; have p1 := R3.frozen 1; clear hr)
      | (have p := k1; go_at_call 56; refine (values_any).mono ?_; rintro e w2 ⟨rfl, rfl⟩; have k2 : Below v.heap.size v (w1.alloc (.cells #[.slice x2 t.kids.length y2] 23)) := k1.trans ((below_alloc w1 _).mono k1.size); have j2 := HC.out k2)
      | (go_at_call 52; refine (K0.out d0).mono ?_; rintro e w1 ⟨z1, u1, rfl, hn, q1⟩; have k1 : Below v.heap.size v w1 := d0.trans (q1.mono d0.size); have j1 := HC.out k1; have HNN : Hid (RdN (Fr v.heap.size w1.heap.size) w1 (.slice z1 t.ns.length u1) t.ns) := hn; clear hn))
  all_goals
    go_wp2
    have Rd2 := R3.set2 (.slice z1 t.ns.length u1) (.slice z2 t.kids.length u2)
    have r0 := Rd2.cell 0 rfl
    have r1 := Rd2.cell 1 rfl
    refine bodyPost_ret (v := .agg #[.slice z1 t.ns.length u1, .slice z2 t.kids.length u2]) (by simp [results, Try.results44, go_sem, r0, r1]) rfl ?_
    have s1 := k1.size
    have s3 := q3.size
    rw [World.size_alloc] at s3
    refine ⟨z1, u1, z2, u2, rfl, ?_, Below.set2 (g.trans (k3.mono (by omega))) (by omega) _ _⟩
    have ho : ∀ g', v.heap.size ≤ g' → ((w3.setCell ⟨w.heap.size + 1, 0, none⟩ (.slice z1 t.ns.length u1)).setCell ⟨w.heap.size + 1, 1, none⟩ (.slice z2 t.kids.length u2)).heap[g']? = w3.heap[g']? := fun g' hg => by
      rw [set1_other (by show ¬ w.heap.size + 1 = g'; omega), set1_other (by show ¬ w.heap.size + 1 = g'; omega)]
    refine ⟨?_, ?_⟩
    · rw [HN.out]
      refine HNN.out.imp ?_ ?_
      · rintro g' ⟨q1, q2⟩; exact ⟨by omega, by rw [set1_size, set1_size]; omega⟩
      · rintro g' ⟨q1, q2⟩
        rw [ho g' q1, q3.block g' (by rw [World.size_alloc]; omega), (below_alloc w1 _).block g' q2]
    · rw [HL.out]
      have hag : Agree (Fr (w1.alloc (.cells #[.slice x2 t.kids.length y2] 23)).heap.size w3.heap.size) w3 ((w3.setCell ⟨w.heap.size + 1, 0, none⟩ (.slice z1 t.ns.length u1)).setCell ⟨w.heap.size + 1, 1, none⟩ (.slice z2 t.kids.length u2)) := by
        rintro g' ⟨q1, q2⟩
        rw [World.size_alloc] at q1
        exact ho g' (by omega)
      have hm : ∀ g', Fr (w1.alloc (.cells #[.slice x2 t.kids.length y2] 23)).heap.size w3.heap.size g' → Fr w.heap.size ((w3.setCell ⟨w.heap.size + 1, 0, none⟩ (.slice z1 t.ns.length u1)).setCell ⟨w.heap.size + 1, 1, none⟩ (.slice z2 t.kids.length u2)).heap.size g' := by
        rintro g' ⟨q1, q2⟩
        rw [World.size_alloc] at q1
        exact ⟨by omega, by rw [set1_size, set1_size]; omega⟩
      exact RowB.imp HR.out hm (fun g' o j hg hj hc => hc.imp hg hm hag (fun _ _ _ h => ArV.imp hm hag f f _ _ _ (Nat.le_refl _) h))
end
end Go.Proofs.Ytnkaimkdlpieaaa

/- array.typeOf of any right item, array.Type. -/
namespace Go.Proofs.Ytnkaimkdlpieaaa
set_option linter.unusedVariables false
set_option linter.unusedSimpArgs false
open Go.RowKit

mutual
/-- The type of an item. -/
def tyI : Tr → Tr
  | .mk k _ _ _ _ kids => if k = 3 then .mk 3 false [] [] 0 (tyBox kids) else if k = 2 then charT 32 else wholeT 0
def tyBox : List Tr → List Tr
  | [] => []
  | a :: r => tyArr a :: tyBox r
def tyArr : Tr → Tr
  | .mk k b ns ds c kids => .mk k b ns ds c (tyKids kids)
def tyKids : List Tr → List Tr
  | [] => []
  | x :: r => tyI x :: tyKids r
end
theorem wholeT_form (q : Int) : ∃ b ns ds, wholeT q = .mk 1 b ns ds 0 [] := ⟨_, _, _, rfl⟩
mutual
theorem tyI_idem : ∀ t, tyI (tyI t) = tyI t
  | .mk k b ns ds c kids => by
    by_cases h3 : k = 3
    · have e1 : tyI (.mk k b ns ds c kids) = .mk 3 false [] [] 0 (tyBox kids) := by rw [tyI, if_pos h3]
      rw [e1, tyI, if_pos rfl, tyBox_idem kids]
    · by_cases h2 : k = 2
      · have e1 : tyI (.mk k b ns ds c kids) = charT 32 := by rw [tyI, if_neg h3, if_pos h2]
        rw [e1]
        unfold charT
        rw [tyI, if_neg (by decide), if_pos rfl]
        rfl
      · have e1 : tyI (.mk k b ns ds c kids) = wholeT 0 := by rw [tyI, if_neg h3, if_neg h2]
        rw [e1]
        obtain ⟨b', ns', ds', e⟩ := wholeT_form 0
        rw [e, tyI, if_neg (by decide), if_neg (by decide)]
        exact e
theorem tyBox_idem : ∀ l, tyBox (tyBox l) = tyBox l
  | [] => rfl
  | a :: r => by rw [tyBox, tyBox, tyArr_idem a, tyBox_idem r]
theorem tyArr_idem : ∀ t, tyArr (tyArr t) = tyArr t
  | .mk k b ns ds c kids => by rw [tyArr, tyArr, tyKids_idem kids]
theorem tyKids_idem : ∀ l, tyKids (tyKids l) = tyKids l
  | [] => rfl
  | x :: r => by rw [tyKids, tyKids, tyI_idem x, tyKids_idem r]
end
theorem tyKids_map : ∀ l, tyKids l = l.map tyI
  | [] => rfl
  | x :: r => by rw [tyKids, tyKids_map r]; rfl
theorem tyBox_map : ∀ l, tyBox l = l.map tyArr
  | [] => rfl
  | x :: r => by rw [tyBox, tyBox_map r]; rfl
theorem tyArr_ns (t : Tr) : (tyArr t).ns = t.ns := by cases t; rw [tyArr]; rfl
theorem tyArr_kids (t : Tr) : (tyArr t).kids = t.kids.map tyI := by cases t; rw [tyArr, tyKids_map]; rfl
theorem tyI_3 {t : Tr} (h : t.k = 3) : tyI t = .mk 3 false [] [] 0 (t.kids.map tyArr) := by
  cases t with | mk k b ns ds c kids =>
  have h : k = 3 := h
  rw [tyI, if_pos h, tyBox_map]; rfl
theorem tyI_2 {t : Tr} (h : t.k = 2) : tyI t = charT 32 := by
  cases t with | mk k b ns ds c kids =>
  have h : k = 2 := h
  rw [tyI, if_neg (by omega), if_pos h]
theorem tyI_1 {t : Tr} (h : t.k = 1) : tyI t = wholeT 0 := by
  cases t with | mk k b ns ds c kids =>
  have h : k = 1 := h
  rw [tyI, if_neg (by omega), if_neg (by omega)]
theorem tyI_k {t : Tr} (h : t.k = 1 ∨ t.k = 2 ∨ t.k = 3) : (tyI t).k = t.k := by
  rcases h with h | h | h
  · rw [tyI_1 h, h]; rfl
  · rw [tyI_2 h, h]; rfl
  · rw [tyI_3 h, h]; rfl
theorem map_getD {g : Tr → Tr} {l : List Tr} {j : Nat} (h : j < l.length) : (l.map g).getD j tr0 = g (l.getD j tr0) := by
  rw [List.getD_eq_getElem?_getD, List.getElem?_map, List.getElem?_eq_getElem h, List.getD_eq_getElem?_getD (l := l), List.getElem?_eq_getElem h]
  rfl
theorem measI_k {M : Tr → Option (Int × Int)} {t : Tr} (h : (measI M t).isSome = true) : t.k = 1 ∨ t.k = 2 ∨ t.k = 3 := by
  rcases measI_cases h with ⟨h, _⟩ | ⟨h, _⟩ | ⟨h, _⟩
  · exact Or.inl h
  · exact Or.inr (Or.inl h)
  · exact Or.inr (Or.inr h)
theorem ty_simp {L : Nat} {t : Tr} (h : (measF L t).isSome = true) : simpB (tyArr t) = simpB t := by
  obtain ⟨L', rfl, _, _, _, _, m5⟩ := measF_some h
  unfold simpB
  rw [tyArr_ns, tyArr_kids, List.length_map]
  by_cases h1 : t.kids.length = 1
  · rw [map_getD (by omega), tyI_k (measI_k (m5 _ (getD_mem (by omega))))]
  · simp [h1]
theorem measL_congr {I J : Tr → Option (Int × Int)} {g : Tr → Tr} : ∀ (l : List Tr) (w : Int × Int), (∀ x ∈ l, J (g x) = I x) → measL J (l.map g) w = measL I l w
  | [], _, _ => rfl
  | x :: r, w, h => by
    rw [List.map_cons, measL, measL, h x (by simp)]
    cases I x with
    | none => rfl
    | some p =>
      simp only []
      split
      · rfl
      · exact measL_congr r _ (fun y hy => h y (by simp [hy]))
theorem tyI_meas {M : Tr → Option (Int × Int)} {x : Tr} (hM : ∀ a, (M a).isSome = true → M (tyArr a) = M a) (hS : ∀ a, (M a).isSome = true → simpB (tyArr a) = simpB a) (h : (measI M x).isSome = true) : measI M (tyI x) = measI M x := by
  rcases measI_cases h with ⟨h1, h2, h3, h4⟩ | ⟨h1, h2, h3, h4⟩ | ⟨h1, h2, h3, h4, h5, h6⟩
  · rw [tyI_1 h1, whole_meas M (by omega) (by omega), measI_num h1 ⟨h2, h3, h4⟩]
  · rw [tyI_2 h1, measI_ch h1 ⟨h2, h3, h4⟩]
    exact measI_ch (t := charT 32) rfl ⟨Or.inl ⟨by show (0 : Int) ≤ 32; omega, by show (32 : Int) < 55296; omega⟩, rfl, rfl⟩
  · rw [tyI_3 h1, measI_box h1 ⟨h2, h3, h4, h5⟩]
    have hg : (x.kids.map tyArr).getD 0 tr0 = tyArr (x.kids.getD 0 tr0) := map_getD (by omega)
    rw [measI_box (t := .mk 3 false [] [] 0 (x.kids.map tyArr)) rfl ⟨rfl, rfl, by show (x.kids.map tyArr).length = 1; rw [List.length_map]; exact h4, by show simpB ((x.kids.map tyArr).getD 0 tr0) = false; rw [hg, hS _ h6]; exact h5⟩]
    show M ((x.kids.map tyArr).getD 0 tr0) = _
    rw [hg, hM _ h6]
/-- A type is as deep and as great as what it is of. -/
theorem ty_meas : ∀ (L : Nat) (t : Tr), (measF L t).isSome = true → measF L (tyArr t) = measF L t
  | 0, t, h => by rw [measF] at h; cases h
  | L + 1, t, h => by
    obtain ⟨L', e, _, m2, m3, _, m5⟩ := measF_some h
    obtain rfl : L' = L := by omega
    have hs := ty_simp h
    rw [measF_succ ⟨m2, m3⟩, measF_succ ⟨by rw [tyArr_ns]; exact m2, by rw [tyArr_ns, tyArr_kids, List.length_map]; exact m3⟩]
    rw [tyArr_kids, List.length_map, measL_congr (I := measI (measF L')) t.kids _ (fun x hx => tyI_meas (fun a ha => ty_meas L' a ha) (fun a ha => ty_simp ha) (m5 x hx))]
    unfold finM
    rw [hs]
section
variable {ch : Int} {a1 a2 a3 : Option Addr} {n1 n2 n3 c1 c2 c3 : Nat} {w : World} {b : Bool}
set_option maxRecDepth 100000 in
set_option maxHeartbeats 6400000 in
theorem typeOf_ch : Calls Try.prog 45 #[.agg #[.int .u8 2, .bool b, .slice a1 n1 c1, .slice a2 n2 c2, .int .i32 ch, .slice a3 n3 c3]] w fun e w' => e = .returned (.agg #[.int .u8 2, .bool false, .slice none 0 0, .slice none 0 0, .int .i32 32, .slice none 0 0]) ∧ Below w.heap.size w w' := by
  have X0 := boxA_new w #[.int .u8 2, .bool b, .slice a1 n1 c1, .slice a2 n2 c2, .int .i32 ch, .slice a3 n3 c3] 45
  have k0 := below_alloc w (.cells #[.int .u8 2, .bool b, .slice a1 n1 c1, .slice a2 n2 c2, .int .i32 ch, .slice a3 n3 c3] 45)
  have k1 := below_alloc (w.alloc (.cells #[.int .u8 2, .bool b, .slice a1 n1 c1, .slice a2 n2 c2, .int .i32 ch, .slice a3 n3 c3] 45)) (.cells #[.int .u8 0, .bool false, .slice none 0 0, .slice none 0 0, .int .i32 0, .slice none 0 0] 45)
  have R := boxA_new (w.alloc (.cells #[.int .u8 2, .bool b, .slice a1 n1 c1, .slice a2 n2 c2, .int .i32 ch, .slice a3 n3 c3] 45)) #[.int .u8 0, .bool false, .slice none 0 0, .slice none 0 0, .int .i32 0, .slice none 0 0] 45
  rw [World.size_alloc] at R
  have X := X0.below k1 (by simp)
  have g : Below w.heap.size w _ := k0.trans (k1.mono (by simp))
  have sv : ((w.alloc (.cells #[.int .u8 2, .bool b, .slice a1 n1 c1, .slice a2 n2 c2, .int .i32 ch, .slice a3 n3 c3] 45)).alloc (.cells #[.int .u8 0, .bool false, .slice none 0 0, .slice none 0 0, .int .i32 0, .slice none 0 0] 45)).heap.size = w.heap.size + 1 + 1 := by simp
  have X0' := X.cell 0 rfl
  go_enter Try.func45, Try.ntmps45
  go_wp2_with fail
  generalize hA : (w.alloc (.cells #[.int .u8 2, .bool b, .slice a1 n1 c1, .slice a2 n2 c2, .int .i32 ch, .slice a3 n3 c3] 45)).alloc (.cells #[.int .u8 0, .bool false, .slice none 0 0, .slice none 0 0, .int .i32 0, .slice none 0 0] 45) = v at *
  clear hA k0 k1 X0
  refine (character3_any 32 _).mono ?_
  rintro e w1 ⟨rfl, hw⟩
  have kx := below_alloc v (.cells #[.int .u8 2, .bool false, .slice none 0 0, .slice none 0 0, .int .i32 32, .slice none 0 0] 45)
  rw [← hw] at kx
  clear hw
  have Rc := R.below kx (by omega)
  have q0 := Rc.cell 0 rfl
  have q1 := Rc.cell 1 rfl
  have q2 := Rc.cell 2 rfl
  have q3 := Rc.cell 3 rfl
  have q4 := Rc.cell 4 rfl
  have q5 := Rc.cell 5 rfl
  have p0 := Rc.frozen 0
  have p1 := Rc.frozen 1
  have p2 := Rc.frozen 2
  have p3 := Rc.frozen 3
  have p4 := Rc.frozen 4
  have p5 := Rc.frozen 5
  go_wp2
  have Rd6 := Rc.set6 (.int .u8 2) (.bool false) (.slice none 0 0) (.slice none 0 0) (.int .i32 32) (.slice none 0 0)
  have r0 := Rd6.cell 0 rfl
  have r1 := Rd6.cell 1 rfl
  have r2 := Rd6.cell 2 rfl
  have r3 := Rd6.cell 3 rfl
  have r4 := Rd6.cell 4 rfl
  have r5 := Rd6.cell 5 rfl
  try simp only [Exit.inBlock, Exit.then]
  refine bodyPost_ret (v := .agg #[.int .u8 2, .bool false, .slice none 0 0, .slice none 0 0, .int .i32 32, .slice none 0 0]) ?_ rfl ?_
  · simp [results, Try.results45, go_sem, r0, r1, r2, r3, r4, r5]
  exact ⟨rfl, Below.set6 (g.trans (kx.mono (by omega))) (by omega) _ _ _ _ _ _⟩
set_option maxRecDepth 100000 in
set_option maxHeartbeats 6400000 in
theorem typeOf_num : Calls Try.prog 45 #[.agg #[.int .u8 1, .bool b, .slice a1 n1 c1, .slice a2 n2 c2, .int .i32 ch, .slice a3 n3 c3]] w fun e w' => ∃ bo ns ds z1 u1 z2 u2, Hid (WholeIs 0 bo ns ds) ∧ e = .returned (.agg #[.int .u8 1, .bool bo, .slice z1 ns.length u1, .slice z2 ds.length u2, .int .i32 0, .slice none 0 0]) ∧ Own w.heap.size w' (.slice z1 ns.length u1) ns ∧ Own w.heap.size w' (.slice z2 ds.length u2) ds ∧ Below w.heap.size w w' := by
  have X0 := boxA_new w #[.int .u8 1, .bool b, .slice a1 n1 c1, .slice a2 n2 c2, .int .i32 ch, .slice a3 n3 c3] 45
  have k0 := below_alloc w (.cells #[.int .u8 1, .bool b, .slice a1 n1 c1, .slice a2 n2 c2, .int .i32 ch, .slice a3 n3 c3] 45)
  have k1 := below_alloc (w.alloc (.cells #[.int .u8 1, .bool b, .slice a1 n1 c1, .slice a2 n2 c2, .int .i32 ch, .slice a3 n3 c3] 45)) (.cells #[.int .u8 0, .bool false, .slice none 0 0, .slice none 0 0, .int .i32 0, .slice none 0 0] 45)
  have R := boxA_new (w.alloc (.cells #[.int .u8 1, .bool b, .slice a1 n1 c1, .slice a2 n2 c2, .int .i32 ch, .slice a3 n3 c3] 45)) #[.int .u8 0, .bool false, .slice none 0 0, .slice none 0 0, .int .i32 0, .slice none 0 0] 45
  rw [World.size_alloc] at R
  have X := X0.below k1 (by simp)
  have g : Below w.heap.size w _ := k0.trans (k1.mono (by simp))
  have sv : ((w.alloc (.cells #[.int .u8 1, .bool b, .slice a1 n1 c1, .slice a2 n2 c2, .int .i32 ch, .slice a3 n3 c3] 45)).alloc (.cells #[.int .u8 0, .bool false, .slice none 0 0, .slice none 0 0, .int .i32 0, .slice none 0 0] 45)).heap.size = w.heap.size + 1 + 1 := by simp
  have X0' := X.cell 0 rfl
  go_enter Try.func45, Try.ntmps45
  go_wp2_with fail
  generalize hA : (w.alloc (.cells #[.int .u8 1, .bool b, .slice a1 n1 c1, .slice a2 n2 c2, .int .i32 ch, .slice a3 n3 c3] 45)).alloc (.cells #[.int .u8 0, .bool false, .slice none 0 0, .slice none 0 0, .int .i32 0, .slice none 0 0] 45) = v at *
  clear hA k0 k1 X0
  refine (ofInt_any 0 (by omega) (by omega) _).mono ?_
  rintro e w1 ⟨q1, bo, on, od, o1, o2, o3, o4, HO, rfl, oo, oe⟩
  go_wp2_with fail
  refine number_any.mono ?_
  rintro e w2 ⟨rfl, q2⟩
  have s1 := q1.size
  have kx : Below v.heap.size v w2 := q1.trans (q2.mono s1)
  have v1 := oo.below q2 (Nat.le_refl _)
  have v2 := oe.below q2 (Nat.le_refl _)
  clear oo oe
  have Rc := R.below kx (by omega)
  have q0 := Rc.cell 0 rfl
  have q1' := Rc.cell 1 rfl
  have q2' := Rc.cell 2 rfl
  have q3 := Rc.cell 3 rfl
  have q4 := Rc.cell 4 rfl
  have q5 := Rc.cell 5 rfl
  have p0 := Rc.frozen 0
  have p1 := Rc.frozen 1
  have p2 := Rc.frozen 2
  have p3 := Rc.frozen 3
  have p4 := Rc.frozen 4
  have p5 := Rc.frozen 5
  go_wp2
  have Rd6 := Rc.set6 (.int .u8 1) (.bool bo) (.slice o1 on.length o2) (.slice o3 od.length o4) (.int .i32 0) (.slice none 0 0)
  have r0 := Rd6.cell 0 rfl
  have r1 := Rd6.cell 1 rfl
  have r2 := Rd6.cell 2 rfl
  have r3 := Rd6.cell 3 rfl
  have r4 := Rd6.cell 4 rfl
  have r5 := Rd6.cell 5 rfl
  try simp only [Exit.inBlock, Exit.then]
  refine bodyPost_ret (v := .agg #[.int .u8 1, .bool bo, .slice o1 on.length o2, .slice o3 od.length o4, .int .i32 0, .slice none 0 0]) ?_ rfl ?_
  · simp [results, Try.results45, go_sem, r0, r1, r2, r3, r4, r5]
  refine ⟨bo, on, od, o1, o2, o3, o4, HO, rfl, ?_, ?_, Below.set6 (g.trans (kx.mono (by omega))) (by omega) _ _ _ _ _ _⟩
  · exact (v1.set6 (by omega) _ _ _ _ _ _).mono (by omega)
  · exact (v2.set6 (by omega) _ _ _ _ _ _).mono (by omega)
end
section
variable {f : Nat} {D : Nat → Prop} {w : World} {b : Bool} {a1 a2 : Option Addr} {n1 n2 c1 c2 c3 g3 o3 : Nat} {ch : Int} {x1 : Option Addr} {y1 : Nat} {x2 : Option Addr} {y2 : Nat} {a a' : Tr}
set_option maxRecDepth 100000 in
set_option maxHeartbeats 6400000 in
theorem typeOf_box (hc0 : w.cell? ⟨g3, o3, none⟩ = some (.slice x1 a.ns.length y1)) (hc1 : w.cell? ⟨g3, o3 + 1, none⟩ = some (.slice x2 a.kids.length y2)) (lg : g3 < w.heap.size) (h : ArV (f + 1) D w (.slice x1 a.ns.length y1) (.slice x2 a.kids.length y2) a) (hD : ∀ g, D g → g < w.heap.size) (hs1 : a.ns.length * 8 ≤ 140737488355328) (hs2 : a.kids.length * 96 ≤ 140737488355328) (hns : a'.ns = a.ns) (hkl : a'.kids.length = a.kids.length) (hwk : WorkT f D a.kids a'.kids) :
    Calls Try.prog 45 #[.agg #[.int .u8 3, .bool b, .slice a1 n1 c1, .slice a2 n2 c2, .int .i32 ch, .slice (some ⟨g3, o3, none⟩) 1 c3]] w fun e w' => ∃ k z1 u1 z2 u2 w1, e = .returned (.agg #[.int .u8 3, .bool false, .slice none 0 0, .slice none 0 0, .int .i32 0, .slice (some ⟨k, 0, none⟩) 1 1]) ∧ w.heap.size ≤ k ∧ BoxA w' k 25 #[.slice z1 a.ns.length u1, .slice z2 a.kids.length u2] ∧ ArV (f + 1) (Fr w.heap.size w1.heap.size) w1 (.slice z1 a.ns.length u1) (.slice z2 a.kids.length u2) a' ∧ Below w1.heap.size w1 w' ∧ Below w.heap.size w w' := by
  have X0 := boxA_new w #[.int .u8 3, .bool b, .slice a1 n1 c1, .slice a2 n2 c2, .int .i32 ch, .slice (some ⟨g3, o3, none⟩) 1 c3] 45
  have k0 := below_alloc w (.cells #[.int .u8 3, .bool b, .slice a1 n1 c1, .slice a2 n2 c2, .int .i32 ch, .slice (some ⟨g3, o3, none⟩) 1 c3] 45)
  have k1 := below_alloc (w.alloc (.cells #[.int .u8 3, .bool b, .slice a1 n1 c1, .slice a2 n2 c2, .int .i32 ch, .slice (some ⟨g3, o3, none⟩) 1 c3] 45)) (.cells #[.int .u8 0, .bool false, .slice none 0 0, .slice none 0 0, .int .i32 0, .slice none 0 0] 45)
  have R := boxA_new (w.alloc (.cells #[.int .u8 3, .bool b, .slice a1 n1 c1, .slice a2 n2 c2, .int .i32 ch, .slice (some ⟨g3, o3, none⟩) 1 c3] 45)) #[.int .u8 0, .bool false, .slice none 0 0, .slice none 0 0, .int .i32 0, .slice none 0 0] 45
  rw [World.size_alloc] at R
  have X := X0.below k1 (by simp)
  have g : Below w.heap.size w _ := k0.trans (k1.mono (by simp))
  have sv : ((w.alloc (.cells #[.int .u8 3, .bool b, .slice a1 n1 c1, .slice a2 n2 c2, .int .i32 ch, .slice (some ⟨g3, o3, none⟩) 1 c3] 45)).alloc (.cells #[.int .u8 0, .bool false, .slice none 0 0, .slice none 0 0, .int .i32 0, .slice none 0 0] 45)).heap.size = w.heap.size + 1 + 1 := by simp
  have X0' := X.cell 0 rfl
  have X5 := X.cell 5 rfl
  have e0 := (g.cell (p := ⟨g3, o3, none⟩) lg).trans hc0
  have e1 := (g.cell (p := ⟨g3, o3 + 1, none⟩) lg).trans hc1
  have T := throughT_any (h.agree (Agree.of g hD)) (fun g' hg => by have := hD g' hg; omega) hs1 hs2 hns hkl hwk
  clear h hD hwk hns hkl hc0 hc1
  go_enter Try.func45, Try.ntmps45
  go_wp2_with fail
  generalize hA : (w.alloc (.cells #[.int .u8 3, .bool b, .slice a1 n1 c1, .slice a2 n2 c2, .int .i32 ch, .slice (some ⟨g3, o3, none⟩) 1 c3] 45)).alloc (.cells #[.int .u8 0, .bool false, .slice none 0 0, .slice none 0 0, .int .i32 0, .slice none 0 0] 45) = v at *
  clear hA k0 k1 X0 X0' X5 e0 e1
  refine T.mono ?_
  rintro e w1 ⟨z1, u1, z2, u2, rfl, hv, q1⟩
  clear T
  have HV : Hid (ArV (f + 1) (Fr v.heap.size w1.heap.size) w1 (.slice z1 a.ns.length u1) (.slice z2 a.kids.length u2) a') := hv
  clear hv
  go_wp2_with fail
  refine box_any.mono ?_
  rintro e w2 ⟨k, rfl, hk, hB, q2⟩
  have s1 := q1.size
  have kx : Below v.heap.size v w2 := q1.trans (q2.mono s1)
  have Rc := R.below kx (by omega)
  have q0 := Rc.cell 0 rfl
  have q1' := Rc.cell 1 rfl
  have q2' := Rc.cell 2 rfl
  have q3 := Rc.cell 3 rfl
  have q4 := Rc.cell 4 rfl
  have q5 := Rc.cell 5 rfl
  have p0 := Rc.frozen 0
  have p1 := Rc.frozen 1
  have p2 := Rc.frozen 2
  have p3 := Rc.frozen 3
  have p4 := Rc.frozen 4
  have p5 := Rc.frozen 5
  go_wp2
  have Rd6 := Rc.set6 (.int .u8 3) (.bool false) (.slice none 0 0) (.slice none 0 0) (.int .i32 0) (.slice (some ⟨k, 0, none⟩) 1 1)
  have r0 := Rd6.cell 0 rfl
  have r1 := Rd6.cell 1 rfl
  have r2 := Rd6.cell 2 rfl
  have r3 := Rd6.cell 3 rfl
  have r4 := Rd6.cell 4 rfl
  have r5 := Rd6.cell 5 rfl
  try simp only [Exit.inBlock, Exit.then]
  refine bodyPost_ret (v := .agg #[.int .u8 3, .bool false, .slice none 0 0, .slice none 0 0, .int .i32 0, .slice (some ⟨k, 0, none⟩) 1 1]) ?_ rfl ?_
  · simp [results, Try.results45, go_sem, r0, r1, r2, r3, r4, r5]
  have hne : w.heap.size + 1 ≠ k := by omega
  refine ⟨k, z1, u1, z2, u2, (((((w1.setCell ⟨w.heap.size + 1, 0, none⟩ (.int .u8 3)).setCell ⟨w.heap.size + 1, 1, none⟩ (.bool false)).setCell ⟨w.heap.size + 1, 2, none⟩ (.slice none 0 0)).setCell ⟨w.heap.size + 1, 3, none⟩ (.slice none 0 0)).setCell ⟨w.heap.size + 1, 4, none⟩ (.int .i32 0)).setCell ⟨w.heap.size + 1, 5, none⟩ (.slice (some ⟨k, 0, none⟩) 1 1), rfl, by omega, ?_, ?_, ?_, Below.set6 (g.trans (kx.mono (by omega))) (by omega) _ _ _ _ _ _⟩
  · exact boxA_o6 hB hne _ _ _ _ _ _
  · refine ArV.imp ?_ ?_ (f + 1) (f + 1) _ _ _ (Nat.le_refl _) HV.out
    · rintro g' ⟨h1, h2⟩; exact ⟨by omega, by rw [set6_size]; exact h2⟩
    · rintro g' ⟨h1, h2⟩; exact set6_other (by omega) _ _ _ _ _ _
  · exact below_both6 q2 _ _ _ _ _ _
end
/-- array.typeOf of a right item: its type, in blocks of its own. -/
theorem typeOf_all : ∀ (f L : Nat) (D : Nat → Prop) (W : World) (x : IV) (t : Tr), (∀ g, D g → g < W.heap.size) → IsIt f D W x t → (measI (measF L) t).isSome = true →
    Calls Try.prog 45 #[.agg #[.int .u8 x.k, .bool x.b, .slice x.a1 x.n1 x.c1, .slice x.a2 x.n2 x.c2, .int .i32 x.c, .slice x.a3 x.n3 x.c3]] W fun e w' => ∃ y : IV, e = .returned (.agg #[.int .u8 y.k, .bool y.b, .slice y.a1 y.n1 y.c1, .slice y.a2 y.n2 y.c2, .int .i32 y.c, .slice y.a3 y.n3 y.c3]) ∧ IsIt f (Fr W.heap.size w'.heap.size) w' y (tyI t) ∧ Below W.heap.size W w' := by
  intro f
  induction f with
  | zero =>
    intro L D W x t hD hx hm
    rcases measI_cases hm with ⟨h1, h2, h3, h4⟩ | ⟨h1, h2, h3, h4⟩ | ⟨h1, h2, h3, h4, h5, h6⟩
    · have e1 := hx.k
      rw [h1] at e1
      rw [e1, tyI_1 h1]
      refine typeOf_num.mono ?_
      rintro e w' ⟨bo, ns, ds, z1, u1, z2, u2, HO, rfl, o1, o2, k⟩
      rw [← wholeIs_eq (by omega) (by omega) HO.out]
      exact ⟨⟨1, bo, z1, ns.length, u1, z2, ds.length, u2, 0, none, 0, 0⟩, rfl, isIt_num (t := numT bo ns ds) rfl rfl rfl o1 o2, k⟩
    · have e1 := hx.k
      rw [h1] at e1
      rw [e1, tyI_2 h1]
      refine typeOf_ch.mono ?_
      rintro e w' ⟨rfl, k⟩
      exact ⟨⟨2, false, none, 0, 0, none, 0, 0, 32, none, 0, 0⟩, rfl, isIt_ch (t := charT 32) rfl rfl rfl rfl rfl, k⟩
    · exfalso
      obtain ⟨g1, o1, _, _, hc⟩ := hx.v.bx.ptr (by omega)
      obtain ⟨_, _, _, _, _, _, _, _, hv⟩ := hc 0 (by omega)
      exact hv.elim
  | succ f ih =>
    intro L D W x t hD hx hm
    rcases measI_cases hm with ⟨h1, h2, h3, h4⟩ | ⟨h1, h2, h3, h4⟩ | ⟨h1, h2, h3, h4, h5, h6⟩
    · have e1 := hx.k
      rw [h1] at e1
      rw [e1, tyI_1 h1]
      refine typeOf_num.mono ?_
      rintro e w' ⟨bo, ns, ds, z1, u1, z2, u2, HO, rfl, o1, o2, k⟩
      rw [← wholeIs_eq (by omega) (by omega) HO.out]
      exact ⟨⟨1, bo, z1, ns.length, u1, z2, ds.length, u2, 0, none, 0, 0⟩, rfl, isIt_num (t := numT bo ns ds) rfl rfl rfl o1 o2, k⟩
    · have e1 := hx.k
      rw [h1] at e1
      rw [e1, tyI_2 h1]
      refine typeOf_ch.mono ?_
      rintro e w' ⟨rfl, k⟩
      exact ⟨⟨2, false, none, 0, 0, none, 0, 0, 32, none, 0, 0⟩, rfl, isIt_ch (t := charT 32) rfl rfl rfl rfl rfl, k⟩
    · have e1 := hx.k; have e6 := hx.n3
      rw [h1] at e1
      rw [h4] at e6
      obtain ⟨g1, o1, ea, hg1, hc⟩ := hx.v.bx.ptr (by omega)
      obtain ⟨p1, m1, r1, p2, m2, r2, c1, c2, hv⟩ := hc 0 (by omega)
      rw [Nat.zero_mul, Nat.add_zero] at c1 c2
      obtain ⟨L', rfl, s1, s2, s3, s4, s5⟩ := measF_some h6
      have hty : tyI t = .mk 3 false [] [] 0 [tyArr (t.kids.getD 0 tr0)] := by
        rw [tyI_3 h1]
        obtain ⟨a, ha⟩ := List.length_eq_one_iff.1 h4
        rw [ha]; rfl
      rw [hty]
      generalize ha : t.kids.getD 0 tr0 = a at *
      obtain rfl := hv.1.len
      obtain rfl := hv.2.len
      rw [e1, e6, ea]
      refine (typeOf_box (f := f) (D := D) (a := a) (a' := tyArr a) c1 c2 (hD g1 hg1) hv hD (by omega) (by omega) (tyArr_ns a) (by rw [tyArr_kids, List.length_map]) ?_).mono ?_
      · intro j y W2 hj hy hD2
        rw [tyArr_kids, map_getD hj]
        exact ih L' D W2 y _ hD2 hy (s5 _ (getD_mem hj))
      · rintro e w' ⟨k, z1, u1, z2, u2, w1, rfl, hk, hB, hV, kb, kw⟩
        exact ⟨⟨3, false, none, 0, 0, none, 0, 0, 0, some ⟨k, 0, none⟩, 1, 1⟩, rfl, isIt_box (t := .mk 3 false [] [] 0 [tyArr a]) (a := tyArr a) rfl rfl rfl rfl rfl rfl rfl hk hB hV kb, kw⟩
/-- Items whose types are made. -/
theorem workT {f : Nat} {D : Nat → Prop} {l : List Tr} {L : Nat} (h : ∀ t ∈ l, (measI (measF L) t).isSome = true) : WorkT f D l (l.map tyI) := fun j x W hj hx hD => by
  rw [map_getD hj]
  exact typeOf_all f L D W x _ hD hx (h _ (getD_mem hj))
section
variable {D : Nat → Prop} {f : Nat} {W : World} {x1 : Option Addr} {n1 y1 : Nat} {x2 : Option Addr} {n2 y2 : Nat} {t : Tr}
set_option maxRecDepth 100000 in
set_option maxHeartbeats 6400000 in
theorem type_right (hD : ∀ g, D g → g < W.heap.size) (h : ArV (f + 1) D W (.slice x1 n1 y1) (.slice x2 n2 y2) t) (hR : (measF 16 t).isSome = true) :
    Calls Try.prog 24 #[.agg #[.slice x1 n1 y1, .slice x2 n2 y2]] W fun e w' => ∃ z1 m1 u1 z2 m2 u2, e = .returned (.agg #[.slice z1 m1 u1, .slice z2 m2 u2]) ∧ ArV (f + 1) (Fr W.heap.size w'.heap.size) w' (.slice z1 m1 u1) (.slice z2 m2 u2) (tyArr t) ∧ Below W.heap.size W w' := by
  obtain rfl := h.1.len
  obtain rfl := h.2.len
  have k0 := below_alloc W (.cells #[.slice x1 t.ns.length y1, .slice x2 t.kids.length y2] 25)
  have X0 := boxA_new W #[.slice x1 t.ns.length y1, .slice x2 t.kids.length y2] 25
  have k1 := below_alloc (W.alloc (.cells #[.slice x1 t.ns.length y1, .slice x2 t.kids.length y2] 25)) (.cells #[.slice none 0 0, .slice none 0 0] 25)
  have R := boxA_new (W.alloc (.cells #[.slice x1 t.ns.length y1, .slice x2 t.kids.length y2] 25)) #[.slice none 0 0, .slice none 0 0] 25
  rw [World.size_alloc] at R
  have X := X0.below k1 (by simp)
  have g : Below W.heap.size W _ := k0.trans (k1.mono (by simp))
  have sv : ((W.alloc (.cells #[.slice x1 t.ns.length y1, .slice x2 t.kids.length y2] 25)).alloc (.cells #[.slice none 0 0, .slice none 0 0] 25)).heap.size = W.heap.size + 1 + 1 := by simp
  have z0 := X.cell 0 rfl
  have z1 := X.cell 1 rfl
  have H : Hid (ArV (f + 1) D W (.slice x1 t.ns.length y1) (.slice x2 t.kids.length y2) t) := h
  have HD : Hid (∀ g, D g → g < W.heap.size) := hD
  obtain ⟨L', hL', m1, m2, m3, m4, m5⟩ := measF_some hR
  have HW : Hid (WorkT f D t.kids (tyArr t).kids) := by unfold Hid; rw [tyArr_kids]; exact workT m5
  have hs1 : t.ns.length * 8 ≤ 140737488355328 := by omega
  have hs2 : t.kids.length * 96 ≤ 140737488355328 := by omega
  have HR : Hid ((measF 16 t).isSome = true) := hR
  clear h hD hR m1 m2 m3 m4 m5 hL'
  go_enter Try.func24, Try.ntmps24
  go_wp2_with fail
  generalize hA : (W.alloc (.cells #[.slice x1 t.ns.length y1, .slice x2 t.kids.length y2] 25)).alloc (.cells #[.slice none 0 0, .slice none 0 0] 25) = v at *
  clear hA k0 k1 X0
  refine (right3_any (fun g' hg => by have := HD.out g' hg; omega) (H.out.agree (Agree.of g HD.out))).mono ?_
  rintro e w1 ⟨rfl, q1⟩
  rw [HR.out]
  have X1 := X.below q1 (by omega)
  have k1 : Below W.heap.size W w1 := g.trans (q1.mono (by omega))
  have s1 := q1.size
  have v0 := X1.cell 0 rfl
  have v1 := X1.cell 1 rfl
  clear z0 z1
  have T := throughT_any (t' := tyArr t) (H.out.agree (Agree.of k1 HD.out)) (fun g' hg => by have := HD.out g' hg; omega) hs1 hs2 (tyArr_ns t) (by rw [tyArr_kids, List.length_map]) HW.out
  go_wp2_with fail
  refine T.mono ?_
  rintro e w3 ⟨z1, p1, z2, p2, rfl, hv, q3⟩
  clear T
  have HV : Hid (ArV (f + 1) (Fr w1.heap.size w3.heap.size) w3 (.slice z1 t.ns.length p1) (.slice z2 t.kids.length p2) (tyArr t)) := hv
  clear hv
  have s3 := q3.size
  have kx : Below v.heap.size v w3 := q1.trans (q3.mono s1)
  have Rc := R.below kx (by omega)
  have q0 := Rc.cell 0 rfl
  have q1' := Rc.cell 1 rfl
  have f0 := Rc.frozen 0
  have f1 := Rc.frozen 1
  go_wp2
  have R4 := Rc.set2 (.slice z1 t.ns.length p1) (.slice z2 t.kids.length p2)
  have r0 := R4.cell 0 rfl
  have r1 := R4.cell 1 rfl
  refine bodyPost_ret (v := .agg #[.slice z1 t.ns.length p1, .slice z2 t.kids.length p2]) (by simp [results, Try.results24, go_sem, r0, r1]) rfl ?_
  refine ⟨z1, _, p1, z2, _, p2, rfl, ?_, Below.set2 (g.trans (kx.mono (by omega))) (by omega) _ _⟩
  refine ArV.imp ?_ ?_ (f + 1) (f + 1) _ _ _ (Nat.le_refl _) HV.out
  · rintro q ⟨h1, h2⟩; exact ⟨by omega, by rw [set1_size, set1_size]; omega⟩
  · rintro q ⟨h1, h2⟩; rw [set1_other (by show ¬ W.heap.size + 1 = q; omega), set1_other (by show ¬ W.heap.size + 1 = q; omega)]
end
end Go.Proofs.Ytnkaimkdlpieaaa

/- array.same, Match of two arrays that are the same. -/
namespace Go.Proofs.Ytnkaimkdlpieaaa
set_option linter.unusedVariables false
set_option linter.unusedSimpArgs false
open Go.RowKit

set_option maxHeartbeats 1600000 in
theorem equalN_walk (b1 o1 c1 b2 o2 c2 n : Nat) (xs : List Int) (w : World) (hb : n ≤ 9223372036854775807)
    (k1 : ∀ j, j < n → w.cell? ⟨b1, o1 + j, none⟩ = some (.int .i64 (xs.getD j 0)))
    (k2 : ∀ j, j < n → w.cell? ⟨b2, o2 + j, none⟩ = some (.int .i64 (xs.getD j 0))) :
    Calls Try.prog 70 #[.slice (some ⟨b1, o1, none⟩) n c1, .slice (some ⟨b2, o2, none⟩) n c2] w fun e w' => e = .returned (.bool true) ∧ ∃ q, w' = w.drewN q := by
  have K1 : Hid (∀ j, j < n → w.cell? ⟨b1, o1 + j, none⟩ = some (.int .i64 (xs.getD j 0))) := k1
  have K2 : Hid (∀ j, j < n → w.cell? ⟨b2, o2 + j, none⟩ = some (.int .i64 (xs.getD j 0))) := k2
  clear k1 k2
  go_enter Try.func70, Try.ntmps70
  go_wp2
  go_loopw [13] (fun s wr => (∃ q, wr = w.drewN q) ∧ ∃ j : Nat, j ≤ n ∧ s = .int .i64 j) (fun s _ => n - (intOf s).toNat)
  case atStart => exact ⟨⟨0, rfl⟩, 0, Nat.zero_le _, rfl⟩
  case round =>
    obtain ⟨⟨q, rfl⟩, j, hj, rfl⟩ := hrel
    by_cases hlt : j < n
    · have g1 := K1.out j hlt
      have g2 := K2.out j hlt
      generalize xs.getD j 0 = p at *
      go_wp2
      go_quiet (fail)
      go_wp2
      go_roundw
      case rel => exact ⟨⟨_, rfl⟩, j + 1, by omega, by go_num⟩
      case measure => simp [intOf]; omega
    · go_wp2
      go_ret
      exact ⟨rfl, _, rfl⟩
theorem equalN_rd {D D' : Nat → Prop} {w : World} {v1 v2 : Value} {xs : List Int} (h1 : RdN D w v1 xs) (h2 : RdN D' w v2 xs) :
    Calls Try.prog 70 #[v1, v2] w fun e w' => e = .returned (.bool true) ∧ Below w.heap.size w w' := by
  obtain ⟨_, a1, c1, rfl, i1, j1, _, f1⟩ := h1
  obtain ⟨_, a2, c2, rfl, i2, j2, _, f2⟩ := h2
  by_cases h0 : xs.length = 0
  · rw [h0]
    refine (equal_shape a1 a2 c1 c2 w).mono ?_
    rintro e w' ⟨rfl, rfl⟩
    exact ⟨rfl, Below.refl _ _⟩
  · rcases f1 with f1 | ⟨b1, o1, rfl, _, k1⟩
    · exact absurd f1 h0
    rcases f2 with f2 | ⟨b2, o2, rfl, _, k2⟩
    · exact absurd f2 h0
    refine (equalN_walk b1 o1 c1 b2 o2 c2 xs.length xs w (by omega) k1 k2).mono ?_
    rintro e w' ⟨rfl, q, rfl⟩
    exact ⟨rfl, below_drewN' (Below.refl _ _) q⟩
/-- array.same of two arrays that are the same tree. -/
def SmeOK (f : Nat) : Prop := ∀ (L : Nat) (D : Nat → Prop) (W : World) (x1 : Option Addr) (n1 y1 : Nat) (x2 : Option Addr) (n2 y2 : Nat) (x3 : Option Addr) (n3 y3 : Nat) (x4 : Option Addr) (n4 y4 : Nat) (t : Tr), (∀ g, D g → g < W.heap.size) → ArV f D W (.slice x1 n1 y1) (.slice x2 n2 y2) t → ArV f D W (.slice x3 n3 y3) (.slice x4 n4 y4) t → (measF L t).isSome = true →
  Calls Try.prog 46 #[.agg #[.slice x1 n1 y1, .slice x2 n2 y2], .agg #[.slice x3 n3 y3, .slice x4 n4 y4]] W fun e w' => e = .returned (.bool true) ∧ Below W.heap.size W w'
section
variable {D : Nat → Prop} {f L : Nat} {w : World} {x y : IV} {t : Tr}
set_option maxRecDepth 100000 in
set_option maxHeartbeats 16000000 in
theorem sameItemA (hC : SmeOK f) (hD : ∀ g, D g → g < w.heap.size) (hx : IsIt f D w x t) (hy : IsIt f D w y t) (hm : (measI (measF L) t).isSome = true) :
    Calls Try.prog 72 #[.agg #[.int .u8 x.k, .bool x.b, .slice x.a1 x.n1 x.c1, .slice x.a2 x.n2 x.c2, .int .i32 x.c, .slice x.a3 x.n3 x.c3], .agg #[.int .u8 y.k, .bool y.b, .slice y.a1 y.n1 y.c1, .slice y.a2 y.n2 y.c2, .int .i32 y.c, .slice y.a3 y.n3 y.c3]] w fun e w' => e = .returned (.bool true) ∧ Below w.heap.size w w' := by
  have X0 := boxA_new w #[.int .u8 x.k, .bool x.b, .slice x.a1 x.n1 x.c1, .slice x.a2 x.n2 x.c2, .int .i32 x.c, .slice x.a3 x.n3 x.c3] 45
  have k0 := below_alloc w (.cells #[.int .u8 x.k, .bool x.b, .slice x.a1 x.n1 x.c1, .slice x.a2 x.n2 x.c2, .int .i32 x.c, .slice x.a3 x.n3 x.c3] 45)
  have k1 := below_alloc (w.alloc (.cells #[.int .u8 x.k, .bool x.b, .slice x.a1 x.n1 x.c1, .slice x.a2 x.n2 x.c2, .int .i32 x.c, .slice x.a3 x.n3 x.c3] 45)) (.cells #[.int .u8 y.k, .bool y.b, .slice y.a1 y.n1 y.c1, .slice y.a2 y.n2 y.c2, .int .i32 y.c, .slice y.a3 y.n3 y.c3] 45)
  have Y := boxA_new (w.alloc (.cells #[.int .u8 x.k, .bool x.b, .slice x.a1 x.n1 x.c1, .slice x.a2 x.n2 x.c2, .int .i32 x.c, .slice x.a3 x.n3 x.c3] 45)) #[.int .u8 y.k, .bool y.b, .slice y.a1 y.n1 y.c1, .slice y.a2 y.n2 y.c2, .int .i32 y.c, .slice y.a3 y.n3 y.c3] 45
  rw [World.size_alloc] at Y
  have X := X0.below k1 (by simp)
  have g : Below w.heap.size w _ := k0.trans (k1.mono (by simp))
  have sv : ((w.alloc (.cells #[.int .u8 x.k, .bool x.b, .slice x.a1 x.n1 x.c1, .slice x.a2 x.n2 x.c2, .int .i32 x.c, .slice x.a3 x.n3 x.c3] 45)).alloc (.cells #[.int .u8 y.k, .bool y.b, .slice y.a1 y.n1 y.c1, .slice y.a2 y.n2 y.c2, .int .i32 y.c, .slice y.a3 y.n3 y.c3] 45)).heap.size = w.heap.size + 1 + 1 := by simp
  have hx2 := hx.agree (Agree.of g hD)
  have hy2 := hy.agree (Agree.of g hD)
  have hD2 : ∀ g', D g' → g' < ((w.alloc (.cells #[.int .u8 x.k, .bool x.b, .slice x.a1 x.n1 x.c1, .slice x.a2 x.n2 x.c2, .int .i32 x.c, .slice x.a3 x.n3 x.c3] 45)).alloc (.cells #[.int .u8 y.k, .bool y.b, .slice y.a1 y.n1 y.c1, .slice y.a2 y.n2 y.c2, .int .i32 y.c, .slice y.a3 y.n3 y.c3] 45)).heap.size := fun g' hg => by have := hD g' hg; omega
  have e1 := hx.k
  have e2 := hy.k
  have X0' := X.cell 0 rfl
  have Y0' := Y.cell 0 rfl
  rcases measI_cases hm with ⟨h1, h2, h3, h4⟩ | ⟨h1, h2, h3, h4⟩ | ⟨h1, h2, h3, h4, h5, h6⟩
  · have hb : (x.b == y.b) = true := by rw [hx.b, hy.b]; simp
    have r1 := hx2.v.rn.rd hD2
    have r2 := hx2.v.rd.rd hD2
    have r3 := hy2.v.rn.rd hD2
    have r4 := hy2.v.rd.rd hD2
    rw [← hx.n1] at r1
    rw [← hx.n2] at r2
    rw [← hy.n1] at r3
    rw [← hy.n2] at r4
    have X1 := X.cell 1 rfl
    have X2 := X.cell 2 rfl
    have X3 := X.cell 3 rfl
    have Y1 := Y.cell 1 rfl
    have Y2 := Y.cell 2 rfl
    have Y3 := Y.cell 3 rfl
    rw [h1] at e1 e2
    obtain ⟨ns, hns⟩ : ∃ ns, t.ns = ns := ⟨_, rfl⟩
    obtain ⟨ds, hds⟩ : ∃ ds, t.ds = ds := ⟨_, rfl⟩
    rw [hns] at r1 r3
    rw [hds] at r2 r4
    have H1 : Hid (Rd _ _ (.slice x.a1 x.n1 x.c1) ns) := r1
    have H2 : Hid (Rd _ _ (.slice x.a2 x.n2 x.c2) ds) := r2
    have H3 : Hid (Rd _ _ (.slice y.a1 y.n1 y.c1) ns) := r3
    have H4 : Hid (Rd _ _ (.slice y.a2 y.n2 y.c2) ds) := r4
    obtain ⟨xk, xb, xa1, xn1, xc1, xa2, xn2, xc2, xc, xa3, xn3, xc3⟩ := x
    obtain ⟨yk, yb, ya1, yn1, yc1, ya2, yn2, yc2, yc, ya3, yn3, yc3⟩ := y
    simp only [] at e1 e2 hb
    subst e1
    subst e2
    clear hx hy hx2 hy2 hm r1 r2 r3 r4 hns hds h1 h2 h3 h4
    go_enter Try.func72, Try.ntmps72
    go_wp2_with fail
    clear X0' Y0' X1 X2 X3 Y1 Y2 Y3
    refine (equal_rd H1.out H3.out).mono ?_
    rintro e w1 ⟨rfl, j1⟩
    have s1 := j1.size
    have X3 := (X.below j1 (by omega)).cell 3 rfl
    have Y3 := (Y.below j1 (by omega)).cell 3 rfl
    go_wp2_with fail
    refine (equal_rd (H2.out.below j1) (H4.out.below j1)).mono ?_
    rintro e w2 ⟨rfl, j2⟩
    go_wp2
    go_ret
    exact ⟨rfl, (g.trans (j1.mono g.size)).trans (j2.mono (by omega))⟩
  · have hc : (x.c == y.c) = true := by rw [hx.c, hy.c]; simp
    have X4 := X.cell 4 rfl
    have Y4 := Y.cell 4 rfl
    rw [h1] at e1 e2
    obtain ⟨xk, xb, xa1, xn1, xc1, xa2, xn2, xc2, xc, xa3, xn3, xc3⟩ := x
    obtain ⟨yk, yb, ya1, yn1, yc1, ya2, yn2, yc2, yc, ya3, yn3, yc3⟩ := y
    simp only [] at e1 e2 hc
    subst e1
    subst e2
    clear hx hy hx2 hy2 hm
    go_enter Try.func72, Try.ntmps72
    go_wp2
    go_ret
    exact ⟨rfl, g⟩
  · have e5 := hx.n3
    have e6 := hy.n3
    rw [h4] at e5 e6
    obtain ⟨g1, o1, ea, hg1, hc1⟩ := hx2.v.bx.ptr (by omega)
    obtain ⟨p1, m1, r1, p2, m2, r2, c1, c2, hv⟩ := hc1 0 (by omega)
    rw [Nat.zero_mul, Nat.add_zero] at c1 c2
    obtain ⟨g2, o2, eb, hg2, hc2⟩ := hy2.v.bx.ptr (by omega)
    obtain ⟨p3, m3, r3, p4, m4, r4, c3, c4, hv2⟩ := hc2 0 (by omega)
    rw [Nat.zero_mul, Nat.add_zero] at c3 c4
    have lg1 := hD g1 hg1
    have lg2 := hD g2 hg2
    rw [h1] at e1 e2
    obtain ⟨xk, xb, xa1, xn1, xc1, xa2, xn2, xc2, xc, xa3, xn3, xc3⟩ := x
    obtain ⟨yk, yb, ya1, yn1, yc1, ya2, yn2, yc2, yc, ya3, yn3, yc3⟩ := y
    simp only [] at e1 e2 e5 e6 ea eb
    subst e1
    subst e2
    subst e5
    subst e6
    subst ea
    subst eb
    have X5 := X.cell 5 rfl
    have Y5 := Y.cell 5 rfl
    generalize ha : t.kids.getD 0 tr0 = a at *
    have HV : Hid (ArV f D _ (.slice p1 m1 r1) (.slice p2 m2 r2) a) := hv
    have HV2 : Hid (ArV f D _ (.slice p3 m3 r3) (.slice p4 m4 r4) a) := hv2
    have HC : Hid (SmeOK f) := hC
    have HM : Hid ((measF L a).isSome = true) := h6
    have HD : Hid (∀ g', D g' → g' < w.heap.size) := hD
    clear hx hy hx2 hy2 hm hv hv2 hC hc1 hc2 h6 hD2 hD
    go_enter Try.func72, Try.ntmps72
    go_upto_region 5 with fail
    generalize hA : (w.alloc (.cells #[.int .u8 3, .bool xb, .slice xa1 xn1 xc1, .slice xa2 xn2 xc2, .int .i32 xc, .slice (some ⟨g1, o1, none⟩) 1 xc3] 45)).alloc (.cells #[.int .u8 3, .bool yb, .slice ya1 yn1 yc1, .slice ya2 yn2 yc2, .int .i32 yc, .slice (some ⟨g2, o2, none⟩) 1 yc3] 45) = v at *
    clear hA k0 k1 X0 X0' Y0'
    have d0 : Below v.heap.size v v.drew := ⟨rfl, rfl, rfl, Nat.le_refl _, fun _ _ => rfl⟩
    have hcells : ∀ {w' : World}, Below v.heap.size v w' → w'.cell? ⟨w.heap.size, 5, none⟩ = some (.slice (some ⟨g1, o1, none⟩) 1 xc3) ∧ w'.cell? ⟨w.heap.size + 1, 5, none⟩ = some (.slice (some ⟨g2, o2, none⟩) 1 yc3) ∧ w'.cell? ⟨g1, o1, none⟩ = some (.slice p1 m1 r1) ∧ w'.cell? ⟨g1, o1 + 1, none⟩ = some (.slice p2 m2 r2) ∧ w'.cell? ⟨g2, o2, none⟩ = some (.slice p3 m3 r3) ∧ w'.cell? ⟨g2, o2 + 1, none⟩ = some (.slice p4 m4 r4) := fun k => ⟨(X.below k (by omega)).cell 5 rfl, (Y.below k (by omega)).cell 5 rfl, (k.cell (p := ⟨g1, o1, none⟩) (by show g1 < _; omega)).trans c1, (k.cell (p := ⟨g1, o1 + 1, none⟩) (by show g1 < _; omega)).trans c2, (k.cell (p := ⟨g2, o2, none⟩) (by show g2 < _; omega)).trans c3, (k.cell (p := ⟨g2, o2 + 1, none⟩) (by show g2 < _; omega)).trans c4⟩
    have j0 := hcells d0
    have K1 : Hid (Calls Try.prog 46 #[.agg #[.slice p1 m1 r1, .slice p2 m2 r2], .agg #[.slice p3 m3 r3, .slice p4 m4 r4]] v.drew fun e w' => e = .returned (.bool true) ∧ Below v.drew.heap.size v.drew w') := HC.out L D v.drew _ _ _ _ _ _ _ _ _ _ _ _ a (fun g' hg => by have := HD.out g' hg; show g' < v.heap.size; omega) (HV.out.agree (fun _ _ => rfl)) (HV2.out.agree (fun _ _ => rfl)) HM.out
    have HCe : Hid (∀ {w' : World}, Below v.heap.size v w' → w'.cell? ⟨w.heap.size, 5, none⟩ = some (.slice (some ⟨g1, o1, none⟩) 1 xc3) ∧ w'.cell? ⟨w.heap.size + 1, 5, none⟩ = some (.slice (some ⟨g2, o2, none⟩) 1 yc3) ∧ w'.cell? ⟨g1, o1, none⟩ = some (.slice p1 m1 r1) ∧ w'.cell? ⟨g1, o1 + 1, none⟩ = some (.slice p2 m2 r2) ∧ w'.cell? ⟨g2, o2, none⟩ = some (.slice p3 m3 r3) ∧ w'.cell? ⟨g2, o2 + 1, none⟩ = some (.slice p4 m4 r4)) := hcells
    clear hcells X5 Y5 c1 c2 c3 c4
    go_region_held3 (fun w' => w'.cell? ⟨w.heap.size, 5, none⟩ = some (.slice (some ⟨g1, o1, none⟩) 1 xc3) ∧ w'.cell? ⟨w.heap.size + 1, 5, none⟩ = some (.slice (some ⟨g2, o2, none⟩) 1 yc3) ∧ w'.cell? ⟨g1, o1, none⟩ = some (.slice p1 m1 r1) ∧ w'.cell? ⟨g1, o1 + 1, none⟩ = some (.slice p2 m2 r2) ∧ w'.cell? ⟨g2, o2, none⟩ = some (.slice p3 m3 r3) ∧ w'.cell? ⟨g2, o2 + 1, none⟩ = some (.slice p4 m4 r4))
      (first | exact jj1 | exact j0)
      (first | (go_at_call 46; refine K1.out.mono ?_; rintro e w1 ⟨rfl, q1⟩; have kk1 : Below v.heap.size v w1 := d0.trans (q1.mono d0.size); have jj1 := HCe.out kk1))
    go_wp2
    go_ret
    exact ⟨rfl, g.trans (kk1.mono (by omega))⟩
end
set_option maxRecDepth 100000 in
set_option maxHeartbeats 16000000 in
theorem equalFuncA {D : Nat → Prop} {f L : Nat} {w : World} {l : List Tr} {a1 a2 : Option Addr} {c1 c2 : Nat} (hC : SmeOK f) (hD : ∀ g, D g → g < w.heap.size) (h1 : RowB D l.length (.slice a1 l.length c1) (fun g o j => ItC (ArV f D w) D w g (o + j * 6) (l.getD j tr0))) (h2 : RowB D l.length (.slice a2 l.length c2) (fun g o j => ItC (ArV f D w) D w g (o + j * 6) (l.getD j tr0))) (hm : ∀ t ∈ l, (measI (measF L) t).isSome = true) :
    Calls Try.prog 71 #[.slice a1 l.length c1, .slice a2 l.length c2, .func (.func 72) #[] #[]] w fun e w' => e = .returned (.bool true) ∧ Below w.heap.size w w' := by
  have bd1 := RowB.bounds h1
  have bd2 := RowB.bounds h2
  obtain ⟨L1, hl1, hr1, hi1⟩ := row_iv h1
  obtain ⟨L2, hl2, hr2, hi2⟩ := row_iv h2
  have HR1 : Hid (RowIV D w (.slice a1 l.length c1) L1) := hr1
  have HR2 : Hid (RowIV D w (.slice a2 l.length c2) L2) := hr2
  have HI1 : Hid (∀ j, j < l.length → IsIt f D w (L1.getD j iv0) (l.getD j tr0)) := hi1
  have HI2 : Hid (∀ j, j < l.length → IsIt f D w (L2.getD j iv0) (l.getD j tr0)) := hi2
  have HL1 : Hid (L1.length = l.length) := hl1
  have HL2 : Hid (L2.length = l.length) := hl2
  have HM : Hid (∀ t ∈ l, (measI (measF L) t).isSome = true) := hm
  have HD : Hid (∀ g, D g → g < w.heap.size) := hD
  have HC : Hid (SmeOK f) := hC
  clear h1 h2 hr1 hr2 hi1 hi2 hl1 hl2 hm hD hC
  go_enter Try.func71, Try.ntmps71
  go_wp2
  go_loopw [17] (fun s wr => ∃ i : Nat, i ≤ l.length ∧ s = .int .i64 i ∧ Below w.heap.size w wr) (fun s _ => l.length - (intOf s).toNat)
  case atStart => exact ⟨0, Nat.zero_le _, rfl, Below.refl _ _⟩
  case round =>
    obtain ⟨i, hil, rfl, kr⟩ := hrel
    have sr := kr.size
    by_cases hlt : i < l.length
    · have hR1 := HR1.out
      have hR2 := HR2.out
      unfold RowIV at hR1 hR2
      rw [HL1.out] at hR1
      rw [HL2.out] at hR2
      obtain ⟨g1, o1, rfl, hg1, hc1⟩ := RowB.ptr hR1 (by omega)
      obtain ⟨g2, o2, rfl, hg2, hc2⟩ := RowB.ptr hR2 (by omega)
      have hx := HI1.out i hlt
      have hy := HI2.out i hlt
      have q1 := hc1 i hlt
      have q2 := hc2 i hlt
      have hmm := HM.out _ (getD_mem hlt)
      generalize L1.getD i iv0 = x at *
      generalize L2.getD i iv0 = y at *
      generalize l.getD i tr0 = t at *
      have lg1 := HD.out g1 hg1
      have lg2 := HD.out g2 hg2
      have E := q1.agree (D := fun g => g < w.heap.size) (fun q hq => kr.block q hq) lg1
      have kx := below_alloc wr (.cells #[.int .u8 x.k, .bool x.b, .slice x.a1 x.n1 x.c1, .slice x.a2 x.n2 x.c2, .int .i32 x.c, .slice x.a3 x.n3 x.c3] 45)
      have ky := below_alloc (wr.alloc (.cells #[.int .u8 x.k, .bool x.b, .slice x.a1 x.n1 x.c1, .slice x.a2 x.n2 x.c2, .int .i32 x.c, .slice x.a3 x.n3 x.c3] 45)) (.cells #[.int .u8 y.k, .bool y.b, .slice y.a1 y.n1 y.c1, .slice y.a2 y.n2 y.c2, .int .i32 y.c, .slice y.a3 y.n3 y.c3] 45)
      have kk : Below wr.heap.size wr _ := kx.trans (ky.mono kx.size)
      have BX := boxA_new wr #[.int .u8 x.k, .bool x.b, .slice x.a1 x.n1 x.c1, .slice x.a2 x.n2 x.c2, .int .i32 x.c, .slice x.a3 x.n3 x.c3] 45
      have BXy := BX.below ky BX.lt
      have BY := boxA_new (wr.alloc (.cells #[.int .u8 x.k, .bool x.b, .slice x.a1 x.n1 x.c1, .slice x.a2 x.n2 x.c2, .int .i32 x.c, .slice x.a3 x.n3 x.c3] 45)) #[.int .u8 y.k, .bool y.b, .slice y.a1 y.n1 y.c1, .slice y.a2 y.n2 y.c2, .int .i32 y.c, .slice y.a3 y.n3 y.c3] 45
      rw [World.size_alloc] at BY
      have E2 := q2.agree (D := fun g => g < w.heap.size) (W' := wr.alloc (.cells #[.int .u8 x.k, .bool x.b, .slice x.a1 x.n1 x.c1, .slice x.a2 x.n2 x.c2, .int .i32 x.c, .slice x.a3 x.n3 x.c3] 45)) (fun q hq => by rw [kx.block q (by omega)]; exact kr.block q hq) lg2
      obtain ⟨i0, i1, i2, i3, i4, i5⟩ := E
      obtain ⟨l0, l1, l2, l3, l4, l5⟩ := E2
      have m0 := BXy.cell 0 rfl
      have m1 := BXy.cell 1 rfl
      have m2 := BXy.cell 2 rfl
      have m3 := BXy.cell 3 rfl
      have m4 := BXy.cell 4 rfl
      have m5 := BXy.cell 5 rfl
      have n0 := BY.cell 0 rfl
      have n1 := BY.cell 1 rfl
      have n2 := BY.cell 2 rfl
      have n3 := BY.cell 3 rfl
      have n4 := BY.cell 4 rfl
      have n5 := BY.cell 5 rfl
      have T : Below w.heap.size w _ := kr.trans (kk.mono sr)
      have C := sameItemA HC.out (fun q hq => by have := HD.out q hq; have := T.size; omega) (hx.agree (Agree.of T HD.out)) (hy.agree (Agree.of T HD.out)) hmm
      clear hx hy hmm hc1 hc2 q1 q2 hR1 hR2
      go_wp2_with fail
      refine C.mono ?_
      rintro e wm ⟨rfl, km⟩
      have T2 : Below w.heap.size w wm := T.trans (km.mono T.size)
      go_wp2
      go_roundw
      case rel => exact ⟨i + 1, by omega, by go_num, T2⟩
      case measure => simp [intOf]; omega
    · go_wp2
      go_ret
      exact ⟨rfl, kr⟩
set_option maxRecDepth 100000 in
set_option maxHeartbeats 16000000 in
theorem sameA_step {f : Nat} (hC : SmeOK f) : SmeOK (f + 1) := by
  intro L D w x1 n1 y1 x2 n2 y2 x3 n3 y3 x4 n4 y4 t hD h1 h2 hm
  obtain ⟨L', rfl, _, _, _, _, m5⟩ := measF_some hm
  obtain rfl := h1.2.len
  obtain rfl := h2.2.len
  have A0 := boxA_new w #[.slice x1 n1 y1, .slice x2 t.kids.length y2] 25
  have k0 := below_alloc w (.cells #[.slice x1 n1 y1, .slice x2 t.kids.length y2] 25)
  have k1 := below_alloc (w.alloc (.cells #[.slice x1 n1 y1, .slice x2 t.kids.length y2] 25)) (.cells #[.slice x3 n3 y3, .slice x4 t.kids.length y4] 25)
  have C := boxA_new (w.alloc (.cells #[.slice x1 n1 y1, .slice x2 t.kids.length y2] 25)) #[.slice x3 n3 y3, .slice x4 t.kids.length y4] 25
  rw [World.size_alloc] at C
  have A := A0.below k1 (by simp)
  have g : Below w.heap.size w _ := k0.trans (k1.mono (by simp))
  have sv : ((w.alloc (.cells #[.slice x1 n1 y1, .slice x2 t.kids.length y2] 25)).alloc (.cells #[.slice x3 n3 y3, .slice x4 t.kids.length y4] 25)).heap.size = w.heap.size + 1 + 1 := by simp
  have H1 : Hid (ArV (f + 1) D w (.slice x1 n1 y1) (.slice x2 t.kids.length y2) t) := h1
  have H2 : Hid (ArV (f + 1) D w (.slice x3 n3 y3) (.slice x4 t.kids.length y4) t) := h2
  have HD : Hid (∀ g, D g → g < w.heap.size) := hD
  have HM : Hid (∀ x ∈ t.kids, (measI (measF L') x).isSome = true) := m5
  have HC : Hid (SmeOK f) := hC
  clear h1 h2 hD m5 hm hC
  have a0 := A.cell 0 rfl
  have d0 := C.cell 0 rfl
  go_enter Try.func46, Try.ntmps46
  go_wp2_with fail
  generalize hA : (w.alloc (.cells #[.slice x1 n1 y1, .slice x2 t.kids.length y2] 25)).alloc (.cells #[.slice x3 n3 y3, .slice x4 t.kids.length y4] 25) = v at *
  clear hA a0 d0 k0 k1 A0
  refine (equalN_rd (H1.out.1.imp (fun _ h => h) (Agree.of g HD.out)) (H2.out.1.imp (fun _ h => h) (Agree.of g HD.out))).mono ?_
  rintro e w1 ⟨rfl, q1⟩
  have s1 := q1.size
  have kw : Below w.heap.size w w1 := g.trans (q1.mono g.size)
  have a1 := (A.below q1 (by omega)).cell 1 rfl
  have d1 := (C.below q1 (by omega)).cell 1 rfl
  have E := equalFuncA (L := L') HC.out (fun q hq => by have := HD.out q hq; have := kw.size; omega) (RowB.imp H1.out.2 (fun _ h => h) (fun g' o j hg hj hc => hc.imp hg (fun _ h => h) (Agree.of kw HD.out) (fun _ _ _ h => h.agree (Agree.of kw HD.out)))) (RowB.imp H2.out.2 (fun _ h => h) (fun g' o j hg hj hc => hc.imp hg (fun _ h => h) (Agree.of kw HD.out) (fun _ _ _ h => h.agree (Agree.of kw HD.out)))) HM.out
  go_wp2_with fail
  refine E.mono ?_
  rintro e w2 ⟨rfl, q2⟩
  go_wp2
  go_ret
  exact ⟨rfl, kw.trans (q2.mono kw.size)⟩
theorem sameA_all : ∀ f, SmeOK f
  | 0 => fun _ _ _ _ _ _ _ _ _ _ _ _ _ _ _ _ _ h _ _ => h.elim
  | f + 1 => sameA_step (sameA_all f)
set_option maxRecDepth 100000 in
set_option maxHeartbeats 16000000 in
/-- array.Match of two right arrays that are the same tree. -/
theorem match_same {D : Nat → Prop} {f : Nat} {w : World} {x1 : Option Addr} {n1 y1 : Nat} {x2 : Option Addr} {n2 y2 : Nat} {x3 : Option Addr} {n3 y3 : Nat} {x4 : Option Addr} {n4 y4 : Nat} {t : Tr} (hD : ∀ g, D g → g < w.heap.size) (h1 : ArV f D w (.slice x1 n1 y1) (.slice x2 n2 y2) t) (h2 : ArV f D w (.slice x3 n3 y3) (.slice x4 n4 y4) t) (hm : (measF 16 t).isSome = true) :
    Calls Try.prog 25 #[.agg #[.slice x1 n1 y1, .slice x2 n2 y2], .agg #[.slice x3 n3 y3, .slice x4 n4 y4]] w fun e w' => e = .returned (.bool true) ∧ Below w.heap.size w w' := by
  have A0 := boxA_new w #[.slice x1 n1 y1, .slice x2 n2 y2] 25
  have k0 := below_alloc w (.cells #[.slice x1 n1 y1, .slice x2 n2 y2] 25)
  have k1 := below_alloc (w.alloc (.cells #[.slice x1 n1 y1, .slice x2 n2 y2] 25)) (.cells #[.slice x3 n3 y3, .slice x4 n4 y4] 25)
  have C := boxA_new (w.alloc (.cells #[.slice x1 n1 y1, .slice x2 n2 y2] 25)) #[.slice x3 n3 y3, .slice x4 n4 y4] 25
  rw [World.size_alloc] at C
  have A := A0.below k1 (by simp)
  have g : Below w.heap.size w _ := k0.trans (k1.mono (by simp))
  have sv : ((w.alloc (.cells #[.slice x1 n1 y1, .slice x2 n2 y2] 25)).alloc (.cells #[.slice x3 n3 y3, .slice x4 n4 y4] 25)).heap.size = w.heap.size + 1 + 1 := by simp
  have H1 : Hid (ArV f D w (.slice x1 n1 y1) (.slice x2 n2 y2) t) := h1
  have H2 : Hid (ArV f D w (.slice x3 n3 y3) (.slice x4 n4 y4) t) := h2
  have HD : Hid (∀ g, D g → g < w.heap.size) := hD
  have HM : Hid ((measF 16 t).isSome = true) := hm
  clear h1 h2 hD hm
  have a0 := A.cell 0 rfl
  have a1 := A.cell 1 rfl
  have C1 := right3_any (W := (w.alloc (.cells #[.slice x1 n1 y1, .slice x2 n2 y2] 25)).alloc (.cells #[.slice x3 n3 y3, .slice x4 n4 y4] 25)) (fun q hq => by have := HD.out q hq; omega) (H1.out.agree (Agree.of g HD.out))
  rw [HM.out] at C1
  go_enter Try.func25, Try.ntmps25
  go_wp2_with fail
  generalize hA : (w.alloc (.cells #[.slice x1 n1 y1, .slice x2 n2 y2] 25)).alloc (.cells #[.slice x3 n3 y3, .slice x4 n4 y4] 25) = v at *
  clear hA a0 a1 k0 k1 A0
  refine C1.mono ?_
  rintro e w1 ⟨rfl, q1⟩
  clear C1
  have s1 := q1.size
  have kw : Below w.heap.size w w1 := g.trans (q1.mono g.size)
  have d0 := (C.below q1 (by omega)).cell 0 rfl
  have d1 := (C.below q1 (by omega)).cell 1 rfl
  have C2 := right3_any (fun q hq => by have := HD.out q hq; have := kw.size; omega) (H2.out.agree (Agree.of kw HD.out))
  rw [HM.out] at C2
  go_wp2_with fail
  refine C2.mono ?_
  rintro e w2 ⟨rfl, q2⟩
  clear C2 d0 d1
  have s2 := q2.size
  have kw2 : Below w.heap.size w w2 := kw.trans (q2.mono kw.size)
  have v2 : Below v.heap.size v w2 := q1.trans (q2.mono s1)
  have b0 := (A.below v2 (by omega)).cell 0 rfl
  have b1 := (A.below v2 (by omega)).cell 1 rfl
  have d0 := (C.below v2 (by omega)).cell 0 rfl
  have d1 := (C.below v2 (by omega)).cell 1 rfl
  have C3 := sameA_all f 16 D w2 _ _ _ _ _ _ _ _ _ _ _ _ t (fun q hq => by have := HD.out q hq; have := kw2.size; omega) (H1.out.agree (Agree.of kw2 HD.out)) (H2.out.agree (Agree.of kw2 HD.out)) HM.out
  go_wp2_with fail
  refine C3.mono ?_
  rintro e w3 ⟨rfl, q3⟩
  go_wp2
  go_ret
  exact ⟨rfl, kw2.trans (q3.mono kw2.size)⟩
end Go.Proofs.Ytnkaimkdlpieaaa
