/- array.Enclose of a right array. -/
import Derived.Test.YtnkaimkdlpieaaaK12
import Derived.Test.YtnkaimkdlpieaaaK13
namespace Go.Proofs.Ytnkaimkdlpieaaa
set_option linter.unusedVariables false
set_option linter.unusedSimpArgs false
open Go.RowKit

section
variable {D : Nat → Prop} {f : Nat} {W : World} {x1 : Option Addr} {n1 y1 : Nat} {x2 : Option Addr} {n2 y2 : Nat} {t : Tr}
set_option maxRecDepth 100000 in
set_option maxHeartbeats 6400000 in
theorem enclose_box (hD : ∀ g, D g → g < W.heap.size) (h : ArV (f + 1) D W (.slice x1 n1 y1) (.slice x2 n2 y2) t) (hR : (measF 16 t).isSome = true) (hs : simpB t = false) :
    Calls Try.prog 23 #[.agg #[.slice x1 n1 y1, .slice x2 n2 y2]] W fun e w' => ∃ y : IV, e = .returned (.agg #[.int .u8 y.k, .bool y.b, .slice y.a1 y.n1 y.c1, .slice y.a2 y.n2 y.c2, .int .i32 y.c, .slice y.a3 y.n3 y.c3]) ∧ IsIt (f + 1) (Fr W.heap.size w'.heap.size) w' y (boxT t) ∧ Below W.heap.size W w' := by
  obtain rfl := h.1.len
  obtain rfl := h.2.len
  have k0 := below_alloc W (.cells #[.slice x1 t.ns.length y1, .slice x2 t.kids.length y2] 25)
  have X0 := boxA_new W #[.slice x1 t.ns.length y1, .slice x2 t.kids.length y2] 25
  have k1 := below_alloc (W.alloc (.cells #[.slice x1 t.ns.length y1, .slice x2 t.kids.length y2] 25)) (.cells #[.int .u8 0, .bool false, .slice none 0 0, .slice none 0 0, .int .i32 0, .slice none 0 0] 45)
  have R := boxA_new (W.alloc (.cells #[.slice x1 t.ns.length y1, .slice x2 t.kids.length y2] 25)) #[.int .u8 0, .bool false, .slice none 0 0, .slice none 0 0, .int .i32 0, .slice none 0 0] 45
  rw [World.size_alloc] at R
  have X := X0.below k1 (by simp)
  have g : Below W.heap.size W _ := k0.trans (k1.mono (by simp))
  have sv : ((W.alloc (.cells #[.slice x1 t.ns.length y1, .slice x2 t.kids.length y2] 25)).alloc (.cells #[.int .u8 0, .bool false, .slice none 0 0, .slice none 0 0, .int .i32 0, .slice none 0 0] 45)).heap.size = W.heap.size + 1 + 1 := by simp
  have z0 := X.cell 0 rfl
  have z1 := X.cell 1 rfl
  have H : Hid (ArV (f + 1) D W (.slice x1 t.ns.length y1) (.slice x2 t.kids.length y2) t) := h
  have HD : Hid (∀ g, D g → g < W.heap.size) := hD
  obtain ⟨L', hL', m1, m2, m3, m4, m5⟩ := measF_some hR
  have HW : Hid (WorkC f D t.kids t.kids) := workC m5
  have hs1 : t.ns.length * 8 ≤ 140737488355328 := by omega
  have hs2 : t.kids.length * 96 ≤ 140737488355328 := by omega
  have HR : Hid ((measF 16 t).isSome = true) := hR
  have HSB : Hid (simpB t = false) := hs
  clear h hD hR hs m1 m2 m3 m4 m5 hL'
  go_enter Try.func23, Try.ntmps23
  go_wp2_with fail
  generalize hA : (W.alloc (.cells #[.slice x1 t.ns.length y1, .slice x2 t.kids.length y2] 25)).alloc (.cells #[.int .u8 0, .bool false, .slice none 0 0, .slice none 0 0, .int .i32 0, .slice none 0 0] 45) = v at *
  clear hA k0 k1 X0
  refine (right3_any (fun g' hg => by have := HD.out g' hg; omega) (H.out.agree (Agree.of g HD.out))).mono ?_
  rintro e w1 ⟨rfl, q1⟩
  rw [HR.out]
  have X1 := X.below q1 (by omega)
  have k1 : Below W.heap.size W w1 := g.trans (q1.mono (by omega))
  have s1 := q1.size
  have v0 := X1.cell 0 rfl
  have v1 := X1.cell 1 rfl
  clear z0 z1
  go_wp2_with fail
  refine (isSimpleT_any (H.out.agree (Agree.of k1 HD.out)) (fun g' hg => by have := HD.out g' hg; omega)).mono ?_
  rintro e w2 ⟨rfl, hw⟩
  have q2 := below_alloc w1 (.cells #[.slice x1 t.ns.length y1, .slice x2 t.kids.length y2] 25)
  rw [← hw] at q2
  clear hw
  rw [HSB.out]
  have s2 := q2.size
  have X2 := X1.below q2 (by omega)
  have k2 : Below W.heap.size W w2 := k1.trans (q2.mono (by omega))
  have u0 := X2.cell 0 rfl
  have u1 := X2.cell 1 rfl
  clear v0 v1
  have T := throughC_any (H.out.agree (Agree.of k2 HD.out)) (fun g' hg => by have := HD.out g' hg; omega) hs1 hs2 rfl rfl HW.out
  go_wp2_with fail
  refine T.mono ?_
  rintro e w3 ⟨z1, p1, z2, p2, rfl, hv, q3⟩
  clear T
  have HV : Hid (ArV (f + 1) (Fr w2.heap.size w3.heap.size) w3 (.slice z1 t.ns.length p1) (.slice z2 t.kids.length p2) t) := hv
  clear hv
  have s3 := q3.size
  go_wp2_with fail
  refine box_any.mono ?_
  rintro e w4 ⟨k, rfl, hk, hB, q4⟩
  have s4 := q4.size
  have kx : Below v.heap.size v w4 := ((q1.trans (q2.mono s1)).trans (q3.mono (by omega))).trans (q4.mono (by omega))
  have Rc := R.below kx (by omega)
  have q0 := Rc.cell 0 rfl
  have q1' := Rc.cell 1 rfl
  have q2' := Rc.cell 2 rfl
  have q3' := Rc.cell 3 rfl
  have q4' := Rc.cell 4 rfl
  have q5 := Rc.cell 5 rfl
  have f0 := Rc.frozen 0
  have f1 := Rc.frozen 1
  have f2 := Rc.frozen 2
  have f3 := Rc.frozen 3
  have f4 := Rc.frozen 4
  have f5 := Rc.frozen 5
  go_wp2
  have Rd6 := Rc.set6 (.int .u8 3) (.bool false) (.slice none 0 0) (.slice none 0 0) (.int .i32 0) (.slice (some ⟨k, 0, none⟩) 1 1)
  have r0 := Rd6.cell 0 rfl
  have r1 := Rd6.cell 1 rfl
  have r2 := Rd6.cell 2 rfl
  have r3 := Rd6.cell 3 rfl
  have r4 := Rd6.cell 4 rfl
  have r5 := Rd6.cell 5 rfl
  try simp only [Exit.inBlock, Exit.then]
  refine bodyPost_ret (v := .agg #[.int .u8 3, .bool false, .slice none 0 0, .slice none 0 0, .int .i32 0, .slice (some ⟨k, 0, none⟩) 1 1]) ?_ rfl ?_
  · simp [results, Try.results23, go_sem, r0, r1, r2, r3, r4, r5]
  have hne : W.heap.size + 1 ≠ k := by omega
  refine ⟨⟨3, false, none, 0, 0, none, 0, 0, 0, some ⟨k, 0, none⟩, 1, 1⟩, rfl, ?_, Below.set6 (g.trans (kx.mono (by omega))) (by omega) _ _ _ _ _ _⟩
  refine isIt_box (w := (((((w3.setCell ⟨W.heap.size + 1, 0, none⟩ (.int .u8 3)).setCell ⟨W.heap.size + 1, 1, none⟩ (.bool false)).setCell ⟨W.heap.size + 1, 2, none⟩ (.slice none 0 0)).setCell ⟨W.heap.size + 1, 3, none⟩ (.slice none 0 0)).setCell ⟨W.heap.size + 1, 4, none⟩ (.int .i32 0)).setCell ⟨W.heap.size + 1, 5, none⟩ (.slice (some ⟨k, 0, none⟩) 1 1)) (a := t) rfl rfl rfl rfl rfl rfl rfl (by omega) (boxA_o6 hB hne _ _ _ _ _ _) ?_ (below_both6 q4 _ _ _ _ _ _)
  refine ArV.imp ?_ ?_ (f + 1) (f + 1) _ _ _ (Nat.le_refl _) HV.out
  · rintro g' ⟨h1, h2⟩; exact ⟨by omega, by rw [set6_size]; exact h2⟩
  · rintro g' ⟨h1, h2⟩; exact set6_other (by omega) _ _ _ _ _ _
end
end Go.Proofs.Ytnkaimkdlpieaaa

/- ArrayDeeper's walk. -/
namespace Go.Proofs.Ytnkaimkdlpieaaa
set_option linter.unusedVariables false
set_option linter.unusedSimpArgs false
open Go.RowKit

theorem measL_ge {I : Tr → Option (Int × Int)} : ∀ (l : List Tr) (w p : Int × Int), measL I l w = some p → w.1 ≤ p.1
  | [], w, p, h => by rw [measL] at h; cases h; exact Int.le_refl _
  | t :: r, w, p, h => by
    rw [measL] at h
    cases hi : I t with
    | none => rw [hi] at h; simp at h
    | some q =>
      rw [hi] at h
      by_cases hc : 16384 < w.2 + q.2
      · simp only [hc, if_true] at h; cases h
      · simp only [hc, if_false] at h
        have := measL_ge r _ p h
        simp only at this
        omega
/-- An array that is no simple scalar has one level at least. -/
theorem measF_deep {L : Nat} {t : Tr} {p : Int × Int} (h : measF L t = some p) (hs : simpB t = false) : 1 ≤ p.1 := by
  obtain ⟨L', rfl, _, h1, h2, _, _⟩ := measF_some (by rw [h]; rfl)
  rw [measF_succ ⟨h1, h2⟩] at h
  cases hm : measL (measI (measF L')) t.kids (1, (t.kids.length : Int)) with
  | none => rw [hm] at h; unfold finM at h; cases h
  | some q =>
    rw [hm] at h
    unfold finM at h
    simp only [hs] at h
    cases h
    have := measL_ge _ _ _ hm
    simp only at this
    exact this
theorem measF_less {t : Tr} {p : Int × Int} (h : measF 16 t = some p) (hp : p.1 ≤ 15) : measF 15 t = some p := by
  rw [measF_pl] at h ⊢
  cases hq : plF 16 t with
  | none => rw [hq] at h; cases h
  | some q =>
    rw [hq] at h
    have e : q = p ∧ q.2 ≤ 16384 := by
      unfold upTo at h
      by_cases hc : q.2 ≤ 16384
      · simp only [hc, if_true] at h; cases h; exact ⟨rfl, hc⟩
      · simp only [hc, if_false] at h; cases h
    obtain ⟨rfl, hc⟩ := e
    rw [plF_less 15 t q (by omega) hq hp]
    unfold upTo
    simp only [hc, if_true]
theorem box_meas {M : Tr → Option (Int × Int)} {t : Tr} (hs : simpB t = false) : measI M (boxT t) = M t := measI_box (t := boxT t) rfl ⟨rfl, rfl, rfl, hs⟩
/-- A box of it, alone in a vector. -/
theorem deeper_meas {t : Tr} {d c : Int} (h : measF 16 t = some (d, c)) (hs : simpB t = false) (hd : d < 16) (hc : c < 16384) : measF 16 (arrT [1] [boxT t]) = some (d + 1, c + 1) := by
  have h1 := measF_deep h hs
  have h15 : measF 15 t = some (d, c) := measF_less h (by simp only; omega)
  have e0 : sizeF (arrT [1] [boxT t]).ns = (1, 0) := size_one (by omega) (by omega)
  have hb : measI (measF 15) (boxT t) = some (d, c) := by
    rw [box_meas hs]; exact h15
  rw [measF_succ (L := 15) ⟨by rw [e0], by rw [e0]; rfl⟩]
  have ek : (arrT [1] [boxT t]).kids = [boxT t] := rfl
  rw [ek, measL, hb]
  simp only [List.length_cons, List.length_nil, Nat.zero_add]
  rw [if_neg (by omega), measL]
  have hsb : simpB (arrT [1] [boxT t]) = false := rfl
  unfold finM
  simp only [hsb]
  simp only [] at h1
  rw [show max (1 : Int) (1 + d) = d + 1 by omega, show ((1 : Nat) : Int) + c = c + 1 by omega]
  rfl
section
variable {D : Nat → Prop} {F : Nat} {w : World} {x1 : Option Addr} {n1 y1 : Nat} {x2 : Option Addr} {n2 y2 : Nat} {t : Tr}
set_option maxRecDepth 100000 in
set_option maxHeartbeats 16000000 in
theorem arrayDeeper_walk (hD : ∀ g, D g → g < w.heap.size) (h : ArV F D w (.slice x1 n1 y1) (.slice x2 n2 y2) t) :
    Calls Try.prog 6 #[.agg #[.slice x1 n1 y1, .slice x2 n2 y2]] w fun e w' => e = .returned (.bool true) ∧ Below w.heap.size w w' := by
  obtain ⟨F, rfl⟩ : ∃ F', F = F' + 1 := by
    cases F with
    | zero => exact h.elim
    | succ F => exact ⟨F, rfl⟩
  have k0 := below_alloc w (.cells #[.slice x1 n1 y1, .slice x2 n2 y2] 25)
  have X0 := boxA_new w #[.slice x1 n1 y1, .slice x2 n2 y2] 25
  have s0 : w.heap.size < (w.alloc (.cells #[.slice x1 n1 y1, .slice x2 n2 y2] 25)).heap.size := by simp
  have z0 := X0.cell 0 rfl
  have z1 := X0.cell 1 rfl
  have H : Hid (ArV (F + 1) D w (.slice x1 n1 y1) (.slice x2 n2 y2) t) := h
  have HD : Hid (∀ g, D g → g < w.heap.size) := hD
  have HLv : Hid LiveOK := live3_ok
  clear h hD
  go_enter Try.func6, Try.ntmps6
  go_wp2_with fail
  generalize hA : w.alloc (.cells #[.slice x1 n1 y1, .slice x2 n2 y2] 25) = v at *
  clear hA
  have hAr : ∀ {w' : World}, Below v.heap.size v w' → ArV (F + 1) D w' (.slice x1 n1 y1) (.slice x2 n2 y2) t := fun k => H.out.agree (Agree.of (k0.trans (k.mono (Nat.le_of_lt s0))) HD.out)
  have hDA : ∀ {w' : World}, Below v.heap.size v w' → ∀ g, D g → g < w'.heap.size := fun k g hg => by have := HD.out g hg; have := k.size; omega
  have HAr : Hid (∀ {w' : World}, Below v.heap.size v w' → ArV (F + 1) D w' (.slice x1 n1 y1) (.slice x2 n2 y2) t) := hAr
  have HDA : Hid (∀ {w' : World}, Below v.heap.size v w' → ∀ g, D g → g < w'.heap.size) := hDA
  clear hAr hDA
  have kr : Below v.heap.size v v := Below.refl _ _
  have C1 := right3_any (HDA.out kr) (HAr.out kr)
  obtain ⟨R, hR⟩ : ∃ R, (measF 16 t).isSome = R := ⟨_, rfl⟩
  rw [hR] at C1
  refine C1.mono ?_
  rintro e w1 ⟨rfl, q1⟩
  clear C1 z0 z1 kr
  have X1 := X0.below q1 s0
  have u0 := X1.cell 0 rfl
  have u1 := X1.cell 1 rfl
  cases R with
  | false =>
    clear hR
    go_wp2_with fail
    refine (HLv.out _).mono ?_
    rintro e w2 ⟨rfl, q2⟩
    go_wp2
    go_ret
    exact ⟨rfl, k0.trans ((q1.trans (q2.mono q1.size)).mono (by omega))⟩
  | true =>
  have C2 := isSimple3_any (HDA.out q1) (HAr.out q1)
  rw [hR, Bool.and_true] at C2
  obtain ⟨B, hB⟩ : ∃ B, simpB t = B := ⟨_, rfl⟩
  rw [hB] at C2
  go_wp2_with fail
  refine C2.mono ?_
  rintro e w2 ⟨rfl, q2⟩
  clear C2 u0 u1
  have k2 : Below v.heap.size v w2 := q1.trans (q2.mono q1.size)
  have X2 := X0.below k2 s0
  have u0 := X2.cell 0 rfl
  have u1 := X2.cell 1 rfl
  cases B with
  | true =>
    clear hR hB
    go_wp2_with fail
    refine (HLv.out _).mono ?_
    rintro e w3 ⟨rfl, q3⟩
    go_wp2
    go_ret
    exact ⟨rfl, k0.trans ((k2.trans (q3.mono k2.size)).mono (by omega))⟩
  | false =>
  obtain ⟨p, hp⟩ : ∃ p, measF 16 t = some p := Option.isSome_iff_exists.1 hR
  obtain ⟨d, c⟩ := p
  have C3 := depth3_any (HDA.out k2) (HAr.out k2)
  rw [hp] at C3
  simp only [Option.getD_some] at C3
  go_wp2_with fail
  refine C3.mono ?_
  rintro e w3 ⟨rfl, q3⟩
  clear C3 u0 u1
  have k3 : Below v.heap.size v w3 := k2.trans (q3.mono k2.size)
  have X3 := X0.below k3 s0
  have u0 := X3.cell 0 rfl
  have u1 := X3.cell 1 rfl
  have hin := measF_in 16 t _ hp
  simp only [] at hin
  by_cases hd : 16 ≤ d
  · have hd' : d ≥ 16 := hd
    have hdb : decide (d ≥ 16) = true := decide_eq_true hd
    have hdb2 : decide (16 ≤ d) = true := decide_eq_true hd
    have hdb3 : (!decide (d < 16)) = true := by simp; omega
    clear hR hB hp hin
    go_wp2_with fail
    refine (HLv.out _).mono ?_
    rintro e w4 ⟨rfl, q4⟩
    go_wp2
    go_ret
    exact ⟨rfl, k0.trans ((k3.trans (q4.mono k3.size)).mono (by omega))⟩
  have hd1 : d < 16 := by omega
  have C4 := cells3_any (HDA.out k3) (HAr.out k3)
  rw [hp] at C4
  simp only [Option.getD_some] at C4
  go_wp2_with fail
  refine C4.mono ?_
  rintro e w4 ⟨rfl, q4⟩
  clear C4 u0 u1
  have k4 : Below v.heap.size v w4 := k3.trans (q4.mono k3.size)
  have X4 := X0.below k4 s0
  have u0 := X4.cell 0 rfl
  have u1 := X4.cell 1 rfl
  by_cases hc : 16384 ≤ c
  · clear hR hB hp hin
    go_wp2_with fail
    refine (HLv.out _).mono ?_
    rintro e w5 ⟨rfl, q5⟩
    go_wp2
    go_ret
    exact ⟨rfl, k0.trans ((k4.trans (q5.mono k4.size)).mono (by omega))⟩
  have hc1 : c < 16384 := by omega
  have HDm : Hid (measF 16 (arrT [1] [boxT t]) = some (d + 1, c + 1)) := deeper_meas hp hB hd1 hc1
  have HMp : Hid (measF 16 t = some (d, c)) := hp
  have HSB : Hid (simpB t = false) := hB
  have h1d : 1 ≤ d := measF_deep hp hB
  clear hR hB hp hin
  have kI := below_alloc w4 (.cells #[.int .i64 1] 3)
  have BI := boxA_new w4 #[.int .i64 1] 3
  have k5 : Below v.heap.size v (w4.alloc (.cells #[.int .i64 1] 3)) := k4.trans (kI.mono k4.size)
  have X5 := X0.below k5 s0
  have p0 := X5.cell 0 rfl
  have p1 := X5.cell 1 rfl
  have C5 := enclose_box (HDA.out k5) (HAr.out k5) (by rw [HMp.out]; rfl) HSB.out
  have l5 := BI.lt
  clear u0 u1
  go_wp2_with fail
  generalize hA5 : w4.alloc (.cells #[.int .i64 1] 3) = w5 at *
  clear hA5
  refine C5.mono ?_
  rintro e w6 ⟨y, rfl, hy, q6⟩
  clear C5 p0 p1
  have HY : Hid (IsIt (F + 1) (Fr w5.heap.size w6.heap.size) w6 y (boxT t)) := hy
  clear hy
  have s6 := q6.size
  have k6 : Below v.heap.size v w6 := k5.trans (q6.mono k5.size)
  have kY := below_alloc w6 (.cells #[.int .u8 y.k, .bool y.b, .slice y.a1 y.n1 y.c1, .slice y.a2 y.n2 y.c2, .int .i32 y.c, .slice y.a3 y.n3 y.c3] 45)
  have BY := boxA_new w6 #[.int .u8 y.k, .bool y.b, .slice y.a1 y.n1 y.c1, .slice y.a2 y.n2 y.c2, .int .i32 y.c, .slice y.a3 y.n3 y.c3] 45
  have k7 : Below v.heap.size v (w6.alloc (.cells #[.int .u8 y.k, .bool y.b, .slice y.a1 y.n1 y.c1, .slice y.a2 y.n2 y.c2, .int .i32 y.c, .slice y.a3 y.n3 y.c3] 45)) := k6.trans (kY.mono k6.size)
  have l7 := BY.lt
  have sz7 : (w6.alloc (.cells #[.int .u8 y.k, .bool y.b, .slice y.a1 y.n1 y.c1, .slice y.a2 y.n2 y.c2, .int .i32 y.c, .slice y.a3 y.n3 y.c3] 45)).heap.size = w6.heap.size + 1 := by simp
  have q57 : Below w5.heap.size w5 (w6.alloc (.cells #[.int .u8 y.k, .bool y.b, .slice y.a1 y.n1 y.c1, .slice y.a2 y.n2 y.c2, .int .i32 y.c, .slice y.a3 y.n3 y.c3] 45)) := q6.trans (kY.mono s6)
  have BI7 := BI.below q57 l5
  have hsh : RdN (fun g => g < (w6.alloc (.cells #[.int .u8 y.k, .bool y.b, .slice y.a1 y.n1 y.c1, .slice y.a2 y.n2 y.c2, .int .i32 y.c, .slice y.a3 y.n3 y.c3] 45)).heap.size) (w6.alloc (.cells #[.int .u8 y.k, .bool y.b, .slice y.a1 y.n1 y.c1, .slice y.a2 y.n2 y.c2, .int .i32 y.c, .slice y.a3 y.n3 y.c3] 45)) (.slice (some ⟨w4.heap.size, 0, none⟩) 1 1) [1] := rdN_one BI7 BI7.lt (by omega) (by omega)
  have hrow : RowB (fun g => g < (w6.alloc (.cells #[.int .u8 y.k, .bool y.b, .slice y.a1 y.n1 y.c1, .slice y.a2 y.n2 y.c2, .int .i32 y.c, .slice y.a3 y.n3 y.c3] 45)).heap.size) 1 (.slice (some ⟨w6.heap.size, 0, none⟩) 1 1) (fun g o j => ItC (ArV (F + 1) (fun g => g < (w6.alloc (.cells #[.int .u8 y.k, .bool y.b, .slice y.a1 y.n1 y.c1, .slice y.a2 y.n2 y.c2, .int .i32 y.c, .slice y.a3 y.n3 y.c3] 45)).heap.size) (w6.alloc (.cells #[.int .u8 y.k, .bool y.b, .slice y.a1 y.n1 y.c1, .slice y.a2 y.n2 y.c2, .int .i32 y.c, .slice y.a3 y.n3 y.c3] 45))) (fun g => g < (w6.alloc (.cells #[.int .u8 y.k, .bool y.b, .slice y.a1 y.n1 y.c1, .slice y.a2 y.n2 y.c2, .int .i32 y.c, .slice y.a3 y.n3 y.c3] 45)).heap.size) (w6.alloc (.cells #[.int .u8 y.k, .bool y.b, .slice y.a1 y.n1 y.c1, .slice y.a2 y.n2 y.c2, .int .i32 y.c, .slice y.a3 y.n3 y.c3] 45)) g (o + j * 6) ([boxT t].getD j tr0)) := by
    refine ⟨_, 1, rfl, Nat.le_refl _, by omega, (fun h => by cases h), Or.inr ⟨w6.heap.size, 0, rfl, l7, fun j hj => ?_⟩⟩
    obtain rfl : j = 0 := by omega
    exact itc_of (HY.out.imp (fun q hq => by have := hq.2; omega) (fun q hq => kY.block q hq.2)) BY
  have hms : msOf [boxT t] = [(d, c)] := by
    unfold msOf
    simp only [List.map_cons, List.map_nil]
    rw [box_meas HSB.out, HMp.out]; rfl
  have C7 := make_ok (f := F + 1) (sh := [1]) (l := [boxT t]) (N := 1) hsh hrow (fun q hq => hq) (by simp) (by simp) (by decide) (by decide) (by decide)
    (fun s hs => by
      simp only [List.mem_cons, List.not_mem_nil, or_false] at hs
      subst hs
      rw [box_meas HSB.out, HMp.out]; rfl)
    (by rw [hms]; show max (1 : Int) (1 + d) ≤ 16; omega) (by rw [hms]; show (0 : Int) + (1 + c) ≤ 16384; omega)
  have ec : cyc tr0 [boxT t] 1 = [boxT t] := rfl
  have eL : ([boxT t] : List Tr).length = 1 := rfl
  have eS : ([1] : List Int).length = 1 := rfl
  rw [ec, eL, eS] at C7
  clear hms hrow hsh
  go_wp2_with fail
  generalize hA7 : w6.alloc (.cells #[.int .u8 y.k, .bool y.b, .slice y.a1 y.n1 y.c1, .slice y.a2 y.n2 y.c2, .int .i32 y.c, .slice y.a3 y.n3 y.c3] 45) = w7 at *
  clear hA7
  refine C7.mono ?_
  rintro e w8 ⟨z4, u4, z5, u5, rfl, hv, q8⟩
  clear C7 HY BY BI7 kY
  have s8 := q8.size
  have k8 : Below v.heap.size v w8 := k7.trans (q8.mono k7.size)
  have BX := boxA_new w8 #[.slice z4 1 u4, .slice z5 1 u5] 25
  have kX := below_alloc w8 (.cells #[.slice z4 1 u4, .slice z5 1 u5] 25)
  have k9 : Below v.heap.size v (w8.alloc (.cells #[.slice z4 1 u4, .slice z5 1 u5] 25)) := k8.trans (kX.mono k8.size)
  have l9 := BX.lt
  have HV : Hid (ArV (F + 2) (fun g => g < w8.heap.size) (w8.alloc (.cells #[.slice z4 1 u4, .slice z5 1 u5] 25)) (.slice z4 1 u4) (.slice z5 1 u5) (arrT [1] [boxT t])) := ArV.imp (fun q hq => hq.2) (fun q hq => kX.block q hq.2) _ _ _ _ _ (Nat.le_refl _) hv
  clear hv
  go_upto_region 4 with fail
  generalize hA9 : w8.alloc (.cells #[.slice z4 1 u4, .slice z5 1 u5] 25) = u at *
  clear hA9 kX
  have X9 := X0.below k9 s0
  have lX : w.heap.size < u.heap.size := X9.lt
  have hcells : ∀ {w' : World}, Below u.heap.size u w' → w'.cell? ⟨w.heap.size, 0, none⟩ = some (.slice x1 n1 y1) ∧ w'.cell? ⟨w.heap.size, 1, none⟩ = some (.slice x2 n2 y2) ∧ w'.cell? ⟨w8.heap.size, 0, none⟩ = some (.slice z4 1 u4) ∧ w'.cell? ⟨w8.heap.size, 1, none⟩ = some (.slice z5 1 u5) := fun k => ⟨(X9.below k lX).cell 0 rfl, (X9.below k lX).cell 1 rfl, (BX.below k l9).cell 0 rfl, (BX.below k l9).cell 1 rfl⟩
  have hB : ∀ {w' : World}, Below u.heap.size u w' → ArV (F + 2) (fun g => g < w8.heap.size) w' (.slice z4 1 u4) (.slice z5 1 u5) (arrT [1] [boxT t]) := fun k => HV.out.agree (Agree.of k (fun g hg => Nat.lt_trans hg l9))
  have hDB : ∀ {w' : World}, Below u.heap.size u w' → ∀ g, g < w8.heap.size → g < w'.heap.size := fun k g hg => by have := k.size; omega
  have kv : ∀ {w' : World}, Below u.heap.size u w' → Below v.heap.size v w' := fun k => k9.trans (k.mono k9.size)
  obtain ⟨d2, hd2⟩ : ∃ d2, d + 1 = d2 := ⟨_, rfl⟩
  obtain ⟨c2, hc2⟩ : ∃ c2, c + 1 = c2 := ⟨_, rfl⟩
  have K2 : Hid (∀ w', Below u.heap.size u w' → Calls Try.prog 11 #[.agg #[.slice z4 1 u4, .slice z5 1 u5]] w' fun e w'' => e = .returned (.int .i64 d2) ∧ Below w'.heap.size w' w'') := fun w' k => by have := depth3_any (hDB k) (hB k); rw [HDm.out] at this; simp only [Option.getD_some, hd2] at this; exact this
  have K3 : Hid (∀ w', Below u.heap.size u w' → Calls Try.prog 11 #[.agg #[.slice x1 n1 y1, .slice x2 n2 y2]] w' fun e w'' => e = .returned (.int .i64 d) ∧ Below w'.heap.size w' w'') := fun w' k => by have := depth3_any (HDA.out (kv k)) (HAr.out (kv k)); rw [HMp.out] at this; exact this
  have K4 : Hid (∀ w', Below u.heap.size u w' → Calls Try.prog 13 #[.agg #[.slice z4 1 u4, .slice z5 1 u5]] w' fun e w'' => e = .returned (.int .i64 c2) ∧ Below w'.heap.size w' w'') := fun w' k => by have := cells3_any (hDB k) (hB k); rw [HDm.out] at this; simp only [Option.getD_some, hc2] at this; exact this
  have K5 : Hid (∀ w', Below u.heap.size u w' → Calls Try.prog 13 #[.agg #[.slice x1 n1 y1, .slice x2 n2 y2]] w' fun e w'' => e = .returned (.int .i64 c) ∧ Below w'.heap.size w' w'') := fun w' k => by have := cells3_any (HDA.out (kv k)) (HAr.out (kv k)); rw [HMp.out] at this; exact this
  have d0 : Below u.heap.size u u.drew := ⟨rfl, rfl, rfl, Nat.le_refl _, fun _ _ => rfl⟩
  have j0 := hcells d0
  have HC : Hid (∀ {w' : World}, Below u.heap.size u w' → w'.cell? ⟨w.heap.size, 0, none⟩ = some (.slice x1 n1 y1) ∧ w'.cell? ⟨w.heap.size, 1, none⟩ = some (.slice x2 n2 y2) ∧ w'.cell? ⟨w8.heap.size, 0, none⟩ = some (.slice z4 1 u4) ∧ w'.cell? ⟨w8.heap.size, 1, none⟩ = some (.slice z5 1 u5)) := hcells
  have gf : Below w.heap.size w u := k0.trans (k9.mono (by omega))
  have hd0 : 0 ≤ d := by omega
  have hc0 : 0 ≤ c := by have := measF_in 16 t _ HMp.out; simp only [] at this; omega
  have hw1 : IntKind.i64.wrap (d + 1) = d2 := by rw [IntKind.wrap_i64]; omega
  have hw2 : IntKind.i64.wrap (c + 1) = c2 := by rw [IntKind.wrap_i64]; omega
  clear hcells hB hDB kv HAr HDA H HD BX X9 X0 X1 X2 X3 X4 X5 HV hd2 hc2
  go_region_held3 (fun w' => w'.cell? ⟨w.heap.size, 0, none⟩ = some (.slice x1 n1 y1) ∧ w'.cell? ⟨w.heap.size, 1, none⟩ = some (.slice x2 n2 y2) ∧ w'.cell? ⟨w8.heap.size, 0, none⟩ = some (.slice z4 1 u4) ∧ w'.cell? ⟨w8.heap.size, 1, none⟩ = some (.slice z5 1 u5))
    (first | exact jj5 | exact jj4 | exact jj3 | exact jj2 | exact jj1 | exact j0)
    (first
      | (have p := kk4; go_at_call 13; refine (K5.out _ kk4).mono ?_; rintro e ww5 ⟨rfl, qq5⟩; have kk5 : Below u.heap.size u ww5 := kk4.trans (qq5.mono kk4.size); have jj5 := HC.out kk5)
      | (have p := kk3; go_at_call 13; refine (K4.out _ kk3).mono ?_; rintro e ww4 ⟨rfl, qq4⟩; have kk4 : Below u.heap.size u ww4 := kk3.trans (qq4.mono kk3.size); have jj4 := HC.out kk4)
      | (have p := kk2; go_at_call 11; refine (K3.out _ kk2).mono ?_; rintro e ww3 ⟨rfl, qq3⟩; have kk3 : Below u.heap.size u ww3 := kk2.trans (qq3.mono kk2.size); have jj3 := HC.out kk3)
      | (have p := kk1; go_at_call 11; refine (K2.out _ kk1).mono ?_; rintro e ww2 ⟨rfl, qq2⟩; have kk2 : Below u.heap.size u ww2 := kk1.trans (qq2.mono kk1.size); have jj2 := HC.out kk2)
      | (go_at_call 8; refine ((HLv.out _)).mono ?_; rintro e ww1 ⟨rfl, qq1⟩; have kk1 : Below u.heap.size u ww1 := d0.trans (qq1.mono d0.size); have jj1 := HC.out kk1))
  go_wp2
  go_ret
  exact ⟨rfl, gf.trans (kk5.mono gf.size)⟩
end
end Go.Proofs.Ytnkaimkdlpieaaa
