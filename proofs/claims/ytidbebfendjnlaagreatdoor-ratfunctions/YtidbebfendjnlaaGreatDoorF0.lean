/- Two numbers come in, a number goes out: the variables. rat.Sub, rat.Sign. -/
import Derived.Test.YtidbebfendjnlaaGreatDoorJ4
import Derived.Test.YtidbebfendjnlaaGreatDoorJ5
import Derived.Test.YtidbebfendjnlaaGreatDoorJ2
import Derived.Test.YtidbebfendjnlaaGreatDoorJ3
namespace Go.Proofs.YtidbebfendjnlaaGreatDoor
set_option linter.unusedVariables false
set_option linter.unusedSimpArgs false
open Go.RowKit

/-- What lies in memory where two numbers have come in, a result's variable is laid, and both were laid into a list. -/
structure In2 (w W : World) (x0 x1 x2 y0 y1 y2 : Value) : Prop where
  X : Box3 W w.heap.size 25 x0 x1 x2
  Y : Box3 W (w.heap.size + 1) 25 y0 y1 y2
  R : Box3 W (w.heap.size + 1 + 1) 25 (.bool false) (.slice none 0 0) (.slice none 0 0)
  T : Two W (w.heap.size + 1 + 1 + 1) x0 x1 x2 y0 y1 y2
  b : Below w.heap.size w W
  s : w.heap.size + 1 + 1 + 1 < W.heap.size
theorem in2_new (w : World) (x0 x1 x2 y0 y1 y2 : Value) : In2 w ((((w.alloc (.cells #[x0, x1, x2] 25)).alloc (.cells #[y0, y1, y2] 25)).alloc (.cells #[.bool false, .slice none 0 0, .slice none 0 0] 25)).alloc (.cells #[x0, x1, x2, y0, y1, y2] 25)) x0 x1 x2 y0 y1 y2 where
  X := (((box3_new w _ _ _ _).below (below_alloc _ _) (by simp)).below (below_alloc _ _) (by simp <;> omega)).below (below_alloc _ _) (by simp <;> omega)
  Y := by
    have h5 := ((box3_new (w.alloc (.cells #[x0, x1, x2] 25)) y0 y1 y2 25).below (below_alloc _ (.cells #[.bool false, .slice none 0 0, .slice none 0 0] 25)) (by simp)).below (below_alloc _ (.cells #[x0, x1, x2, y0, y1, y2] 25)) (by simp <;> omega)
    simpa using h5
  R := by
    have h5 := (box3_new ((w.alloc (.cells #[x0, x1, x2] 25)).alloc (.cells #[y0, y1, y2] 25)) (.bool false) (.slice none 0 0) (.slice none 0 0) 25).below (below_alloc _ (.cells #[x0, x1, x2, y0, y1, y2] 25)) (by simp)
    simpa using h5
  T := by
    have h5 := two_new (((w.alloc (.cells #[x0, x1, x2] 25)).alloc (.cells #[y0, y1, y2] 25)).alloc (.cells #[.bool false, .slice none 0 0, .slice none 0 0] 25)) x0 x1 x2 y0 y1 y2 25
    simp only [World.size_alloc] at h5
    exact h5
  b := (((below_alloc w _).alloc (by simp) _).alloc (by simp <;> omega) _).alloc (by simp <;> omega) _
  s := by simp

/-- An answer with an error. -/
theorem gives_err {w w2 : World} {P : Prop} {N D : Int} (hP : ¬ P) (hb : Below w.heap.size w w2) : Gives w P N D (.returned (.tuple #[.agg #[.bool false, .slice none 0 0, .slice none 0 0], .int .i64 22])) w2 :=
  ⟨hb, false, none, 0, 0, none, 0, 0, 22, rfl, Or.inl ⟨hP, rfl, rfl, rfl, rfl, rfl, rfl, rfl, rfl⟩⟩
/-- What was made is what is given. -/
theorem RMakes.gives {w w' : World} {P : Prop} {N D : Int} {e : Ending} (h : RMakes w N D e w') (hP : P) : Gives w P N D e w' := by
  obtain ⟨hb, b, x1, n, y1, x2, m, y2, err, rfl, hf⟩ := h.form
  refine ⟨hb, b, x1, n, y1, x2, m, y2, err, rfl, ?_⟩
  rcases hf.out with h | h
  · exact Or.inr (Or.inl ⟨hP, h⟩)
  · exact Or.inr (Or.inr ⟨hP, h⟩)

theorem Box3.set0 {w : World} {B ty : Nat} {x y z : Value} (h : Box3 w B ty x y z) (v : Value) : Box3 (w.setCell ⟨B, 0, none⟩ v) B ty v y z := by
  unfold Box3 at h ⊢; simp [World.setCell, Array.getElem?_modify, h]
theorem Box3.apart {w : World} {B ty : Nat} {x y z : Value} (h : Box3 w B ty x y z) {p : Addr} (hp : p.block ≠ B) (v : Value) : Box3 (w.setCell p v) B ty x y z := by
  unfold Box3 at h ⊢
  have : ¬ p.block = B := hp
  simp [World.setCell, Array.getElem?_modify, h, this]

section
variable {B : Nat} {w : World} {bx cy : Bool} {a1 a2 a3 a4 : Option Addr} {c1 c2 c3 c4 : Nat} {xn xd yn yd : List Int}

set_option maxRecDepth 100000 in
set_option maxHeartbeats 3200000 in
theorem sub_rat (h1 : Rd B w (.slice a1 xn.length c1) xn) (h2 : Rd B w (.slice a2 xd.length c2) xd) (h3 : Rd B w (.slice a3 yn.length c3) yn) (h4 : Rd B w (.slice a4 yd.length c4) yd) (hB : B ≤ w.heap.size) :
    Calls Tryz.prog 29 #[.agg #[.bool bx, .slice a1 xn.length c1, .slice a2 xd.length c2], .agg #[.bool cy, .slice a3 yn.length c3, .slice a4 yd.length c4]] w fun e w' => Gives w (RightP bx xn xd ∧ RightP cy yn yd) (sg bx (val xn) * val yd + sg (!cy) (val yn) * val xd) (val xd * val yd) e w' := by
  have I := in2_new w (.bool bx) (.slice a1 xn.length c1) (.slice a2 xd.length c2) (.bool cy) (.slice a3 yn.length c3) (.slice a4 yd.length c4)
  go_enter Tryz.func29, Tryz.ntmps29
  go_wp2_with fail
  generalize hA : ((((w.alloc (.cells #[.bool bx, .slice a1 xn.length c1, .slice a2 xd.length c2] 25)).alloc (.cells #[.bool cy, .slice a3 yn.length c3, .slice a4 yd.length c4] 25)).alloc (.cells #[.bool false, .slice none 0 0, .slice none 0 0] 25)).alloc (.cells #[.bool bx, .slice a1 xn.length c1, .slice a2 xd.length c2, .bool cy, .slice a3 yn.length c3, .slice a4 yd.length c4] 25)) = wQ at *
  clear hA
  obtain ⟨hX, hY, hR, hT, b0, s0⟩ := I
  refine (allRight2 hT (h1.below (b0.mono hB)) (h2.below (b0.mono hB)) (h3.below (b0.mono hB)) (h4.below (b0.mono hB)) (by omega)).mono ?_
  rintro e wa ⟨⟨r, rfl, hr⟩, ba⟩
  have sa := ba.size
  have bwa : Below w.heap.size w wa := b0.trans (ba.mono (by omega))
  have hRa := hR.below ba (by omega)
  cases r with
  | false =>
    have HP : Hid (¬ (RightP bx xn xd ∧ RightP cy yn yd)) := fun h => by have := hr.2 h; cases this
    clear hr
    have q0 := hRa.c0
    have q1 := hRa.c1
    have q2 := hRa.c2
    have p0 := hRa.f0
    have p1 := hRa.f1
    have p2 := hRa.f2
    go_wp2
    have hR3 := hRa.set (.bool false) (.slice none 0 0) (.slice none 0 0)
    have r0 := hR3.c0
    have r1 := hR3.c1
    have r2 := hR3.c2
    refine bodyPost_ret (v := .tuple #[.agg #[.bool false, .slice none 0 0, .slice none 0 0], .int .i64 22]) (by simp [results, Tryz.results29, go_sem, r0, r1, r2]) rfl ?_
    exact gives_err HP.out (Below.set3 bwa (by omega) _ _ _)
  | true =>
    have HP : Hid (RightP bx xn xd ∧ RightP cy yn yd) := hr.1 rfl
    clear hr
    have hXa := hX.below ba (by omega)
    have hYa := hY.below ba (by omega)
    have y0 := hYa.c0
    have y3 := hYa.f0
    have hYb := hYa.set0 (.bool (!cy))
    have hXb := hXa.apart (p := ⟨w.heap.size + 1, 0, none⟩) (by simp) (.bool (!cy))
    have hRb := hRa.apart (p := ⟨w.heap.size + 1, 0, none⟩) (by simp) (.bool (!cy))
    have bwb : Below w.heap.size w (wa.setCell ⟨w.heap.size + 1, 0, none⟩ (.bool (!cy))) := bwa.setCell (p := ⟨w.heap.size + 1, 0, none⟩) (by simp) _
    have sb : (wa.setCell ⟨w.heap.size + 1, 0, none⟩ (.bool (!cy))).heap.size = wa.heap.size := by simp [World.setCell]
    have k0 := hXb.c0
    have k1 := hXb.c1
    have k2 := hXb.c2
    have k3 := hYb.c0
    have k4 := hYb.c1
    have k5 := hYb.c2
    have hpl := plus_weak (bx := bx) (cy := !cy) (h1.below (bwb.mono hB)) (h2.below (bwb.mono hB)) (h3.below (bwb.mono hB)) (h4.below (bwb.mono hB)) (by omega) HP.out.1.weak HP.out.2.weak
    go_wp2_with fail
    clear k0 k1 k2 k3 k4 k5 y0 y3
    generalize hA : wa.setCell ⟨w.heap.size + 1, 0, none⟩ (.bool (!cy)) = wb at *
    clear hA
    refine hpl.mono ?_
    intro e w6 hm6
    obtain ⟨bm6, b6, x5, n5, y5, x6, n6, y6, err, rfl, hform⟩ := hm6.form
    have hRc := hRb.below bm6 (by omega)
    have q0 := hRc.c0
    have q1 := hRc.c1
    have q2 := hRc.c2
    have p0 := hRc.f0
    have p1 := hRc.f1
    have p2 := hRc.f2
    clear hpl hm6
    go_wp2
    have hR3 := hRc.set (.bool b6) (.slice x5 n5 y5) (.slice x6 n6 y6)
    have r0 := hR3.c0
    have r1 := hR3.c1
    have r2 := hR3.c2
    refine bodyPost_ret (v := .tuple #[.agg #[.bool b6, .slice x5 n5 y5, .slice x6 n6 y6], .int .i64 err]) (by simp [results, Tryz.results29, go_sem, r0, r1, r2]) rfl ?_
    exact (rform_done bwb (by omega) (by omega) bm6 hform).gives HP.out

/-- What rat.Sign answers. -/
def Signs (P : Prop) (b : Bool) (ns : List Int) (e : Ending) : Prop := ∃ r : Int, e = .returned (.int .i64 r) ∧ Hid ((¬ P → r = 0) ∧ (P → r = cmpI (sg b (val ns)) 0))

set_option maxRecDepth 100000 in
set_option maxHeartbeats 1600000 in
theorem sign_rat (h1 : Rd w.heap.size w (.slice a1 xn.length c1) xn) (h2 : Rd w.heap.size w (.slice a2 xd.length c2) xd) :
    Calls Tryz.prog 20 #[.agg #[.bool bx, .slice a1 xn.length c1, .slice a2 xd.length c2]] w fun e w' => Below w.heap.size w w' ∧ Signs (RightP bx xn xd) bx xn e := by
  have X := nvar_new (b := bx) h1 h2
  have b0 := below_alloc w (.cells #[.bool bx, .slice a1 xn.length c1, .slice a2 xd.length c2] 25)
  obtain ⟨k0, k1, k2⟩ := X.cells
  go_enter Tryz.func20, Tryz.ntmps20
  go_wp2_with fail
  clear k0 k1 k2
  generalize hA : w.alloc (.cells #[.bool bx, .slice a1 xn.length c1, .slice a2 xd.length c2] 25) = v at *
  clear hA
  refine (right_rat X.rn X.rd (Nat.le_refl _)).mono ?_
  rintro e wa ⟨⟨r, rfl, hr⟩, ba⟩
  replace X := X.below ba
  have g1 : Below w.heap.size w wa := b0.trans (ba.mono b0.size)
  obtain ⟨k0, k1, k2⟩ := X.cells
  cases r with
  | false =>
    have HP : Hid (¬ RightP bx xn xd) := fun h => by have := hr.2 h; cases this
    clear hr
    go_wp2
    go_ret
    exact ⟨g1, 0, rfl, fun _ => rfl, fun h => absurd h HP.out⟩
  | true =>
    have HP : Hid (RightP bx xn xd) := hr.1 rfl
    clear hr
    by_cases h0 : 0 < xn.length
    · have hb : ((xn.length : Int) == 0) = false := by rw [beq_eq_false_iff_ne]; omega
      have HV : Hid (0 < val xn) := by
        have h5 := can_low HP.out.2.2.1 h0
        have h6 := pw_pos (xn.length - 1)
        unfold Hid; omega
      cases bx with
      | false =>
        go_wp2
        go_ret
        exact ⟨g1, 1, rfl, fun h => absurd HP.out h, fun _ => (cmpI_gt (by have := HV.out; simpa [sg] using this)).symm⟩
      | true =>
        go_wp2
        go_ret
        exact ⟨g1, -1, rfl, fun h => absurd HP.out h, fun _ => (cmpI_lt (by have := HV.out; simp [sg]; omega)).symm⟩
    · have hb : ((xn.length : Int) == 0) = true := by rw [beq_iff_eq]; omega
      have HV : Hid (val xn = 0) := (can_zero HP.out.2.2.1).1 (by omega)
      go_wp2
      go_ret
      exact ⟨g1, 0, rfl, fun h => absurd HP.out h, fun _ => (cmpI_eq (by rw [HV.out, sg_zero])).symm⟩
end
end Go.Proofs.YtidbebfendjnlaaGreatDoor

/- What a reckoning answers, where the number is known. -/
namespace Go.Proofs.YtidbebfendjnlaaGreatDoor
set_option linter.unusedVariables false
set_option linter.unusedSimpArgs false
open Go.RowKit

/-- Lowest terms are unique, however many limbs. -/
theorem lowest_can {b c : Bool} {ns ds ms es : List Int} {N D : Int} (cn : can ns) (cd : can ds) (hd : 0 < ds.length) (hg : gI (val ns) (val ds) = 1) (h : sg b (val ns) * D = N * val ds) (hD : 0 < D) (cm : can ms) (ce : can es) (he : 0 < es.length) (kg : gI (val ms) (val es) = 1) (k : sg c (val ms) * D = N * val es) : ns = ms ∧ ds = es ∧ (0 < val ns → b = c) := by
  have dp : 0 < val ds := by have := can_low cd hd; have := pw_pos (ds.length - 1); omega
  have ep : 0 < val es := by have := can_low ce he; have := pw_pos (es.length - 1); omega
  have np := (val_bound cn.1).1
  have mp := (val_bound cm.1).1
  have e1 : sg b (val ns) * val es = sg c (val ms) * val ds := by
    refine cancel hD ?_
    have q1 : sg b (val ns) * val es * D = sg b (val ns) * D * val es := by ac_rfl
    have q2 : sg c (val ms) * val ds * D = sg c (val ms) * D * val ds := by ac_rfl
    rw [q1, q2, h, k]
    ac_rfl
  rw [← sg_mul, ← sg_mul] at e1
  have n1 : 0 ≤ val ns * val es := Int.mul_nonneg np (by omega)
  have n2 : 0 ≤ val ms * val ds := Int.mul_nonneg mp (by omega)
  have hab : val ns * val es = val ms * val ds ∧ (0 < val ns * val es → b = c) := by
    unfold sg at e1
    generalize val ns * val es = p at *
    generalize val ms * val ds = q at *
    cases b <;> cases c <;> simp at e1
    · exact ⟨e1, fun _ => rfl⟩
    · exact ⟨by omega, fun _ => by omega⟩
    · exact ⟨by omega, fun _ => by omega⟩
    · exact ⟨by omega, fun _ => rfl⟩
  obtain ⟨n, en⟩ := Int.eq_ofNat_of_zero_le np
  obtain ⟨d, ed⟩ := Int.eq_ofNat_of_zero_le (Int.le_of_lt dp)
  obtain ⟨m, em⟩ := Int.eq_ofNat_of_zero_le mp
  obtain ⟨f, ef⟩ := Int.eq_ofNat_of_zero_le (Int.le_of_lt ep)
  have g1 : Nat.gcd n d = 1 := by
    rw [en, ed] at hg
    unfold gI at hg
    simp only [Int.toNat_natCast] at hg
    omega
  have g2 : Nat.gcd m f = 1 := by
    rw [em, ef] at kg
    unfold gI at kg
    simp only [Int.toNat_natCast] at kg
    omega
  have hm := hab.1
  rw [en, ed, em, ef] at hm
  have hmn : n * f = m * d := by exact_mod_cast hm
  have d1 : d ∣ f := (Nat.Coprime.dvd_of_dvd_mul_left (show Nat.Coprime d n by rw [Nat.coprime_comm]; exact g1) ⟨m, by rw [hmn, Nat.mul_comm]⟩)
  have d2 : f ∣ d := (Nat.Coprime.dvd_of_dvd_mul_left (show Nat.Coprime f m by rw [Nat.coprime_comm]; exact g2) ⟨n, by rw [← hmn, Nat.mul_comm]⟩)
  have hdf : d = f := Nat.dvd_antisymm d1 d2
  subst hdf
  have hd0 : 0 < d := by omega
  have hnm : n = m := Nat.eq_of_mul_eq_mul_right hd0 hmn
  exact ⟨can_inj cn cm (by rw [en, em, hnm]), can_inj cd ce (by rw [ed, ef]), fun h0 => hab.2 (Int.mul_pos h0 ep)⟩

/-- What fits is not too great. -/
theorem not_big {b : Bool} {ns ds : List Int} {N D : Int} (hr : RightP b ns ds) (h : sg b (val ns) * D = N * val ds) (hD : 0 < D) : ¬ Big N D := by
  rintro ⟨c, ms, es, cm, ce, he, kg, k, hl⟩
  obtain ⟨rfl, rfl, _⟩ := lowest_can hr.2.2.1 hr.2.2.2.1 hr.2.2.2.2.2.1 hr.2.2.2.2.2.2 h hD cm ce he kg k
  have := hr.1
  have := hr.2.1
  omega
theorem right_is {b c : Bool} {ns ds ms es : List Int} {N D : Int} (hr : RightP b ns ds) (h : sg b (val ns) * D = N * val ds) (hD : 0 < D) (kr : RightP c ms es) (k : sg c (val ms) * D = N * val es) : c = b ∧ ms = ns ∧ es = ds := by
  refine lowest kr hr (cancel hD ?_)
  have q1 : sg c (val ms) * val ds * D = sg c (val ms) * D * val ds := by ac_rfl
  have q2 : sg b (val ns) * val es * D = sg b (val ns) * D * val es := by ac_rfl
  rw [q1, q2, h, k]
  ac_rfl

/-- A known number is answered. -/
def IsNum' (w : World) (b : Bool) (ns ds : List Int) (e : Ending) (w' : World) : Prop :=
  Below w.heap.size w w' ∧ ∃ a1 c1 a2 c2, e = .returned (.tuple #[.agg #[.bool b, .slice a1 ns.length c1, .slice a2 ds.length c2], .int .i64 0]) ∧ Own w.heap.size w' (.slice a1 ns.length c1) ns ∧ Own w.heap.size w' (.slice a2 ds.length c2) ds
theorem gives_is {w w' : World} {P : Prop} {N D : Int} {e : Ending} {b : Bool} {ns ds : List Int} (h : Gives w P N D e w') (hP : P) (hD : 0 < D) (hr : RightP b ns ds) (hv : sg b (val ns) * D = N * val ds) : IsNum' w b ns ds e w' := by
  obtain ⟨hb, c, x1, n, y1, x2, m, y2, err, rfl, ho⟩ := h
  refine ⟨hb, ?_⟩
  rcases ho.out with ⟨hn, _⟩ | ⟨_, _, _, _, _, _, _, _, _, hbig⟩ | ⟨_, rfl, ms, es, rfl, rfl, on, od, kr, kv⟩
  · exact absurd hP hn
  · exact absurd hbig (not_big hr hv hD)
  · obtain ⟨rfl, rfl, rfl⟩ := right_is hr hv hD kr kv
    exact ⟨x1, y1, x2, y2, rfl, on, od⟩
/-- What a reckoning answers: too great, or a right number. -/
theorem gives_or {w w' : World} {P : Prop} {N D : Int} {e : Ending} (h : Gives w P N D e w') (hP : P) : Below w.heap.size w w' ∧ ((e = .returned (.tuple #[.agg #[.bool false, .slice none 0 0, .slice none 0 0], .int .i64 8]) ∧ Big N D) ∨ ∃ b ns ds a1 c1 a2 c2, e = .returned (.tuple #[.agg #[.bool b, .slice a1 ns.length c1, .slice a2 ds.length c2], .int .i64 0]) ∧ Own w.heap.size w' (.slice a1 ns.length c1) ns ∧ Own w.heap.size w' (.slice a2 ds.length c2) ds ∧ RightP b ns ds ∧ sg b (val ns) * D = N * val ds) := by
  obtain ⟨hb, c, x1, n, y1, x2, m, y2, err, rfl, ho⟩ := h
  refine ⟨hb, ?_⟩
  rcases ho.out with ⟨hn, _⟩ | ⟨_, rfl, rfl, rfl, rfl, rfl, rfl, rfl, rfl, hbig⟩ | ⟨_, rfl, ms, es, rfl, rfl, on, od, kr, kv⟩
  · exact absurd hP hn
  · exact Or.inl ⟨rfl, hbig⟩
  · exact Or.inr ⟨c, ms, es, x1, y1, x2, y2, rfl, on, od, kr, kv⟩
theorem nil_rd (w : World) : Rd w.heap.size w (.slice none ([] : List Int).length 0) [] := Own.rd (base := 0) ⟨lim_nil, World.ownsRow_nil _ _ _ _⟩

section
variable {B : Nat} {w : World} {bx cy : Bool} {a1 a2 a3 a4 : Option Addr} {c1 c2 c3 c4 : Nat} {xn xd yn yd : List Int}
set_option maxRecDepth 100000 in
set_option maxHeartbeats 3200000 in
/-- rat.Div by what is not 0. -/
theorem div_nz (h1 : Rd B w (.slice a1 xn.length c1) xn) (h2 : Rd B w (.slice a2 xd.length c2) xd) (h3 : Rd B w (.slice a3 yn.length c3) yn) (h4 : Rd B w (.slice a4 yd.length c4) yd) (hB : B ≤ w.heap.size) (h0 : 0 < yn.length) :
    Calls Tryz.prog 31 #[.agg #[.bool bx, .slice a1 xn.length c1, .slice a2 xd.length c2], .agg #[.bool cy, .slice a3 yn.length c3, .slice a4 yd.length c4]] w fun e w' => Gives w (RightP bx xn xd ∧ RightP cy yn yd) (sg bx (val xn) * sg cy (val yd)) (val xd * val yn) e w' := by
  have I := in2_new w (.bool bx) (.slice a1 xn.length c1) (.slice a2 xd.length c2) (.bool cy) (.slice a3 yn.length c3) (.slice a4 yd.length c4)
  go_enter Tryz.func31, Tryz.ntmps31
  go_wp2_with fail
  generalize hA : ((((w.alloc (.cells #[.bool bx, .slice a1 xn.length c1, .slice a2 xd.length c2] 25)).alloc (.cells #[.bool cy, .slice a3 yn.length c3, .slice a4 yd.length c4] 25)).alloc (.cells #[.bool false, .slice none 0 0, .slice none 0 0] 25)).alloc (.cells #[.bool bx, .slice a1 xn.length c1, .slice a2 xd.length c2, .bool cy, .slice a3 yn.length c3, .slice a4 yd.length c4] 25)) = wQ at *
  clear hA
  obtain ⟨hX, hY, hR, hT, b0, s0⟩ := I
  refine (allRight2 hT (h1.below (b0.mono hB)) (h2.below (b0.mono hB)) (h3.below (b0.mono hB)) (h4.below (b0.mono hB)) (by omega)).mono ?_
  rintro e wa ⟨⟨r, rfl, hr⟩, ba⟩
  have sa := ba.size
  have bwa : Below w.heap.size w wa := b0.trans (ba.mono (by omega))
  have hRa := hR.below ba (by omega)
  cases r with
  | false =>
    have HP : Hid (¬ (RightP bx xn xd ∧ RightP cy yn yd)) := fun h => by have := hr.2 h; cases this
    clear hr
    have q0 := hRa.c0
    have q1 := hRa.c1
    have q2 := hRa.c2
    have p0 := hRa.f0
    have p1 := hRa.f1
    have p2 := hRa.f2
    go_wp2
    have hR3 := hRa.set (.bool false) (.slice none 0 0) (.slice none 0 0)
    have r0 := hR3.c0
    have r1 := hR3.c1
    have r2 := hR3.c2
    refine bodyPost_ret (v := .tuple #[.agg #[.bool false, .slice none 0 0, .slice none 0 0], .int .i64 22]) (by simp [results, Tryz.results31, go_sem, r0, r1, r2]) rfl ?_
    exact gives_err HP.out (Below.set3 bwa (by omega) _ _ _)
  | true =>
    have HP : Hid (RightP bx xn xd ∧ RightP cy yn yd) := hr.1 rfl
    clear hr
    have hXa := hX.below ba (by omega)
    have hYa := hY.below ba (by omega)
    have k0 := hXa.c0
    have k1 := hXa.c1
    have k2 := hXa.c2
    have k3 := hYa.c0
    have k4 := hYa.c1
    have k5 := hYa.c2
    have hpl := by_rat (bx := bx) (cy := cy) (h1.below (bwa.mono hB)) (h2.below (bwa.mono hB)) (h3.below (bwa.mono hB)) (h4.below (bwa.mono hB)) (by omega) HP.out.1 HP.out.2 h0
    go_wp2_with fail
    clear k0 k1 k2 k3 k4 k5
    refine hpl.mono ?_
    intro e w6 hm6
    obtain ⟨bm6, b6, x5, n5, y5, x6, n6, y6, err, rfl, hform⟩ := hm6.form
    have hRc := hRa.below bm6 (by omega)
    have q0 := hRc.c0
    have q1 := hRc.c1
    have q2 := hRc.c2
    have p0 := hRc.f0
    have p1 := hRc.f1
    have p2 := hRc.f2
    clear hpl hm6
    go_wp2
    have hR3 := hRc.set (.bool b6) (.slice x5 n5 y5) (.slice x6 n6 y6)
    have r0 := hR3.c0
    have r1 := hR3.c1
    have r2 := hR3.c2
    refine bodyPost_ret (v := .tuple #[.agg #[.bool b6, .slice x5 n5 y5, .slice x6 n6 y6], .int .i64 err]) (by simp [results, Tryz.results31, go_sem, r0, r1, r2]) rfl ?_
    exact (rform_done bwa (by omega) (by omega) bm6 hform).gives HP.out
end
end Go.Proofs.YtidbebfendjnlaaGreatDoor

/- nat.word, nat.Small. -/
namespace Go.Proofs.YtidbebfendjnlaaGreatDoor
set_option linter.unusedVariables false
set_option linter.unusedSimpArgs false
open Go.RowKit

theorem or_zero_left (x : Int) (h : 0 ≤ x ∧ x < 18446744073709551616) : bits .or .u64 0 x = x := by
  obtain ⟨a, rfl⟩ := Int.eq_ofNat_of_zero_le h.1
  have := bits_or_u64_nat 0 a (by omega) (by omega)
  rw [Nat.zero_or] at this
  exact this
theorem or_add_right (q v : Int) (hq : 0 ≤ q ∧ q < 4294967296) (hv : 0 ≤ v ∧ v < 4294967296) : bits .or .u64 v (q * 4294967296) = v + q * 4294967296 := by
  obtain ⟨a, rfl⟩ := Int.eq_ofNat_of_zero_le hq.1
  obtain ⟨b, rfl⟩ := Int.eq_ofNat_of_zero_le hv.1
  have e : ((a : Int) * 4294967296) = ((a * 4294967296 : Nat) : Int) := by omega
  rw [e, bits_or_u64_nat _ _ (by omega) (by omega)]
  have h : b ||| a * 4294967296 = a * 4294967296 + b := by
    have := Nat.two_pow_add_eq_or_of_lt (i := 32) (b := b) (by omega) a
    rw [Nat.mul_comm, Nat.or_comm]
    exact this.symm
  rw [h]; omega

set_option maxHeartbeats 800000 in
theorem word_two (b o c : Nat) (x y : Int) (w : World) (hx : 0 ≤ x ∧ x < 4294967296) (hy : 0 ≤ y ∧ y < 4294967296) (k1 : w.cell? ⟨b, o, none⟩ = some (.int .u32 x)) (k2 : w.cell? ⟨b, o + 1, none⟩ = some (.int .u32 y)) :
    Calls Tryz.prog 115 #[.slice (some ⟨b, o, none⟩) 2 c] w fun e w' => e = .returned (.int .u64 (x + y * 4294967296)) ∧ w = w' := by
  have e1 := or_zero_left x (by omega)
  have e2 := or_add_right y x hy hx
  go_enter Tryz.func115, Tryz.ntmps115
  go_wp2
  refine wp_loop_rounds 3 ?_
  rw [rounds_succ]
  go_wp2
  rw [rounds_succ]
  go_wp2
  rw [rounds_succ]
  go_wp2
  go_ret
  exact ⟨rfl, rfl⟩

set_option maxHeartbeats 800000 in
theorem word_one (b o c : Nat) (x : Int) (w : World) (hx : 0 ≤ x ∧ x < 4294967296) (k1 : w.cell? ⟨b, o, none⟩ = some (.int .u32 x)) :
    Calls Tryz.prog 115 #[.slice (some ⟨b, o, none⟩) 1 c] w fun e w' => e = .returned (.int .u64 x) ∧ w = w' := by
  have e1 := or_zero_left x (by omega)
  go_enter Tryz.func115, Tryz.ntmps115
  go_wp2
  refine wp_loop_rounds 2 ?_
  rw [rounds_succ]
  go_wp2
  rw [rounds_succ]
  go_wp2
  go_ret
  exact ⟨rfl, rfl⟩
theorem word_zero (a : Option Addr) (c : Nat) (w : World) :
    Calls Tryz.prog 115 #[.slice a 0 c] w fun e w' => e = .returned (.int .u64 0) ∧ w = w' := by
  go_enter Tryz.func115, Tryz.ntmps115
  go_wp2
  refine wp_loop_rounds 1 ?_
  rw [rounds_succ]
  go_wp2
  go_ret
  exact ⟨rfl, rfl⟩

/-- nat.word of at most two limbs: the number. -/
theorem word_rd {B : Nat} {w : World} {v : Value} {xs : List Int} (h : Rd B w v xs) (h2 : xs.length ≤ 2) :
    Calls Tryz.prog 115 #[v] w fun e w' => e = .returned (.int .u64 (val xs)) ∧ w = w' := by
  obtain ⟨hl, a, c, rfl, _, _, _, r⟩ := h
  match xs, h2 with
  | [], _ => exact word_zero a c w
  | [x], _ =>
    rcases r with r | ⟨b, o, rfl, _, k⟩
    · simp at r
    · have e : val [x] = x := by simp [val]
      rw [e]
      exact word_one b o c x w (hl x (by simp)) (k 0 (by simp))
  | [x, y], _ =>
    rcases r with r | ⟨b, o, rfl, _, k⟩
    · simp at r
    · have e : val [x, y] = x + y * 4294967296 := by simp [val]; rw [Int.mul_comm]
      rw [e]
      exact word_two b o c x y w (hl x (by simp)) (hl y (by simp)) (k 0 (by simp)) (k 1 (by simp))

/-- A number as an int, if it is below 2^63. -/
def smallV (n : Int) : Value := .tuple #[.int .i64 (if n < 9223372036854775808 then n else 0), .bool (decide (n < 9223372036854775808))]

theorem smallV_lt {n : Int} (h : n < 9223372036854775808) : smallV n = .tuple #[.int .i64 n, .bool true] := by unfold smallV; rw [if_pos h, decide_eq_true h]
theorem smallV_ge {n : Int} (h : 9223372036854775808 ≤ n) : smallV n = .tuple #[.int .i64 0, .bool false] := by unfold smallV; rw [if_neg (by omega), decide_eq_false (by omega)]
theorem list_two {us : List Int} (h : us.length ≤ 2) : us = [] ∨ (∃ x, us = [x]) ∨ ∃ x y, us = [x, y] := by
  match us, h with
  | [], _ => exact Or.inl rfl
  | [x], _ => exact Or.inr (Or.inl ⟨x, rfl⟩)
  | [x, y], _ => exact Or.inr (Or.inr ⟨x, y, rfl⟩)

theorem isBits_63 {n : Int} {b : Nat} (h : isBits n b) (h0 : 0 ≤ n) : b ≤ 63 ↔ n < 9223372036854775808 := by
  have e : p2 63 = 9223372036854775808 := by decide
  rcases h with ⟨rfl, rfl⟩ | ⟨h1, h2, h3⟩
  · exact ⟨fun _ => by omega, fun _ => by omega⟩
  · constructor
    · intro hb
      have := p2_mono (j := b) (k := 63) hb
      omega
    · intro hn
      by_cases hb : b ≤ 63
      · exact hb
      · have := p2_mono (j := 63) (k := b - 1) (by omega)
        omega

theorem can_two {us : List Int} (h : can us) (hv : val us < 18446744073709551616) : us.length ≤ 2 := by
  by_cases hl : us.length ≤ 2
  · exact hl
  · have h1 := can_low h (by omega)
    have h2 := pw_mono (j := 2) (k := us.length - 1) (by omega)
    have e : pw 2 = 18446744073709551616 := by decide
    omega

set_option maxHeartbeats 800000 in
/-- nat.Small. -/
theorem small_any {B : Nat} {w : World} {v : Value} {xs : List Int} (h : Rd B w v xs) (hn : xs.length ≤ 17592186044415) :
    Calls Tryz.prog 67 #[v] w fun e w' => e = .returned (smallV (val xs)) ∧ w = w' := by
  have h0 := (val_bound h.lim).1
  have m := meant_rd h
  have t := h.meant
  have ct := tr_can h.lim
  rw [← tr_length] at m t
  have hv := val_tr xs
  go_enter Tryz.func67, Tryz.ntmps67
  go_wp2_with fail
  refine (bits_any h hn).mono ?_
  rintro e w' ⟨b, rfl, hb, hbl, rfl⟩
  have h63 := isBits_63 hb h0
  clear hb
  generalize hV : val xs = V at *
  by_cases hlt : V < 9223372036854775808
  · have hb63 : b ≤ 63 := h63.2 hlt
    have hl2 : (tr xs).length ≤ 2 := can_two ct (by omega)
    have hw := word_rd t hl2
    rw [hv] at hw
    have HV : Hid (val xs = V) := hV
    clear h63 hv hV
    go_wp2_with fail
    refine m.mono ?_
    rintro e w' ⟨rfl, rfl⟩
    go_wp2_with fail
    refine hw.mono ?_
    rintro e w' ⟨rfl, rfl⟩
    go_wp2
    go_ret2
    refine ⟨?_, rfl⟩
    rw [HV.out, smallV_lt hlt]; rfl
  · have hb63 : ¬ b ≤ 63 := fun hb => hlt (h63.1 hb)
    have hb63' : 63 < b := by omega
    have HV : Hid (val xs = V) := hV
    clear h63 hv hV
    go_wp2
    go_ret2
    refine ⟨?_, rfl⟩
    rw [HV.out, smallV_ge (by omega)]; rfl

end Go.Proofs.YtidbebfendjnlaaGreatDoor
