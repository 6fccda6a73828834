/- Two numbers come in, a number goes out: the variables. rat.Sub, rat.Sign. -/
import Derived.Test.YtidbebfendjnlaaGreatDoorJ4
import Derived.Test.YtidbebfendjnlaaGreatDoorJ5
import Derived.Test.YtidbebfendjnlaaGreatDoorJ2
import Derived.Test.YtidbebfendjnlaaGreatDoorJ3
import Derived.Deep.RegionHeld3
import Derived.Test.YtidbebfendjnlaaGreatDoorJ1
import Derived.Deep.Cut
import Derived.Deep.CutRange
namespace Go.Proofs.YtidbebfendjnlaaGreatDoor
set_option linter.unusedVariables false
set_option linter.unusedSimpArgs false
open Go.RowKit

/-- What lies in memory where two numbers have come in, a result's variable is laid, and both were laid into a list. -/
structure In2 (w W : World) (x0 x1 x2 y0 y1 y2 : Value) : Prop where
  X : Box3 W w.heap.size 25 x0 x1 x2
  Y : Box3 W (w.heap.size + 1) 25 y0 y1 y2
  R : Box3 W (w.heap.size + 1 + 1) 25 (.bool false) (.slice none 0 0) (.slice none 0 0)
  T : Two W (w.heap.size + 1 + 1 + 1) x0 x1 x2 y0 y1 y2
  b : Below w.heap.size w W
  s : w.heap.size + 1 + 1 + 1 < W.heap.size
theorem in2_new (w : World) (x0 x1 x2 y0 y1 y2 : Value) : In2 w ((((w.alloc (.cells #[x0, x1, x2] 25)).alloc (.cells #[y0, y1, y2] 25)).alloc (.cells #[.bool false, .slice none 0 0, .slice none 0 0] 25)).alloc (.cells #[x0, x1, x2, y0, y1, y2] 25)) x0 x1 x2 y0 y1 y2 where
  X := (((box3_new w _ _ _ _).below (below_alloc _ _) (by simp)).below (below_alloc _ _) (by simp <;> omega)).below (below_alloc _ _) (by simp <;> omega)
  Y := by
    have h5 := ((box3_new (w.alloc (.cells #[x0, x1, x2] 25)) y0 y1 y2 25).below (below_alloc _ (.cells #[.bool false, .slice none 0 0, .slice none 0 0] 25)) (by simp)).below (below_alloc _ (.cells #[x0, x1, x2, y0, y1, y2] 25)) (by simp <;> omega)
    simpa using h5
  R := by
    have h5 := (box3_new ((w.alloc (.cells #[x0, x1, x2] 25)).alloc (.cells #[y0, y1, y2] 25)) (.bool false) (.slice none 0 0) (.slice none 0 0) 25).below (below_alloc _ (.cells #[x0, x1, x2, y0, y1, y2] 25)) (by simp)
    simpa using h5
  T := by
    have h5 := two_new (((w.alloc (.cells #[x0, x1, x2] 25)).alloc (.cells #[y0, y1, y2] 25)).alloc (.cells #[.bool false, .slice none 0 0, .slice none 0 0] 25)) x0 x1 x2 y0 y1 y2 25
    simp only [World.size_alloc] at h5
    exact h5
  b := (((below_alloc w _).alloc (by simp) _).alloc (by simp <;> omega) _).alloc (by simp <;> omega) _
  s := by simp

/-- An answer with an error. -/
theorem gives_err {w w2 : World} {P : Prop} {N D : Int} (hP : ¬ P) (hb : Below w.heap.size w w2) : Gives w P N D (.returned (.tuple #[.agg #[.bool false, .slice none 0 0, .slice none 0 0], .int .i64 22])) w2 :=
  ⟨hb, false, none, 0, 0, none, 0, 0, 22, rfl, Or.inl ⟨hP, rfl, rfl, rfl, rfl, rfl, rfl, rfl, rfl⟩⟩
/-- What was made is what is given. -/
theorem RMakes.gives {w w' : World} {P : Prop} {N D : Int} {e : Ending} (h : RMakes w N D e w') (hP : P) : Gives w P N D e w' := by
  obtain ⟨hb, b, x1, n, y1, x2, m, y2, err, rfl, hf⟩ := h.form
  refine ⟨hb, b, x1, n, y1, x2, m, y2, err, rfl, ?_⟩
  rcases hf.out with h | h
  · exact Or.inr (Or.inl ⟨hP, h⟩)
  · exact Or.inr (Or.inr ⟨hP, h⟩)

theorem Box3.set0 {w : World} {B ty : Nat} {x y z : Value} (h : Box3 w B ty x y z) (v : Value) : Box3 (w.setCell ⟨B, 0, none⟩ v) B ty v y z := by
  unfold Box3 at h ⊢; simp [World.setCell, Array.getElem?_modify, h]
theorem Box3.apart {w : World} {B ty : Nat} {x y z : Value} (h : Box3 w B ty x y z) {p : Addr} (hp : p.block ≠ B) (v : Value) : Box3 (w.setCell p v) B ty x y z := by
  unfold Box3 at h ⊢
  have : ¬ p.block = B := hp
  simp [World.setCell, Array.getElem?_modify, h, this]

section
variable {B : Nat} {w : World} {bx cy : Bool} {a1 a2 a3 a4 : Option Addr} {c1 c2 c3 c4 : Nat} {xn xd yn yd : List Int}

set_option maxRecDepth 100000 in
set_option maxHeartbeats 3200000 in
theorem sub_rat (h1 : Rd B w (.slice a1 xn.length c1) xn) (h2 : Rd B w (.slice a2 xd.length c2) xd) (h3 : Rd B w (.slice a3 yn.length c3) yn) (h4 : Rd B w (.slice a4 yd.length c4) yd) (hB : B ≤ w.heap.size) :
    Calls Tryz.prog 29 #[.agg #[.bool bx, .slice a1 xn.length c1, .slice a2 xd.length c2], .agg #[.bool cy, .slice a3 yn.length c3, .slice a4 yd.length c4]] w fun e w' => Gives w (RightP bx xn xd ∧ RightP cy yn yd) (sg bx (val xn) * val yd + sg (!cy) (val yn) * val xd) (val xd * val yd) e w' := by
  have I := in2_new w (.bool bx) (.slice a1 xn.length c1) (.slice a2 xd.length c2) (.bool cy) (.slice a3 yn.length c3) (.slice a4 yd.length c4)
  go_enter Tryz.func29, Tryz.ntmps29
  go_wp2_with fail
  generalize hA : ((((w.alloc (.cells #[.bool bx, .slice a1 xn.length c1, .slice a2 xd.length c2] 25)).alloc (.cells #[.bool cy, .slice a3 yn.length c3, .slice a4 yd.length c4] 25)).alloc (.cells #[.bool false, .slice none 0 0, .slice none 0 0] 25)).alloc (.cells #[.bool bx, .slice a1 xn.length c1, .slice a2 xd.length c2, .bool cy, .slice a3 yn.length c3, .slice a4 yd.length c4] 25)) = wQ at *
  clear hA
  obtain ⟨hX, hY, hR, hT, b0, s0⟩ := I
  refine (allRight2 hT (h1.below (b0.mono hB)) (h2.below (b0.mono hB)) (h3.below (b0.mono hB)) (h4.below (b0.mono hB)) (by omega)).mono ?_
  rintro e wa ⟨⟨r, rfl, hr⟩, ba⟩
  have sa := ba.size
  have bwa : Below w.heap.size w wa := b0.trans (ba.mono (by omega))
  have hRa := hR.below ba (by omega)
  cases r with
  | false =>
    have HP : Hid (¬ (RightP bx xn xd ∧ RightP cy yn yd)) := fun h => by have := hr.2 h; cases this
    clear hr
    have q0 := hRa.c0
    have q1 := hRa.c1
    have q2 := hRa.c2
    have p0 := hRa.f0
    have p1 := hRa.f1
    have p2 := hRa.f2
    go_wp2
    have hR3 := hRa.set (.bool false) (.slice none 0 0) (.slice none 0 0)
    have r0 := hR3.c0
    have r1 := hR3.c1
    have r2 := hR3.c2
    refine bodyPost_ret (v := .tuple #[.agg #[.bool false, .slice none 0 0, .slice none 0 0], .int .i64 22]) (by simp [results, Tryz.results29, go_sem, r0, r1, r2]) rfl ?_
    exact gives_err HP.out (Below.set3 bwa (by omega) _ _ _)
  | true =>
    have HP : Hid (RightP bx xn xd ∧ RightP cy yn yd) := hr.1 rfl
    clear hr
    have hXa := hX.below ba (by omega)
    have hYa := hY.below ba (by omega)
    have y0 := hYa.c0
    have y3 := hYa.f0
    have hYb := hYa.set0 (.bool (!cy))
    have hXb := hXa.apart (p := ⟨w.heap.size + 1, 0, none⟩) (by simp) (.bool (!cy))
    have hRb := hRa.apart (p := ⟨w.heap.size + 1, 0, none⟩) (by simp) (.bool (!cy))
    have bwb : Below w.heap.size w (wa.setCell ⟨w.heap.size + 1, 0, none⟩ (.bool (!cy))) := bwa.setCell (p := ⟨w.heap.size + 1, 0, none⟩) (by simp) _
    have sb : (wa.setCell ⟨w.heap.size + 1, 0, none⟩ (.bool (!cy))).heap.size = wa.heap.size := by simp [World.setCell]
    have k0 := hXb.c0
    have k1 := hXb.c1
    have k2 := hXb.c2
    have k3 := hYb.c0
    have k4 := hYb.c1
    have k5 := hYb.c2
    have hpl := plus_weak (bx := bx) (cy := !cy) (h1.below (bwb.mono hB)) (h2.below (bwb.mono hB)) (h3.below (bwb.mono hB)) (h4.below (bwb.mono hB)) (by omega) HP.out.1.weak HP.out.2.weak
    go_wp2_with fail
    clear k0 k1 k2 k3 k4 k5 y0 y3
    generalize hA : wa.setCell ⟨w.heap.size + 1, 0, none⟩ (.bool (!cy)) = wb at *
    clear hA
    refine hpl.mono ?_
    intro e w6 hm6
    obtain ⟨bm6, b6, x5, n5, y5, x6, n6, y6, err, rfl, hform⟩ := hm6.form
    have hRc := hRb.below bm6 (by omega)
    have q0 := hRc.c0
    have q1 := hRc.c1
    have q2 := hRc.c2
    have p0 := hRc.f0
    have p1 := hRc.f1
    have p2 := hRc.f2
    clear hpl hm6
    go_wp2
    have hR3 := hRc.set (.bool b6) (.slice x5 n5 y5) (.slice x6 n6 y6)
    have r0 := hR3.c0
    have r1 := hR3.c1
    have r2 := hR3.c2
    refine bodyPost_ret (v := .tuple #[.agg #[.bool b6, .slice x5 n5 y5, .slice x6 n6 y6], .int .i64 err]) (by simp [results, Tryz.results29, go_sem, r0, r1, r2]) rfl ?_
    exact (rform_done bwb (by omega) (by omega) bm6 hform).gives HP.out

/-- What rat.Sign answers. -/
def Signs (P : Prop) (b : Bool) (ns : List Int) (e : Ending) : Prop := ∃ r : Int, e = .returned (.int .i64 r) ∧ Hid ((¬ P → r = 0) ∧ (P → r = cmpI (sg b (val ns)) 0))

set_option maxRecDepth 100000 in
set_option maxHeartbeats 1600000 in
theorem sign_rat (h1 : Rd w.heap.size w (.slice a1 xn.length c1) xn) (h2 : Rd w.heap.size w (.slice a2 xd.length c2) xd) :
    Calls Tryz.prog 20 #[.agg #[.bool bx, .slice a1 xn.length c1, .slice a2 xd.length c2]] w fun e w' => Below w.heap.size w w' ∧ Signs (RightP bx xn xd) bx xn e := by
  have X := nvar_new (b := bx) h1 h2
  have b0 := below_alloc w (.cells #[.bool bx, .slice a1 xn.length c1, .slice a2 xd.length c2] 25)
  obtain ⟨k0, k1, k2⟩ := X.cells
  go_enter Tryz.func20, Tryz.ntmps20
  go_wp2_with fail
  clear k0 k1 k2
  generalize hA : w.alloc (.cells #[.bool bx, .slice a1 xn.length c1, .slice a2 xd.length c2] 25) = v at *
  clear hA
  refine (right_rat X.rn X.rd (Nat.le_refl _)).mono ?_
  rintro e wa ⟨⟨r, rfl, hr⟩, ba⟩
  replace X := X.below ba
  have g1 : Below w.heap.size w wa := b0.trans (ba.mono b0.size)
  obtain ⟨k0, k1, k2⟩ := X.cells
  cases r with
  | false =>
    have HP : Hid (¬ RightP bx xn xd) := fun h => by have := hr.2 h; cases this
    clear hr
    go_wp2
    go_ret
    exact ⟨g1, 0, rfl, fun _ => rfl, fun h => absurd h HP.out⟩
  | true =>
    have HP : Hid (RightP bx xn xd) := hr.1 rfl
    clear hr
    by_cases h0 : 0 < xn.length
    · have hb : ((xn.length : Int) == 0) = false := by rw [beq_eq_false_iff_ne]; omega
      have HV : Hid (0 < val xn) := by
        have h5 := can_low HP.out.2.2.1 h0
        have h6 := pw_pos (xn.length - 1)
        unfold Hid; omega
      cases bx with
      | false =>
        go_wp2
        go_ret
        exact ⟨g1, 1, rfl, fun h => absurd HP.out h, fun _ => (cmpI_gt (by have := HV.out; simpa [sg] using this)).symm⟩
      | true =>
        go_wp2
        go_ret
        exact ⟨g1, -1, rfl, fun h => absurd HP.out h, fun _ => (cmpI_lt (by have := HV.out; simp [sg]; omega)).symm⟩
    · have hb : ((xn.length : Int) == 0) = true := by rw [beq_iff_eq]; omega
      have HV : Hid (val xn = 0) := (can_zero HP.out.2.2.1).1 (by omega)
      go_wp2
      go_ret
      exact ⟨g1, 0, rfl, fun h => absurd HP.out h, fun _ => (cmpI_eq (by rw [HV.out, sg_zero])).symm⟩
end
end Go.Proofs.YtidbebfendjnlaaGreatDoor

/- What a reckoning answers, where the number is known. -/
namespace Go.Proofs.YtidbebfendjnlaaGreatDoor
set_option linter.unusedVariables false
set_option linter.unusedSimpArgs false
open Go.RowKit

/-- Lowest terms are unique, however many limbs. -/
theorem lowest_can {b c : Bool} {ns ds ms es : List Int} {N D : Int} (cn : can ns) (cd : can ds) (hd : 0 < ds.length) (hg : gI (val ns) (val ds) = 1) (h : sg b (val ns) * D = N * val ds) (hD : 0 < D) (cm : can ms) (ce : can es) (he : 0 < es.length) (kg : gI (val ms) (val es) = 1) (k : sg c (val ms) * D = N * val es) : ns = ms ∧ ds = es ∧ (0 < val ns → b = c) := by
  have dp : 0 < val ds := by have := can_low cd hd; have := pw_pos (ds.length - 1); omega
  have ep : 0 < val es := by have := can_low ce he; have := pw_pos (es.length - 1); omega
  have np := (val_bound cn.1).1
  have mp := (val_bound cm.1).1
  have e1 : sg b (val ns) * val es = sg c (val ms) * val ds := by
    refine cancel hD ?_
    have q1 : sg b (val ns) * val es * D = sg b (val ns) * D * val es := by ac_rfl
    have q2 : sg c (val ms) * val ds * D = sg c (val ms) * D * val ds := by ac_rfl
    rw [q1, q2, h, k]
    ac_rfl
  rw [← sg_mul, ← sg_mul] at e1
  have n1 : 0 ≤ val ns * val es := Int.mul_nonneg np (by omega)
  have n2 : 0 ≤ val ms * val ds := Int.mul_nonneg mp (by omega)
  have hab : val ns * val es = val ms * val ds ∧ (0 < val ns * val es → b = c) := by
    unfold sg at e1
    generalize val ns * val es = p at *
    generalize val ms * val ds = q at *
    cases b <;> cases c <;> simp at e1
    · exact ⟨e1, fun _ => rfl⟩
    · exact ⟨by omega, fun _ => by omega⟩
    · exact ⟨by omega, fun _ => by omega⟩
    · exact ⟨by omega, fun _ => rfl⟩
  obtain ⟨n, en⟩ := Int.eq_ofNat_of_zero_le np
  obtain ⟨d, ed⟩ := Int.eq_ofNat_of_zero_le (Int.le_of_lt dp)
  obtain ⟨m, em⟩ := Int.eq_ofNat_of_zero_le mp
  obtain ⟨f, ef⟩ := Int.eq_ofNat_of_zero_le (Int.le_of_lt ep)
  have g1 : Nat.gcd n d = 1 := by
    rw [en, ed] at hg
    unfold gI at hg
    simp only [Int.toNat_natCast] at hg
    omega
  have g2 : Nat.gcd m f = 1 := by
    rw [em, ef] at kg
    unfold gI at kg
    simp only [Int.toNat_natCast] at kg
    omega
  have hm := hab.1
  rw [en, ed, em, ef] at hm
  have hmn : n * f = m * d := by exact_mod_cast hm
  have d1 : d ∣ f := (Nat.Coprime.dvd_of_dvd_mul_left (show Nat.Coprime d n by rw [Nat.coprime_comm]; exact g1) ⟨m, by rw [hmn, Nat.mul_comm]⟩)
  have d2 : f ∣ d := (Nat.Coprime.dvd_of_dvd_mul_left (show Nat.Coprime f m by rw [Nat.coprime_comm]; exact g2) ⟨n, by rw [← hmn, Nat.mul_comm]⟩)
  have hdf : d = f := Nat.dvd_antisymm d1 d2
  subst hdf
  have hd0 : 0 < d := by omega
  have hnm : n = m := Nat.eq_of_mul_eq_mul_right hd0 hmn
  exact ⟨can_inj cn cm (by rw [en, em, hnm]), can_inj cd ce (by rw [ed, ef]), fun h0 => hab.2 (Int.mul_pos h0 ep)⟩

/-- What fits is not too great. -/
theorem not_big {b : Bool} {ns ds : List Int} {N D : Int} (hr : RightP b ns ds) (h : sg b (val ns) * D = N * val ds) (hD : 0 < D) : ¬ Big N D := by
  rintro ⟨c, ms, es, cm, ce, he, kg, k, hl⟩
  obtain ⟨rfl, rfl, _⟩ := lowest_can hr.2.2.1 hr.2.2.2.1 hr.2.2.2.2.2.1 hr.2.2.2.2.2.2 h hD cm ce he kg k
  have := hr.1
  have := hr.2.1
  omega
theorem right_is {b c : Bool} {ns ds ms es : List Int} {N D : Int} (hr : RightP b ns ds) (h : sg b (val ns) * D = N * val ds) (hD : 0 < D) (kr : RightP c ms es) (k : sg c (val ms) * D = N * val es) : c = b ∧ ms = ns ∧ es = ds := by
  refine lowest kr hr (cancel hD ?_)
  have q1 : sg c (val ms) * val ds * D = sg c (val ms) * D * val ds := by ac_rfl
  have q2 : sg b (val ns) * val es * D = sg b (val ns) * D * val es := by ac_rfl
  rw [q1, q2, h, k]
  ac_rfl

/-- A known number is answered. -/
def IsNum' (w : World) (b : Bool) (ns ds : List Int) (e : Ending) (w' : World) : Prop :=
  Below w.heap.size w w' ∧ ∃ a1 c1 a2 c2, e = .returned (.tuple #[.agg #[.bool b, .slice a1 ns.length c1, .slice a2 ds.length c2], .int .i64 0]) ∧ Own w.heap.size w' (.slice a1 ns.length c1) ns ∧ Own w.heap.size w' (.slice a2 ds.length c2) ds
theorem gives_is {w w' : World} {P : Prop} {N D : Int} {e : Ending} {b : Bool} {ns ds : List Int} (h : Gives w P N D e w') (hP : P) (hD : 0 < D) (hr : RightP b ns ds) (hv : sg b (val ns) * D = N * val ds) : IsNum' w b ns ds e w' := by
  obtain ⟨hb, c, x1, n, y1, x2, m, y2, err, rfl, ho⟩ := h
  refine ⟨hb, ?_⟩
  rcases ho.out with ⟨hn, _⟩ | ⟨_, _, _, _, _, _, _, _, _, hbig⟩ | ⟨_, rfl, ms, es, rfl, rfl, on, od, kr, kv⟩
  · exact absurd hP hn
  · exact absurd hbig (not_big hr hv hD)
  · obtain ⟨rfl, rfl, rfl⟩ := right_is hr hv hD kr kv
    exact ⟨x1, y1, x2, y2, rfl, on, od⟩
/-- What a reckoning answers: too great, or a right number. -/
theorem gives_or {w w' : World} {P : Prop} {N D : Int} {e : Ending} (h : Gives w P N D e w') (hP : P) : Below w.heap.size w w' ∧ ((e = .returned (.tuple #[.agg #[.bool false, .slice none 0 0, .slice none 0 0], .int .i64 8]) ∧ Big N D) ∨ ∃ b ns ds a1 c1 a2 c2, e = .returned (.tuple #[.agg #[.bool b, .slice a1 ns.length c1, .slice a2 ds.length c2], .int .i64 0]) ∧ Own w.heap.size w' (.slice a1 ns.length c1) ns ∧ Own w.heap.size w' (.slice a2 ds.length c2) ds ∧ RightP b ns ds ∧ sg b (val ns) * D = N * val ds) := by
  obtain ⟨hb, c, x1, n, y1, x2, m, y2, err, rfl, ho⟩ := h
  refine ⟨hb, ?_⟩
  rcases ho.out with ⟨hn, _⟩ | ⟨_, rfl, rfl, rfl, rfl, rfl, rfl, rfl, rfl, hbig⟩ | ⟨_, rfl, ms, es, rfl, rfl, on, od, kr, kv⟩
  · exact absurd hP hn
  · exact Or.inl ⟨rfl, hbig⟩
  · exact Or.inr ⟨c, ms, es, x1, y1, x2, y2, rfl, on, od, kr, kv⟩
theorem nil_rd (w : World) : Rd w.heap.size w (.slice none ([] : List Int).length 0) [] := Own.rd (base := 0) ⟨lim_nil, World.ownsRow_nil _ _ _ _⟩

section
variable {B : Nat} {w : World} {bx cy : Bool} {a1 a2 a3 a4 : Option Addr} {c1 c2 c3 c4 : Nat} {xn xd yn yd : List Int}
set_option maxRecDepth 100000 in
set_option maxHeartbeats 3200000 in
/-- rat.Div by what is not 0. -/
theorem div_nz (h1 : Rd B w (.slice a1 xn.length c1) xn) (h2 : Rd B w (.slice a2 xd.length c2) xd) (h3 : Rd B w (.slice a3 yn.length c3) yn) (h4 : Rd B w (.slice a4 yd.length c4) yd) (hB : B ≤ w.heap.size) (h0 : 0 < yn.length) :
    Calls Tryz.prog 31 #[.agg #[.bool bx, .slice a1 xn.length c1, .slice a2 xd.length c2], .agg #[.bool cy, .slice a3 yn.length c3, .slice a4 yd.length c4]] w fun e w' => Gives w (RightP bx xn xd ∧ RightP cy yn yd) (sg bx (val xn) * sg cy (val yd)) (val xd * val yn) e w' := by
  have I := in2_new w (.bool bx) (.slice a1 xn.length c1) (.slice a2 xd.length c2) (.bool cy) (.slice a3 yn.length c3) (.slice a4 yd.length c4)
  go_enter Tryz.func31, Tryz.ntmps31
  go_wp2_with fail
  generalize hA : ((((w.alloc (.cells #[.bool bx, .slice a1 xn.length c1, .slice a2 xd.length c2] 25)).alloc (.cells #[.bool cy, .slice a3 yn.length c3, .slice a4 yd.length c4] 25)).alloc (.cells #[.bool false, .slice none 0 0, .slice none 0 0] 25)).alloc (.cells #[.bool bx, .slice a1 xn.length c1, .slice a2 xd.length c2, .bool cy, .slice a3 yn.length c3, .slice a4 yd.length c4] 25)) = wQ at *
  clear hA
  obtain ⟨hX, hY, hR, hT, b0, s0⟩ := I
  refine (allRight2 hT (h1.below (b0.mono hB)) (h2.below (b0.mono hB)) (h3.below (b0.mono hB)) (h4.below (b0.mono hB)) (by omega)).mono ?_
  rintro e wa ⟨⟨r, rfl, hr⟩, ba⟩
  have sa := ba.size
  have bwa : Below w.heap.size w wa := b0.trans (ba.mono (by omega))
  have hRa := hR.below ba (by omega)
  cases r with
  | false =>
    have HP : Hid (¬ (RightP bx xn xd ∧ RightP cy yn yd)) := fun h => by have := hr.2 h; cases this
    clear hr
    have q0 := hRa.c0
    have q1 := hRa.c1
    have q2 := hRa.c2
    have p0 := hRa.f0
    have p1 := hRa.f1
    have p2 := hRa.f2
    go_wp2
    have hR3 := hRa.set (.bool false) (.slice none 0 0) (.slice none 0 0)
    have r0 := hR3.c0
    have r1 := hR3.c1
    have r2 := hR3.c2
    refine bodyPost_ret (v := .tuple #[.agg #[.bool false, .slice none 0 0, .slice none 0 0], .int .i64 22]) (by simp [results, Tryz.results31, go_sem, r0, r1, r2]) rfl ?_
    exact gives_err HP.out (Below.set3 bwa (by omega) _ _ _)
  | true =>
    have HP : Hid (RightP bx xn xd ∧ RightP cy yn yd) := hr.1 rfl
    clear hr
    have hXa := hX.below ba (by omega)
    have hYa := hY.below ba (by omega)
    have k0 := hXa.c0
    have k1 := hXa.c1
    have k2 := hXa.c2
    have k3 := hYa.c0
    have k4 := hYa.c1
    have k5 := hYa.c2
    have hpl := by_rat (bx := bx) (cy := cy) (h1.below (bwa.mono hB)) (h2.below (bwa.mono hB)) (h3.below (bwa.mono hB)) (h4.below (bwa.mono hB)) (by omega) HP.out.1 HP.out.2 h0
    go_wp2_with fail
    clear k0 k1 k2 k3 k4 k5
    refine hpl.mono ?_
    intro e w6 hm6
    obtain ⟨bm6, b6, x5, n5, y5, x6, n6, y6, err, rfl, hform⟩ := hm6.form
    have hRc := hRa.below bm6 (by omega)
    have q0 := hRc.c0
    have q1 := hRc.c1
    have q2 := hRc.c2
    have p0 := hRc.f0
    have p1 := hRc.f1
    have p2 := hRc.f2
    clear hpl hm6
    go_wp2
    have hR3 := hRc.set (.bool b6) (.slice x5 n5 y5) (.slice x6 n6 y6)
    have r0 := hR3.c0
    have r1 := hR3.c1
    have r2 := hR3.c2
    refine bodyPost_ret (v := .tuple #[.agg #[.bool b6, .slice x5 n5 y5, .slice x6 n6 y6], .int .i64 err]) (by simp [results, Tryz.results31, go_sem, r0, r1, r2]) rfl ?_
    exact (rform_done bwa (by omega) (by omega) bm6 hform).gives HP.out
end
end Go.Proofs.YtidbebfendjnlaaGreatDoor

/- The document's answers of layer 1: Trim, Of, Right, Same. -/
namespace Go.Proofs.YtidbebfendjnlaaGreatDoor
set_option linter.unusedVariables false
set_option linter.unusedSimpArgs false
open Go.RowKit

set_option maxHeartbeats 800000 in
theorem refTrim_nz (b off n cap : Nat) (xs : List Int) (w : World) (hn : Hid (xs.length = n + 1)) (hl : lim xs) (hnc : n + 1 ≤ cap) (hbig : cap ≤ 9223372036854775807) (hsz : (n + 1) * 4 ≤ 140737488355328)
    (hc : ∀ j, j < n + 1 → w.cell? ⟨b, off + j, none⟩ = some (.int .u32 (xs.getD j 0))) :
    Calls Tryz.prog 60 #[.slice (some ⟨b, off, none⟩) (n + 1) cap] w fun e w' => Makes w e w' (tr xs) := by
  obtain ⟨i0, hi, hz0, hz1, hz2⟩ := info_parts info_u32
  go_enter Tryz.func60, Tryz.ntmps60
  go_wp2
  go_loop [3] (fun s => ∃ k : Nat, k ≤ n + 1 ∧ s = .int .i64 k ∧ Hid (tl xs k = tl xs (n + 1))) (fun s => (intOf s).toNat)
  case atStart => exact ⟨n + 1, Nat.le_refl _, by go_num, rfl⟩
  case round =>
    obtain ⟨k, hk, rfl, ht⟩ := hrel
    have fin : ∀ k, k ≤ n + 1 → tl xs k = tl xs (n + 1) → (k = 0 ∨ ¬ xs.getD (k - 1) 0 = 0) → xs.take k = tr xs := by
      intro k hk ht h
      unfold tr
      rw [hn.out, ← ht]
      rcases h with h | h
      · subst h; rfl
      · cases k with
        | zero => rfl
        | succ k => rw [tl_pos xs k (by simpa using h)]
    by_cases hend : k = 0 ∨ ¬ xs.getD (k - 1) 0 = 0
    · have htr := fin k hk ht.out hend
      have HTR : Hid (xs.take k = tr xs) := htr
      have hlen : (xs.take k).length = k := by have := hn.out; simp; omega
      have hnews : ∀ j u, ((xs.take k).map (Value.int .u32))[j]? = some u → w.cell? ((⟨b, off, none⟩ : Addr).add j) = some u := cells_news (fun j hj => by
        rw [hlen] at hj
        rw [hc j (by omega)]
        have : (xs.take k).getD j 0 = xs.getD j 0 := by simp only [List.getD, List.getElem?_take]; rw [if_pos (by omega)]
        rw [this])
      have hlu : lim (xs.take k) := lim_take hl k
      clear fin htr
      generalize hU : xs.take k = us at *
      have HL : Hid (us.length = k) := hlen
      have HC : Hid (k = 0 ∨ ¬ xs.getD (k - 1) 0 = 0) := hend
      clear hU hlen hend
      cases k with
      | zero =>
        clear hc
        have hu0 : us = [] := List.eq_nil_of_length_eq_zero HL.out
        subst hu0
        go_wp2
        go_ret
        rw [← HTR.out]
        exact Makes.of rfl ⟨lim_nil, World.ownsRow_nil _ _ _ _⟩ (Below.refl _ _)
      | succ k =>
        have hck := hc k (by omega)
        have hne : ¬ xs.getD k 0 = 0 := by
          rcases HC.out with h | h
          · omega
          · simpa using h
        have hneb : (xs.getD k 0 == 0) = false := by simpa using hne
        generalize hg : xs.getD k 0 = g at *
        clear hg hc hne
        go_wp2_with (at_builtin; refine wpList_append_own _ rfl _ _ 22 rfl w.heap.size 62 i0 (.int .u32 0) 1 4 Tryz.underlying22 hi hz0 hz1 hz2 rfl (by decide) _ _ _ rfl (World.ownsRow_nil _ _ _ _) ⟨b, off, none⟩ (k + 1) cap (us.map (Value.int .u32)) rfl (by rw [List.length_map, HL.out]; omega) hnews (ints_oneCell _ _) ?c3 ?c4 (Nat.le_refl _) ?_)
        case c3 => unfold maxLen; omega
        case c4 => omega
        intro v' w1 hown hgrow _
        go_wp2
        go_ret
        rw [← HTR.out]
        exact Makes.of rfl ⟨hlu, by rw [HL.out]; exact hown⟩ ((Below.refl _ _).grown hgrow (Nat.le_refl _) (fun k h => by cases h))
    · obtain ⟨k, rfl⟩ : ∃ j, k = j + 1 := ⟨k - 1, by omega⟩
      have h0 : xs.getD k 0 = 0 := by
        by_cases h : xs.getD k 0 = 0
        · exact h
        · exact absurd (Or.inr (by simpa using h)) hend
      have hck := hc k (by omega)
      rw [h0] at hck
      have HT0 : Hid (tl xs (k + 1) = tl xs k) := tl_zero xs k h0
      clear hc fin hend h0
      go_wp2
      go_round
      case rel => exact ⟨k, by omega, by go_num, by unfold Hid; rw [← ht.out, HT0.out]⟩
      case measure => simp [intOf]

set_option maxHeartbeats 800000 in
theorem refTrim_z (a : Option Addr) (cap : Nat) (w : World) (hcap : a = none → cap = 0) :
    Calls Tryz.prog 60 #[.slice a 0 cap] w fun e w' => Makes w e w' [] := by
  obtain ⟨i0, hi, hz0, hz1, hz2⟩ := info_parts info_u32
  cases a with
  | none =>
    have := hcap rfl
    subst this
    go_enter Tryz.func60, Tryz.ntmps60
    go_wp2
    refine wp_loop_rounds 1 ?_
    rw [rounds_succ]
    go_wp2
    go_ret
    exact Makes.of rfl ⟨lim_nil, World.ownsRow_nil _ _ _ _⟩ (Below.refl _ _)
  | some ad =>
    go_enter Tryz.func60, Tryz.ntmps60
    go_wp2
    refine wp_loop_rounds 1 ?_
    rw [rounds_succ]
    go_wp2_with (at_builtin; refine wpList_append_own _ rfl _ _ 22 rfl w.heap.size 62 i0 (.int .u32 0) 1 4 Tryz.underlying22 hi hz0 hz1 hz2 rfl (by decide) _ _ _ rfl (World.ownsRow_nil _ _ _ _) ad 0 cap [] rfl rfl (by intro j u h; simp at h) (by intro u h; cases h) ?c1 ?c2 (Nat.le_refl _) ?_)
    case c1 => unfold maxLen; omega
    case c2 => omega
    intro v' w1 hown hgrow _
    go_wp2
    go_ret
    exact Makes.of rfl ⟨lim_nil, hown⟩ ((Below.refl _ _).grown hgrow (Nat.le_refl _) (fun k h => by cases h))

/-- The document's Trim, at whatever slice of limbs. -/
theorem refTrim_rd {B : Nat} {w : World} {v : Value} {xs : List Int} (h : Rd B w v xs) (hsz : xs.length * 4 ≤ 140737488355328) :
    Calls Tryz.prog 60 #[v] w fun e w' => Makes w e w' (tr xs) := by
  obtain ⟨hl, a, cap, rfl, h1, h2, hn, h3⟩ := h
  by_cases h0 : xs.length = 0
  · have e : xs = [] := List.eq_nil_of_length_eq_zero h0
    subst e
    exact refTrim_z a cap w hn
  · obtain ⟨n, hn1⟩ : ∃ n, xs.length = n + 1 := ⟨xs.length - 1, by omega⟩
    rcases h3 with h3 | ⟨b, off, rfl, _, hc⟩
    · exact absurd h3 h0
    · rw [hn1] at hc h1 ⊢
      exact refTrim_nz b off n cap xs w hn1 hl h1 h2 (by omega) hc

set_option maxHeartbeats 400000 in
theorem refOf_any (n : Int) (h0 : 0 ≤ n) (h1 : n < 18446744073709551616) (w : World) :
    Calls Tryz.prog 73 #[.int .u64 n] w fun e w' => Makes w e w' (tr [n % 4294967296, n / 4294967296]) := by
  go_enter Tryz.func73, Tryz.ntmps73
  go_wp2_with fail
  refine (refTrim_rd (rd_two w (n % 4294967296) (n / 4294967296) (by omega) (by omega)) (by simp)).mono ?_
  intro e w' hm
  obtain ⟨a, c, rfl, ho, hb⟩ := hm.alloc
  go_wp2
  go_ret
  exact ⟨a, c, rfl, ho, hb⟩
end Go.Proofs.YtidbebfendjnlaaGreatDoor

/- The document's Compare, Right, Bits; nat.Right; the statements' helpers own and kept. -/
namespace Go.Proofs.YtidbebfendjnlaaGreatDoor
set_option linter.unusedVariables false
set_option linter.unusedSimpArgs false
open Go.RowKit

set_option maxHeartbeats 3200000 in
/-- The document's Compare. -/
theorem refCompare_rd {B B' : Nat} {w : World} {v1 v2 : Value} {xs ys : List Int} (h1 : Rd B w v1 xs) (h2 : Rd B' w v2 ys) (b2 : B' ≤ w.heap.size) (s1 : xs.length * 4 ≤ 140737488355328) (s2 : ys.length * 4 ≤ 140737488355328) :
    Calls Tryz.prog 65 #[v1, v2] w fun e w' => e = .returned (.int .i64 (cmpI (val xs) (val ys))) ∧ Below w.heap.size w w' := by
  rw [← val_tr xs, ← val_tr ys]
  have c1 := tr_can h1.lim
  have c2 := tr_can h2.lim
  have n1 := tr_length_le xs
  have n2 := tr_length_le ys
  go_enter Tryz.func65, Tryz.ntmps65
  go_wp2_with fail
  refine (refTrim_rd h1 s1).mono ?_
  rintro e wa ⟨a1, q1, rfl, o1, ba⟩
  have hsa := ba.size
  go_wp2_with fail
  refine (refTrim_rd (h2.below (ba.mono b2)) s2).mono ?_
  rintro e wb ⟨a2, q2, rfl, o2, bb⟩
  have bb' := ba.trans (bb.mono hsa)
  have o1' := o1.below bb (Nat.le_refl _)
  generalize hUS : tr xs = us at *
  generalize hVS : tr ys = vs at *
  have HU : Hid (cmpI (val (tr xs)) (val (tr ys)) = cmpI (val us) (val vs)) := by unfold Hid; rw [hUS, hVS]
  clear o1 ba bb h1 h2 hUS hVS
  by_cases hl : us.length = vs.length
  · by_cases h0 : us.length = 0
    · have k1 : us = [] := List.eq_nil_of_length_eq_zero h0
      have k2 : vs = [] := List.eq_nil_of_length_eq_zero (by omega)
      subst k1 k2
      go_wp2
      refine wp_loop_rounds 1 ?_
      rw [rounds_succ]
      go_wp2
      go_ret
      exact ⟨ret_int (by rw [HU.out]; exact (cmpI_eq rfl).symm), bb'⟩
    · obtain ⟨l, hl1⟩ : ∃ l, us.length = l + 1 := ⟨us.length - 1, by omega⟩
      have hl2 : vs.length = l + 1 := by omega
      obtain ⟨lx, _, _, e1, _, _, _, r1⟩ := o1'.rd
      obtain ⟨ly, _, _, e2, _, _, _, r2⟩ := o2.rd
      rcases r1 with r1 | ⟨g1, f1, ea1, _, k1⟩
      · omega
      rcases r2 with r2 | ⟨g2, f2, ea2, _, k2⟩
      · omega
      subst ea1 ea2
      cases e1
      cases e2
      rw [hl1] at k1
      rw [hl2] at k2
      have K1 : Hid (∀ j, j < l + 1 → wb.cell? ⟨g1, f1 + j, none⟩ = some (.int .u32 (us.getD j 0))) := k1
      have K2 : Hid (∀ j, j < l + 1 → wb.cell? ⟨g2, f2 + j, none⟩ = some (.int .u32 (vs.getD j 0))) := k2
      have HX : Hid (us.length = l + 1) := hl1
      have HY : Hid (vs.length = l + 1) := hl2
      have hlb : l + 1 ≤ 9223372036854775807 := by omega
      rw [hl1, hl2]
      clear k1 k2 hl1 hl2 hl h0 o1' o2
      go_wp2
      go_loopw [7] (fun s wr => (∃ n, wr = wb.drewN n) ∧ ((∃ j : Nat, j < l + 1 ∧ s = .int .i64 j ∧ Hid (us.drop (j + 1) = vs.drop (j + 1))) ∨ (s = .int .i64 (-1) ∧ Hid (us = vs)))) (fun s _ => (intOf s + 1).toNat)
      case atStart => exact ⟨⟨0, rfl⟩, Or.inl ⟨l, by omega, by go_num, by unfold Hid; rw [List.drop_of_length_le (by rw [HX.out]; omega), List.drop_of_length_le (by rw [HY.out]; omega)]⟩⟩
      case round =>
        obtain ⟨⟨n, rfl⟩, ⟨j, hj, rfl, hd⟩ | ⟨rfl, he⟩⟩ := hrel
        · have g1 := K1.out j hj
          have g2 := K2.out j hj
          have r1 := lim_getD lx j
          have r2 := lim_getD ly j
          generalize hp : us.getD j 0 = p at *
          generalize hq : vs.getD j 0 = q at *
          have HP : Hid (us.getD j 0 = p) := hp
          have HQ : Hid (vs.getD j 0 = q) := hq
          clear hp hq
          by_cases hpq : p = q
          · subst hpq
            cases j with
            | zero =>
              rw [Nat.add_zero] at g1 g2
              go_wp2
              go_quiet (fail)
              go_wp2
              go_quiet (fail)
              go_wp2
              go_roundw
              case rel => exact ⟨⟨_, rfl⟩, Or.inr ⟨rfl, by
                unfold Hid
                have h0 := drop_eq_step us vs 0 (by rw [HX.out]; omega) (by rw [HY.out]; omega) hd.out (by rw [HP.out, HQ.out])
                simpa using h0⟩⟩
              case measure => simp [intOf]
            | succ j =>
              go_wp2
              go_quiet (fail)
              go_wp2
              go_quiet (fail)
              go_wp2
              go_roundw
              case rel => exact ⟨⟨_, rfl⟩, Or.inl ⟨j, by omega, by go_num, by
                unfold Hid
                exact drop_eq_step us vs (j + 1) (by rw [HX.out]; omega) (by rw [HY.out]; omega) hd.out (by rw [HP.out, HQ.out])⟩⟩
              case measure => simp [intOf]; omega
          · by_cases hlt : p < q
            · have hc : cmpI (val us) (val vs) = -1 := cmpI_lt (val_lt_top lx ly (by rw [HX.out, HY.out]) j (by rw [HX.out]; omega) hd.out (by rw [HP.out, HQ.out]; exact hlt))
              have HC : Hid (cmpI (val us) (val vs) = -1) := hc
              clear hpq hc
              go_wp2
              go_quiet (fail)
              go_wp2
              go_ret
              exact ⟨ret_int (by rw [HU.out]; exact HC.out.symm), below_drewN' (below_drewN' bb' _) _⟩
            · have hc : cmpI (val us) (val vs) = 1 := cmpI_gt (val_lt_top ly lx (by rw [HX.out, HY.out]) j (by rw [HY.out]; omega) hd.out.symm (by rw [HP.out, HQ.out]; omega))
              have HC : Hid (cmpI (val us) (val vs) = 1) := hc
              have hgt : q < p := by omega
              clear hpq hc
              go_wp2
              go_quiet (fail)
              go_wp2
              go_quiet (fail)
              go_wp2
              go_ret
              exact ⟨ret_int (by rw [HU.out]; exact HC.out.symm), below_drewN' (below_drewN' (below_drewN' bb' _) _) _⟩
        · go_wp2
          go_ret
          exact ⟨ret_int (by rw [HU.out]; exact (cmpI_eq (by rw [he.out])).symm), below_drewN' bb' _⟩
  · have t0 : (((us.length : Nat) : Int) != ((vs.length : Nat) : Int)) = true := by rw [bne_iff_ne]; omega
    by_cases h : us.length < vs.length
    · have hc := can_len_lt c1 c2 h
      have HC : Hid (cmpI (val us) (val vs) = -1) := cmpI_lt hc
      clear hc
      go_wp2
      go_ret
      exact ⟨ret_int (by rw [HU.out]; exact HC.out.symm), bb'⟩
    · have hc := can_len_lt c2 c1 (by omega)
      have HC : Hid (cmpI (val us) (val vs) = 1) := cmpI_gt hc
      clear hc
      go_wp2
      go_ret
      exact ⟨ret_int (by rw [HU.out]; exact HC.out.symm), bb'⟩
end Go.Proofs.YtidbebfendjnlaaGreatDoor

/- nat.Right, nat.Small and the document's Right, Small, Bits; the statements' helpers own and kept. -/
namespace Go.Proofs.YtidbebfendjnlaaGreatDoor
set_option linter.unusedVariables false
set_option linter.unusedSimpArgs false
open Go.RowKit

/-- Are limbs right? -/

theorem rightB_last (xs : List Int) (n : Nat) (hn : xs.length = n + 1) : rightB xs = !(xs.getD n 0 == 0) := by
  unfold rightB
  rw [tr_length, hn]
  by_cases h : xs.getD n 0 = 0
  · rw [tl_zero xs n h, h]
    have h1 := tl_le xs n
    have h2 : ¬ tl xs n = n + 1 := by omega
    simp [h2]
  · have h1 : (xs.getD n 0 == 0) = false := by simpa using h
    rw [tl_pos xs n h, h1]
    simp

set_option maxHeartbeats 400000 in
theorem refRight_any {B : Nat} {w : World} {v : Value} {xs : List Int} (h : Rd B w v xs) :
    Calls Tryz.prog 64 #[v] w fun e w' => e = .returned (.bool (rightB xs)) ∧ w = w' := by
  obtain ⟨_, a, c, rfl, hc, hb, _, r⟩ := h
  by_cases h0 : xs.length = 0
  · have e : xs = [] := List.eq_nil_of_length_eq_zero h0
    subst e
    go_enter Tryz.func64, Tryz.ntmps64
    go_wp2
    go_ret
    exact ⟨rfl, rfl⟩
  · obtain ⟨n, hn⟩ : ∃ n, xs.length = n + 1 := ⟨xs.length - 1, by omega⟩
    rcases r with r | ⟨b, o, rfl, _, k⟩
    · exact absurd r h0
    have hk := k n (by omega)
    rw [rightB_last xs n hn]
    rw [hn] at hc ⊢
    generalize xs.getD n 0 = t at *
    have t0 : (((n : Nat) : Int) + 1 == 0) = false := by simp; omega
    clear k hn h0
    by_cases ht : t = 0
    · subst ht
      go_enter Tryz.func64, Tryz.ntmps64
      go_wp2
      go_ret
      exact ⟨rfl, rfl⟩
    · have htb : (t != 0) = true := by rw [bne_iff_ne]; exact ht
      have htc : (t == 0) = false := by simpa using ht
      go_enter Tryz.func64, Tryz.ntmps64
      go_wp2
      go_ret
      exact ⟨ret_bool (by rw [htc]; rfl), rfl⟩

set_option maxHeartbeats 800000 in
theorem refBits_any {B : Nat} {w : World} {v : Value} {xs : List Int} (h : Rd B w v xs) (hn : xs.length ≤ 17592186044415) :
    Calls Tryz.prog 111 #[v] w fun e w' => ∃ b : Nat, e = .returned (.int .i64 b) ∧ isBits (val xs) b ∧ Below w.heap.size w w' := by
  have ct := tr_can h.lim
  have hle := tr_length_le xs
  have hv := val_tr xs
  go_enter Tryz.func111, Tryz.ntmps111
  go_wp2_with fail
  refine (refTrim_rd h (by omega)).mono ?_
  rintro e wa ⟨a1, q1, rfl, o1, ba⟩
  generalize tr xs = us at *
  by_cases h0 : us.length = 0
  · have hz := (can_zero ct).1 h0
    have e : us = [] := List.eq_nil_of_length_eq_zero h0
    subst e
    have HZ : Hid (val xs = 0) := by unfold Hid; rw [← hv]; rfl
    clear hz hv
    go_wp2
    go_ret
    exact ⟨0, rfl, Or.inl ⟨HZ.out, rfl⟩, ba⟩
  · obtain ⟨k, hk⟩ : ∃ k, us.length = k + 1 := ⟨us.length - 1, by omega⟩
    obtain ⟨lx, _, _, e1, _, _, _, r1⟩ := o1.rd
    rcases r1 with r1 | ⟨g1, f1, ea1, _, k1⟩
    · exact absurd r1 h0
    subst ea1
    cases e1
    have hck := k1 k (by omega)
    have rt := lim_getD lx k
    have hne : ¬ us.getD k 0 = 0 := by
      rcases ct.2 with h | h
      · omega
      · rw [hk] at h; simpa using h
    have htop := fun t => isBits_top us k t lx hk hne
    have HT : Hid (∀ t, isBits (us.getD k 0) t → isBits (val us) (32 * k + t) ∧ t ≤ 32) := htop
    have HV : Hid (val us = val xs) := hv
    have hkl : k ≤ 17592186044415 := by omega
    rw [hk]
    generalize us.getD k 0 = T at *
    clear htop hv k1 o1 hk h0 hne
    have kb : (((k : Nat) : Int) + 1 == 0) = false := by simp; omega
    go_wp2
    go_loopg [4, 5] 33 (fun gk s t wr => ∃ (c : Nat) (u : Int), Hid (gk + c = 33) ∧ c ≤ 32 ∧ s = .int .i64 ((32 * k + c : Nat) : Int) ∧ t = .int .u32 u ∧ 0 ≤ u ∧ u < 4294967296 ∧ Hid (u * p2 c ≤ T ∧ T < (u + 1) * p2 c ∧ (c = 0 ∨ p2 (c - 1) ≤ T)) ∧ wr = wa)
    case atStart => exact ⟨0, T, rfl, by omega, by go_num, rfl, rt.1, rt.2, by unfold Hid; simp [p2]; omega, rfl⟩
    case round =>
      obtain ⟨c, u, hgc, hc32, rfl, rfl, hu0, hu1, hin, rfl⟩ := hrel
      by_cases hu : u = 0
      · subst hu
        have hb : isBits T c := by
          have h1 := hin.out
          simp only [Int.zero_mul, Int.zero_add, Int.one_mul] at h1
          rcases h1.2.2 with hc | hc
          · subst hc
            exact Or.inl ⟨by simp [p2] at h1; omega, rfl⟩
          · by_cases hc0 : c = 0
            · subst hc0; exact Or.inl ⟨by simp [p2] at h1; omega, rfl⟩
            · exact Or.inr ⟨by omega, hc, h1.2.1⟩
        have HB : Hid (isBits (val xs) (32 * k + c)) := by unfold Hid; rw [← HV.out]; exact (HT.out c hb).1
        clear hb
        go_wp2
        go_ret
        exact ⟨32 * k + c, rfl, HB.out, ba⟩
      · have hpos : 0 < u := by omega
        have hcl : c < 32 := by
          by_cases h : c < 32
          · exact h
          · have hc : c = 32 := by omega
            have h1 := hin.out.1
            rw [hc, show p2 32 = 4294967296 from rfl] at h1
            have : 1 * 4294967296 ≤ u * 4294967296 := Int.mul_le_mul_of_nonneg_right (by omega) (by omega)
            omega
        go_wp2
        go_roundg (33 - (c + 1))
        case measure => have := hgc.out; omega
        case rel => exact ⟨c + 1, u / 2, by unfold Hid; omega, by omega, by go_num, by go_num, by omega, by omega, (by
          unfold Hid
          have h1 := hin.out
          have hp := p2_pos c
          rw [p2_succ]
          have hd : 2 * (u / 2) + u % 2 = u := Int.mul_ediv_add_emod u 2
          have hm0 := Int.emod_nonneg u (show (2 : Int) ≠ 0 by omega)
          have hm1 := Int.emod_lt_of_pos u (show (0 : Int) < 2 by omega)
          generalize u / 2 = q at *
          generalize u % 2 = r at *
          subst hd
          refine ⟨?_, ?_, Or.inr ?_⟩
          · have e1 : q * (2 * p2 c) = (2 * q) * p2 c := by simp only [Int.mul_assoc, Int.mul_comm, Int.mul_left_comm]
            have e2 : (2 * q) * p2 c ≤ (2 * q + r) * p2 c := Int.mul_le_mul_of_nonneg_right (by omega) (Int.le_of_lt hp)
            omega
          · have e1 : (q + 1) * (2 * p2 c) = (2 * q + 2) * p2 c := by rw [Int.add_mul, Int.add_mul]; simp only [Int.mul_assoc, Int.mul_comm, Int.mul_left_comm]; omega
            have e2 : (2 * q + r + 1) * p2 c ≤ (2 * q + 2) * p2 c := Int.mul_le_mul_of_nonneg_right (by omega) (Int.le_of_lt hp)
            omega
          · have e2 : 1 * p2 c ≤ (2 * q + r) * p2 c := Int.mul_le_mul_of_nonneg_right (by omega) (Int.le_of_lt hp)
            show p2 c ≤ T
            omega), rfl⟩
end Go.Proofs.YtidbebfendjnlaaGreatDoor

/- nat.word, nat.Small. -/
namespace Go.Proofs.YtidbebfendjnlaaGreatDoor
set_option linter.unusedVariables false
set_option linter.unusedSimpArgs false
open Go.RowKit

theorem or_zero_left (x : Int) (h : 0 ≤ x ∧ x < 18446744073709551616) : bits .or .u64 0 x = x := by
  obtain ⟨a, rfl⟩ := Int.eq_ofNat_of_zero_le h.1
  have := bits_or_u64_nat 0 a (by omega) (by omega)
  rw [Nat.zero_or] at this
  exact this
theorem or_add_right (q v : Int) (hq : 0 ≤ q ∧ q < 4294967296) (hv : 0 ≤ v ∧ v < 4294967296) : bits .or .u64 v (q * 4294967296) = v + q * 4294967296 := by
  obtain ⟨a, rfl⟩ := Int.eq_ofNat_of_zero_le hq.1
  obtain ⟨b, rfl⟩ := Int.eq_ofNat_of_zero_le hv.1
  have e : ((a : Int) * 4294967296) = ((a * 4294967296 : Nat) : Int) := by omega
  rw [e, bits_or_u64_nat _ _ (by omega) (by omega)]
  have h : b ||| a * 4294967296 = a * 4294967296 + b := by
    have := Nat.two_pow_add_eq_or_of_lt (i := 32) (b := b) (by omega) a
    rw [Nat.mul_comm, Nat.or_comm]
    exact this.symm
  rw [h]; omega

set_option maxHeartbeats 800000 in
theorem word_two (b o c : Nat) (x y : Int) (w : World) (hx : 0 ≤ x ∧ x < 4294967296) (hy : 0 ≤ y ∧ y < 4294967296) (k1 : w.cell? ⟨b, o, none⟩ = some (.int .u32 x)) (k2 : w.cell? ⟨b, o + 1, none⟩ = some (.int .u32 y)) :
    Calls Tryz.prog 115 #[.slice (some ⟨b, o, none⟩) 2 c] w fun e w' => e = .returned (.int .u64 (x + y * 4294967296)) ∧ w = w' := by
  have e1 := or_zero_left x (by omega)
  have e2 := or_add_right y x hy hx
  go_enter Tryz.func115, Tryz.ntmps115
  go_wp2
  refine wp_loop_rounds 3 ?_
  rw [rounds_succ]
  go_wp2
  rw [rounds_succ]
  go_wp2
  rw [rounds_succ]
  go_wp2
  go_ret
  exact ⟨rfl, rfl⟩

set_option maxHeartbeats 800000 in
theorem word_one (b o c : Nat) (x : Int) (w : World) (hx : 0 ≤ x ∧ x < 4294967296) (k1 : w.cell? ⟨b, o, none⟩ = some (.int .u32 x)) :
    Calls Tryz.prog 115 #[.slice (some ⟨b, o, none⟩) 1 c] w fun e w' => e = .returned (.int .u64 x) ∧ w = w' := by
  have e1 := or_zero_left x (by omega)
  go_enter Tryz.func115, Tryz.ntmps115
  go_wp2
  refine wp_loop_rounds 2 ?_
  rw [rounds_succ]
  go_wp2
  rw [rounds_succ]
  go_wp2
  go_ret
  exact ⟨rfl, rfl⟩
theorem word_zero (a : Option Addr) (c : Nat) (w : World) :
    Calls Tryz.prog 115 #[.slice a 0 c] w fun e w' => e = .returned (.int .u64 0) ∧ w = w' := by
  go_enter Tryz.func115, Tryz.ntmps115
  go_wp2
  refine wp_loop_rounds 1 ?_
  rw [rounds_succ]
  go_wp2
  go_ret
  exact ⟨rfl, rfl⟩

/-- nat.word of at most two limbs: the number. -/
theorem word_rd {B : Nat} {w : World} {v : Value} {xs : List Int} (h : Rd B w v xs) (h2 : xs.length ≤ 2) :
    Calls Tryz.prog 115 #[v] w fun e w' => e = .returned (.int .u64 (val xs)) ∧ w = w' := by
  obtain ⟨hl, a, c, rfl, _, _, _, r⟩ := h
  match xs, h2 with
  | [], _ => exact word_zero a c w
  | [x], _ =>
    rcases r with r | ⟨b, o, rfl, _, k⟩
    · simp at r
    · have e : val [x] = x := by simp [val]
      rw [e]
      exact word_one b o c x w (hl x (by simp)) (k 0 (by simp))
  | [x, y], _ =>
    rcases r with r | ⟨b, o, rfl, _, k⟩
    · simp at r
    · have e : val [x, y] = x + y * 4294967296 := by simp [val]; rw [Int.mul_comm]
      rw [e]
      exact word_two b o c x y w (hl x (by simp)) (hl y (by simp)) (k 0 (by simp)) (k 1 (by simp))

/-- A number as an int, if it is below 2^63. -/
def smallV (n : Int) : Value := .tuple #[.int .i64 (if n < 9223372036854775808 then n else 0), .bool (decide (n < 9223372036854775808))]

theorem smallV_lt {n : Int} (h : n < 9223372036854775808) : smallV n = .tuple #[.int .i64 n, .bool true] := by unfold smallV; rw [if_pos h, decide_eq_true h]
theorem smallV_ge {n : Int} (h : 9223372036854775808 ≤ n) : smallV n = .tuple #[.int .i64 0, .bool false] := by unfold smallV; rw [if_neg (by omega), decide_eq_false (by omega)]
theorem list_two {us : List Int} (h : us.length ≤ 2) : us = [] ∨ (∃ x, us = [x]) ∨ ∃ x y, us = [x, y] := by
  match us, h with
  | [], _ => exact Or.inl rfl
  | [x], _ => exact Or.inr (Or.inl ⟨x, rfl⟩)
  | [x, y], _ => exact Or.inr (Or.inr ⟨x, y, rfl⟩)

theorem isBits_63 {n : Int} {b : Nat} (h : isBits n b) (h0 : 0 ≤ n) : b ≤ 63 ↔ n < 9223372036854775808 := by
  have e : p2 63 = 9223372036854775808 := by decide
  rcases h with ⟨rfl, rfl⟩ | ⟨h1, h2, h3⟩
  · exact ⟨fun _ => by omega, fun _ => by omega⟩
  · constructor
    · intro hb
      have := p2_mono (j := b) (k := 63) hb
      omega
    · intro hn
      by_cases hb : b ≤ 63
      · exact hb
      · have := p2_mono (j := 63) (k := b - 1) (by omega)
        omega

theorem can_two {us : List Int} (h : can us) (hv : val us < 18446744073709551616) : us.length ≤ 2 := by
  by_cases hl : us.length ≤ 2
  · exact hl
  · have h1 := can_low h (by omega)
    have h2 := pw_mono (j := 2) (k := us.length - 1) (by omega)
    have e : pw 2 = 18446744073709551616 := by decide
    omega

set_option maxHeartbeats 800000 in
/-- nat.Small. -/
theorem small_any {B : Nat} {w : World} {v : Value} {xs : List Int} (h : Rd B w v xs) (hn : xs.length ≤ 17592186044415) :
    Calls Tryz.prog 67 #[v] w fun e w' => e = .returned (smallV (val xs)) ∧ w = w' := by
  have h0 := (val_bound h.lim).1
  have m := meant_rd h
  have t := h.meant
  have ct := tr_can h.lim
  rw [← tr_length] at m t
  have hv := val_tr xs
  go_enter Tryz.func67, Tryz.ntmps67
  go_wp2_with fail
  refine (bits_any h hn).mono ?_
  rintro e w' ⟨b, rfl, hb, hbl, rfl⟩
  have h63 := isBits_63 hb h0
  clear hb
  generalize hV : val xs = V at *
  by_cases hlt : V < 9223372036854775808
  · have hb63 : b ≤ 63 := h63.2 hlt
    have hl2 : (tr xs).length ≤ 2 := can_two ct (by omega)
    have hw := word_rd t hl2
    rw [hv] at hw
    have HV : Hid (val xs = V) := hV
    clear h63 hv hV
    go_wp2_with fail
    refine m.mono ?_
    rintro e w' ⟨rfl, rfl⟩
    go_wp2_with fail
    refine hw.mono ?_
    rintro e w' ⟨rfl, rfl⟩
    go_wp2
    go_ret2
    refine ⟨?_, rfl⟩
    rw [HV.out, smallV_lt hlt]; rfl
  · have hb63 : ¬ b ≤ 63 := fun hb => hlt (h63.1 hb)
    have hb63' : 63 < b := by omega
    have HV : Hid (val xs = V) := hV
    clear h63 hv hV
    go_wp2
    go_ret2
    refine ⟨?_, rfl⟩
    rw [HV.out, smallV_ge (by omega)]; rfl

end Go.Proofs.YtidbebfendjnlaaGreatDoor

/- nat.word, nat.Small and the document's Small; the statements' helpers own and kept. -/
namespace Go.Proofs.YtidbebfendjnlaaGreatDoor
set_option linter.unusedVariables false
set_option linter.unusedSimpArgs false
open Go.RowKit

theorem bits_or_i64_nat (a b : Nat) (ha : a < 9223372036854775808) (hb : b < 9223372036854775808) : bits .or .i64 (a : Int) (b : Int) = ((a ||| b : Nat) : Int) := by
  have hx : a ||| b < 2 ^ 63 := Nat.or_lt_two_pow (by omega) (by omega)
  have h1 : (BitVec.ofInt 64 (a : Int)).toNat = a := by
    rw [BitVec.ofInt_natCast, BitVec.toNat_ofNat]; exact Nat.mod_eq_of_lt (by omega)
  have h2 : (BitVec.ofInt 64 (b : Int)).toNat = b := by
    rw [BitVec.ofInt_natCast, BitVec.toNat_ofNat]; exact Nat.mod_eq_of_lt (by omega)
  show IntKind.i64.wrap ((BitVec.ofInt 64 (a : Int) ||| BitVec.ofInt 64 (b : Int)).toNat : Int) = _
  rw [BitVec.toNat_or, h1, h2, IntKind.wrap_i64]
  omega
theorem or_zero_i64 (x : Int) (h : 0 ≤ x ∧ x < 9223372036854775808) : bits .or .i64 0 x = x := by
  obtain ⟨a, rfl⟩ := Int.eq_ofNat_of_zero_le h.1
  have := bits_or_i64_nat 0 a (by omega) (by omega)
  rw [Nat.zero_or] at this
  exact this
theorem or_add_i64 (q v : Int) (hq : 0 ≤ q ∧ q < 2147483648) (hv : 0 ≤ v ∧ v < 4294967296) : bits .or .i64 (q * 4294967296) v = q * 4294967296 + v := by
  obtain ⟨a, rfl⟩ := Int.eq_ofNat_of_zero_le hq.1
  obtain ⟨b, rfl⟩ := Int.eq_ofNat_of_zero_le hv.1
  have e : ((a : Int) * 4294967296) = ((a * 4294967296 : Nat) : Int) := by omega
  rw [e, bits_or_i64_nat _ _ (by omega) (by omega)]
  have h : a * 4294967296 ||| b = a * 4294967296 + b := by
    have := Nat.two_pow_add_eq_or_of_lt (i := 32) (b := b) (by omega) a
    rw [Nat.mul_comm]
    exact this.symm
  rw [h]; omega

set_option maxRecDepth 100000 in
set_option maxHeartbeats 1600000 in
/-- The document's Small. -/
theorem refSmall_any {B : Nat} {w : World} {v : Value} {xs : List Int} (h : Rd B w v xs) (hn : xs.length ≤ 17592186044415) :
    Calls Tryz.prog 71 #[v] w fun e w' => e = .returned (smallV (val xs)) ∧ Below w.heap.size w w' := by
  have hle := tr_length_le xs
  have ct := tr_can h.lim
  have hv := val_tr xs
  go_enter Tryz.func71, Tryz.ntmps71
  go_wp2_with fail
  refine (refTrim_rd h (by omega)).mono ?_
  rintro e wa ⟨a1, q1, rfl, o1, ba⟩
  obtain ⟨lx, _, _, e1, _, _, _, r1⟩ := o1.rd
  generalize tr xs = us at *
  have HV : Hid (val xs = val us) := hv.symm
  clear hv
  by_cases h3 : 2 < us.length
  · have hbig : 9223372036854775808 ≤ val us := by
      have h1 := can_low ct (by omega)
      have h2 := pw_mono (j := 2) (k := us.length - 1) (by omega)
      have e : pw 2 = 18446744073709551616 := by decide
      omega
    have HB : Hid (9223372036854775808 ≤ val us) := hbig
    clear hbig
    go_wp2
    go_ret2
    refine ⟨?_, ba⟩
    rw [HV.out, smallV_ge HB.out]; rfl
  · rcases list_two (Nat.le_of_not_lt h3) with rfl | ⟨x, rfl⟩ | ⟨x, y, rfl⟩
    · go_wp2
      refine wp_loop_rounds 1 ?_
      rw [rounds_succ]
      go_wp2
      go_ret2
      refine ⟨?_, ba⟩
      rw [HV.out]; rfl
    · rcases r1 with r1 | ⟨g1, f1, ea1, _, k1⟩
      · simp at r1
      subst ea1
      cases e1
      have hx := lx x (by simp)
      have kx : wa.cell? ⟨g1, f1, none⟩ = some (.int .u32 x) := k1 0 (by simp)
      have ex := or_zero_i64 x (by omega)
      have HVx : Hid (val [x] = x) := by unfold Hid; simp [val]
      clear k1 o1
      go_wp2
      refine wp_loop_rounds 2 ?_
      rw [rounds_succ]
      go_wp2
      rw [rounds_succ]
      go_wp2
      go_ret2
      refine ⟨?_, ba⟩
      rw [HV.out, HVx.out, smallV_lt (by omega)]; rfl
    · rcases r1 with r1 | ⟨g1, f1, ea1, _, k1⟩
      · simp at r1
      subst ea1
      cases e1
      have hx := lx x (by simp)
      have hy := lx y (by simp)
      have kx : wa.cell? ⟨g1, f1, none⟩ = some (.int .u32 x) := k1 0 (by simp)
      have ky : wa.cell? ⟨g1, f1 + 1, none⟩ = some (.int .u32 y) := k1 1 (by simp)
      have HVx : Hid (val [x, y] = x + y * 4294967296) := by unfold Hid; simp [val]; rw [Int.mul_comm]
      clear k1 o1
      by_cases hyb : y < 2147483648
      · have ey := or_zero_i64 y (by omega)
        have ex := or_add_i64 y x (by omega) hx
        go_wp2
        refine wp_loop_rounds 3 ?_
        rw [rounds_succ]
        go_wp2
        rw [rounds_succ]
        go_wp2
        rw [rounds_succ]
        go_wp2
        go_ret2
        refine ⟨?_, ba⟩
        rw [HV.out, HVx.out, smallV_lt (by omega), Int.add_comm]; rfl
      · have hyc : 2147483648 ≤ y := by omega
        go_wp2
        go_ret2
        refine ⟨?_, ba⟩
        rw [HV.out, HVx.out, smallV_ge (by omega)]; rfl
end Go.Proofs.YtidbebfendjnlaaGreatDoor

/- The statements' helpers own (limbs with room behind them) and kept. -/
namespace Go.Proofs.YtidbebfendjnlaaGreatDoor
set_option linter.unusedVariables false
set_option linter.unusedSimpArgs false
open Go.RowKit

theorem lt_of_cell0 {w : World} {b off : Nat} {v : Value} (h : w.cell? ⟨b, off, none⟩ = some v) : b < w.heap.size := by
  rcases Nat.lt_or_ge b w.heap.size with h' | h'
  · exact h'
  · simp [World.cell?, Array.getElem?_eq_none h'] at h

/-- Limbs of the call's own with 77 and 78 behind them. -/
def Roomy (base : Nat) (w : World) (v : Value) (ys : List Int) : Prop := ∃ g c, v = .slice (some ⟨g, 0, none⟩) ys.length c ∧ Own base w (.slice (some ⟨g, 0, none⟩) (ys ++ [77, 78]).length c) (ys ++ [77, 78])

theorem Roomy.rd {base : Nat} {w : World} {v : Value} {ys : List Int} (h : Roomy base w v ys) : Rd w.heap.size w v ys := by
  obtain ⟨g, c, rfl, hO⟩ := h
  have h1 := (hO.take ys.length (by simp)).rd
  have e : (ys ++ [77, 78]).take ys.length = ys := by simp
  rw [e] at h1
  exact h1
theorem Roomy.below {base B : Nat} {w w' : World} {v : Value} {ys : List Int} (h : Roomy base w v ys) (hb : Below B w w') (hB : w.heap.size ≤ B) : Roomy base w' v ys := by
  obtain ⟨g, c, rfl, hO⟩ := h
  exact ⟨g, c, rfl, hO.below hb hB⟩

end Go.Proofs.YtidbebfendjnlaaGreatDoor

/- The document's limb, Add, Minus. -/
namespace Go.Proofs.YtidbebfendjnlaaGreatDoor
set_option linter.unusedVariables false
set_option linter.unusedSimpArgs false
open Go.RowKit

theorem cell1_new (w : World) (x : Value) (t : TypeId) : ∀ j u, [x][j]? = some u → (w.alloc (.cells #[x] t)).cell? ((⟨w.heap.size, 0, none⟩ : Addr).add j) = some u := by
  intro j u hj
  match j, hj with
  | 0, hj => simp at hj; subst hj; simp [Addr.add]

theorem limb_in (b o n c i : Nat) (x : Int) (w : World) (hx : 0 ≤ x ∧ x < 4294967296) (h : i < n) (hb : n ≤ 9223372036854775807) (k : w.cell? ⟨b, o + i, none⟩ = some (.int .u32 x)) :
    Calls Tryz.prog 118 #[.slice (some ⟨b, o, none⟩) n c, .int .i64 i] w fun e w' => e = .returned (.int .u64 x) ∧ w = w' := by
  go_enter Tryz.func118, Tryz.ntmps118
  go_wp2
  go_ret
  exact ⟨rfl, rfl⟩
theorem limb_out (a : Option Addr) (n c i : Nat) (w : World) (h : ¬ i < n) :
    Calls Tryz.prog 118 #[.slice a n c, .int .i64 i] w fun e w' => e = .returned (.int .u64 0) ∧ w = w' := by
  go_enter Tryz.func118, Tryz.ntmps118
  go_wp2
  go_ret
  exact ⟨rfl, rfl⟩
/-- The document's limb: one of a number; 0 behind it. -/
theorem limb_rd {B : Nat} {w : World} {v : Value} {xs : List Int} (h : Rd B w v xs) (i : Nat) :
    Calls Tryz.prog 118 #[v, .int .i64 i] w fun e w' => e = .returned (.int .u64 (xs.getD i 0)) ∧ w = w' := by
  obtain ⟨hl, a, c, rfl, h1, h2, _, r⟩ := h
  by_cases hi : i < xs.length
  · rcases r with r | ⟨b, o, rfl, _, k⟩
    · omega
    · exact limb_in b o xs.length c i (xs.getD i 0) w (lim_getD hl i) hi (by omega) (k i hi)
  · have e : xs.getD i 0 = 0 := by simp [List.getD, List.getElem?_eq_none (Nat.le_of_not_lt hi)]
    rw [e]
    exact limb_out a xs.length c i w hi

theorem refAdd_step (us xs ys : List Int) (i : Nat) (c t : Int) (hl : us.length = i) (h : val us + c * pw i = val (xs.take i) + val (ys.take i)) (ht : t = xs.getD i 0 + ys.getD i 0 + c) :
    val (us ++ [t % 4294967296]) + t / 4294967296 * pw (i + 1) = val (xs.take (i + 1)) + val (ys.take (i + 1)) := by
  have hd : 4294967296 * (t / 4294967296) + t % 4294967296 = t := Int.mul_ediv_add_emod t 4294967296
  have htk : ∀ zs : List Int, val (zs.take (i + 1)) = val (zs.take i) + zs.getD i 0 * pw i := by
    intro zs
    by_cases hy : i < zs.length
    · exact val_take_succ zs i hy
    · have e1 : zs.take (i + 1) = zs.take i := by rw [List.take_of_length_le (by omega), List.take_of_length_le (by omega)]
      have e2 : zs.getD i 0 = 0 := by simp [List.getD, List.getElem?_eq_none (Nat.le_of_not_lt hy)]
      rw [e1, e2]; simp
  rw [val_append, hl, htk xs, htk ys, pw_succ]
  simp only [val]
  generalize t / 4294967296 = q at *
  generalize t % 4294967296 = r at *
  have key := congrArg (fun u => u * pw i) (hd.trans ht)
  simp only [Int.mul_zero, Int.add_zero] at *
  simp only [Int.add_mul, Int.mul_add, Int.mul_assoc, Int.mul_comm, Int.mul_left_comm] at *
  omega

theorem own_push {base : Nat} {w2 : World} {v' : Value} {us : List Int} {r : Int} (hl : lim us) (hr : 0 ≤ r ∧ r < 4294967296) (h : w2.ownsRow base 62 1 v' (us.length + 1) (us.map (Value.int .u32) ++ [.int .u32 r])) : Own base w2 v' (us ++ [r]) := by
  refine ⟨lim_append.2 ⟨hl, fun x hx => by simp at hx; omega⟩, ?_⟩
  rw [List.length_append, List.map_append]; exact h

set_option maxRecDepth 100000 in
set_option maxHeartbeats 1600000 in
/-- The document's Add of two: the sum, right limbs. -/
theorem refAdd_any {B1 B2 : Nat} {w : World} {v1 v2 : Value} {xs ys : List Int} (h1 : Rd B1 w v1 xs) (b1 : B1 ≤ w.heap.size) (h2 : Rd B2 w v2 ys) (b2 : B2 ≤ w.heap.size) (n1 : xs.length ≤ 1000000000000) (n2 : ys.length ≤ 1000000000000) :
    Calls Tryz.prog 88 #[v1, v2] w fun e w' => ∃ zs, can zs ∧ val zs = val xs + val ys ∧ zs.length ≤ max xs.length ys.length + 1 ∧ Makes w e w' zs := by
  obtain ⟨i0, hi, hz0, hz1, hz2⟩ := info_parts info_u32
  have lx := h1.lim
  have ly := h2.lim
  obtain ⟨a1, c1, rfl⟩ : ∃ a c, v1 = .slice a xs.length c := by obtain ⟨_, a, c, rfl, _⟩ := h1; exact ⟨a, c, rfl⟩
  obtain ⟨a2, c2, rfl⟩ : ∃ a c, v2 = .slice a ys.length c := by obtain ⟨_, a, c, rfl, _⟩ := h2; exact ⟨a, c, rfl⟩
  go_enter Tryz.func88, Tryz.ntmps88
  go_wp2
  go_loopw [5, 6, 7] (fun s cr ii wr => ∃ (i : Nat) (C : Int) (us : List Int) (a : Option Addr) (c : Nat), i ≤ max xs.length ys.length + 1 ∧ ii = .int .i64 i ∧ cr = .int .u64 C ∧ 0 ≤ C ∧ C ≤ 1 ∧ Hid (us.length = i) ∧ s = .slice a us.length c ∧ Own w.heap.size wr (.slice a us.length c) us ∧ Below w.heap.size w wr ∧ Hid (val us + C * pw i = val (xs.take i) + val (ys.take i)) ∧ (i = max xs.length ys.length + 1 → C = 0))
    (fun _ _ ii _ => max xs.length ys.length + 1 - (intOf ii).toNat)
  case atStart => exact ⟨0, 0, [], none, 0, by omega, rfl, rfl, by omega, by omega, rfl, rfl, ⟨lim_nil, World.ownsRow_nil _ _ _ _⟩, Below.refl _ _, by unfold Hid; simp [val], fun h => by omega⟩
  case round =>
    obtain ⟨i, C, us, a, c, hiM, rfl, rfl, hC0, hC1, hul, rfl, hown, hbl, hval, hlast⟩ := hrel
    have hs := hbl.size
    by_cases hgo : i < xs.length ∨ i < ys.length ∨ 0 < C
    · have hiM2 : i < max xs.length ys.length + 1 := by
        rcases hgo with h | h | h
        · omega
        · omega
        · by_cases he : i = max xs.length ys.length + 1
          · have := hlast he; omega
          · omega
      have rx := lim_getD lx i
      have ry := lim_getD ly i
      have hT0 : 0 ≤ xs.getD i 0 + ys.getD i 0 + C := by omega
      have k1 := limb_rd (h1.below (hbl.mono b1)) i
      have k2 := limb_rd (h2.below (hbl.mono b2)) i
      have hval2 := refAdd_step us xs ys i C _ hul.out hval.out rfl
      have hlast2 : i + 1 = max xs.length ys.length + 1 → (xs.getD i 0 + ys.getD i 0 + C) / 4294967296 = 0 := by
        intro he
        have e1 : xs.getD i 0 = 0 := by simp [List.getD, List.getElem?_eq_none (show xs.length ≤ i by omega)]
        have e2 : ys.getD i 0 = 0 := by simp [List.getD, List.getElem?_eq_none (show ys.length ≤ i by omega)]
        rw [e1, e2]; omega
      generalize hX : xs.getD i 0 = X at *
      generalize hY : ys.getD i 0 = Y at *
      have HVAL : Hid (val (us ++ [(X + Y + C) % 4294967296]) + (X + Y + C) / 4294967296 * pw (i + 1) = val (xs.take (i + 1)) + val (ys.take (i + 1))) := hval2
      have HLAST : Hid (i + 1 = max xs.length ys.length + 1 → (X + Y + C) / 4294967296 = 0) := hlast2
      clear hX hY hval2 hlast2 hlast
      have huL : us.length = i := hul.out
      have HUL : us.length ≤ 2000000000000 := by omega
      clear huL
      have hcases : i < xs.length ∨ (xs.length ≤ i ∧ i < ys.length) ∨ (xs.length ≤ i ∧ ys.length ≤ i ∧ 0 < C) := by omega
      clear hgo
      rcases hcases with q1 | ⟨q1, q2⟩ | ⟨q1, q2, q3⟩
      all_goals
        go_wp2_with fail
        refine k1.mono ?_
        rintro e w' ⟨rfl, rfl⟩
        go_wp2_with fail
        refine k2.mono ?_
        rintro e w' ⟨rfl, rfl⟩
        clear k1 k2
        go_wp2_with (at_builtin; (refine wpList_append_own _ rfl _ _ 22 rfl w.heap.size 62 i0 (.int .u32 0) 1 4 Tryz.underlying22 hi hz0 hz1 hz2 rfl (by decide) _ us.length (us.map (Value.int .u32)) rfl (hown.2.alloc _) ⟨wr.heap.size, 0, none⟩ 1 1 [.int .u32 ((X + Y + C) % 4294967296)] rfl rfl (cell1_new _ _ _) (by intro u hu; simp at hu; subst hu; rfl) (by unfold maxLen; omega) (by omega) (by simp; omega) ?_); intro v' w2 hown' hgrow _)
        have hO := own_push hown.lim (by omega) hown'
        have hb2 : Below w.heap.size w w2 := (hbl.alloc hs _).grown hgrow (by simp; omega) (fun k hk => (hown.2.lt k hk).1)
        obtain ⟨a3, c3, hv3⟩ := hO.form
        rw [hv3] at hO ⊢
        clear hown' hgrow hv3 hown
        go_wp2
        go_roundw
        case rel => exact ⟨i + 1, (X + Y + C) / 4294967296, us ++ [(X + Y + C) % 4294967296], a3, c3, by omega, by go_num, rfl, by omega, by omega, (by unfold Hid; rw [List.length_append, hul.out]; rfl), rfl, hO, hb2, HVAL, HLAST.out⟩
        case measure => simp [intOf]; omega
    · have q1 : ¬ i < xs.length := fun h => hgo (Or.inl h)
      have q2 : ¬ i < ys.length := fun h => hgo (Or.inr (Or.inl h))
      have q3 : C = 0 := by by_cases h : 0 < C; exact absurd (Or.inr (Or.inr h)) hgo; omega
      subst q3
      have hfin : val us = val xs + val ys := by
        have h3 := hval.out
        rw [List.take_of_length_le (Nat.le_of_not_lt q1), List.take_of_length_le (Nat.le_of_not_lt q2)] at h3
        simpa using h3
      have HF : Hid (val us = val xs + val ys) := hfin
      have huL : us.length = i := hul.out
      clear hfin hgo
      have hrd := hown.rd
      have hsz : us.length * 4 ≤ 140737488355328 := by omega
      have hfl : us.length ≤ max xs.length ys.length + 1 := by omega
      clear huL
      go_wp2_with fail
      refine (refTrim_rd hrd hsz).mono ?_
      rintro e w2 ⟨a3, c3, rfl, ho3, hb3⟩
      have ht := tr_length_le us
      go_wp2
      go_ret
      exact ⟨tr us, tr_can hown.lim, by rw [val_tr]; exact HF.out, by omega, Makes.of rfl (ho3.mono hs) (hbl.trans (hb3.mono hs))⟩
end Go.Proofs.YtidbebfendjnlaaGreatDoor

/- The document's Minus and Mul. -/
namespace Go.Proofs.YtidbebfendjnlaaGreatDoor
set_option linter.unusedVariables false
set_option linter.unusedSimpArgs false
open Go.RowKit

theorem refMinus_step (us xs ys : List Int) (i : Nat) (c z c' : Int) (hl : us.length = i) (h : val us - c * pw i = val (xs.take i) - val (ys.take i)) (ht : xs.getD i 0 - (ys.getD i 0 + c) = z - c' * 4294967296) :
    val (us ++ [z]) - c' * pw (i + 1) = val (xs.take (i + 1)) - val (ys.take (i + 1)) := by
  have htk : ∀ zs : List Int, val (zs.take (i + 1)) = val (zs.take i) + zs.getD i 0 * pw i := by
    intro zs
    by_cases hy : i < zs.length
    · exact val_take_succ zs i hy
    · have e1 : zs.take (i + 1) = zs.take i := by rw [List.take_of_length_le (by omega), List.take_of_length_le (by omega)]
      have e2 : zs.getD i 0 = 0 := by simp [List.getD, List.getElem?_eq_none (Nat.le_of_not_lt hy)]
      rw [e1, e2]; simp
  rw [val_append, hl, htk xs, htk ys, pw_succ]
  simp only [val]
  have key := congrArg (fun u => u * pw i) ht
  simp only [Int.mul_zero, Int.add_zero] at *
  simp only [Int.add_mul, Int.mul_add, Int.sub_mul, Int.mul_assoc, Int.mul_comm, Int.mul_left_comm] at *
  omega

theorem val_cut {xs ys : List Int} (hx : lim xs) (hy : lim ys) (h : val ys ≤ val xs) : val (ys.take xs.length) = val ys := by
  by_cases hl : ys.length ≤ xs.length
  · rw [List.take_of_length_le hl]
  · have h1 := val_split ys xs.length (by omega)
    have h2 := (val_bound hx).2
    have h3 := val_bound (lim_drop hy xs.length)
    have h4 := val_bound (lim_take hy xs.length)
    have hp := pw_pos xs.length
    have h5 : val (ys.drop xs.length) = 0 := by
      by_cases h0 : val (ys.drop xs.length) = 0
      · exact h0
      · have : pw xs.length * 1 ≤ pw xs.length * val (ys.drop xs.length) := Int.mul_le_mul_of_nonneg_left (by omega) (Int.le_of_lt hp)
        omega
    rw [h5] at h1; simp at h1; exact h1.symm

set_option maxRecDepth 100000 in
set_option maxHeartbeats 1600000 in
/-- The document's Minus. -/
theorem refMinus_any {B1 B2 : Nat} {w : World} {v1 v2 : Value} {xs ys : List Int} (h1 : Rd B1 w v1 xs) (b1 : B1 ≤ w.heap.size) (h2 : Rd B2 w v2 ys) (b2 : B2 ≤ w.heap.size) (n1 : xs.length ≤ 1000000000000) (n2 : ys.length ≤ 1000000000000) :
    Calls Tryz.prog 100 #[v1, v2] w fun e w' => Minuses w (val xs - val ys) e w' := by
  obtain ⟨i0, hi, hz0, hz1, hz2⟩ := info_parts info_u32
  have lx := h1.lim
  have ly := h2.lim
  obtain ⟨a1, c1, rfl⟩ : ∃ a c, v1 = .slice a xs.length c := by obtain ⟨_, a, c, rfl, _⟩ := h1; exact ⟨a, c, rfl⟩
  obtain ⟨a2, c2, rfl⟩ : ∃ a c, v2 = .slice a ys.length c := by obtain ⟨_, a, c, rfl, _⟩ := h2; exact ⟨a, c, rfl⟩
  by_cases hlt : val xs < val ys
  · have hcm := cmpI_lt hlt
    go_enter Tryz.func100, Tryz.ntmps100
    go_wp2_with fail
    refine (refCompare_rd h1 h2 b2 (by omega) (by omega)).mono ?_
    rintro e wa ⟨rfl, ba⟩
    rw [hcm]
    go_wp2
    go_ret2
    refine ⟨ba, ?_⟩
    rw [if_pos (by omega)]
    rfl
  · obtain ⟨cm, hcm, hcm0⟩ : ∃ cm, cmpI (val xs) (val ys) = cm ∧ 0 ≤ cm := by
      by_cases he : val xs = val ys
      · exact ⟨0, cmpI_eq he, by omega⟩
      · exact ⟨1, cmpI_gt (by omega), by omega⟩
    have HLT : Hid (val ys ≤ val xs) := by unfold Hid; omega
    go_enter Tryz.func100, Tryz.ntmps100
    go_wp2_with fail
    refine (refCompare_rd h1 h2 b2 (by omega) (by omega)).mono ?_
    rintro e wa ⟨rfl, ba⟩
    rw [hcm]
    have sa := ba.size
    clear hlt hcm
    go_wp2
    go_loopw [6, 7, 8] (fun s cr ii wr => ∃ (i : Nat) (C : Int) (us : List Int) (a : Option Addr) (c : Nat), i ≤ xs.length ∧ ii = .int .i64 i ∧ cr = .int .u64 C ∧ 0 ≤ C ∧ C ≤ 1 ∧ Hid (us.length = i) ∧ s = .slice a us.length c ∧ Own w.heap.size wr (.slice a us.length c) us ∧ Below w.heap.size w wr ∧ Hid (val us - C * pw i = val (xs.take i) - val (ys.take i)))
      (fun _ _ ii _ => xs.length - (intOf ii).toNat)
    case atStart => exact ⟨0, 0, [], none, 0, by omega, rfl, rfl, by omega, by omega, rfl, rfl, ⟨lim_nil, World.ownsRow_nil _ _ _ _⟩, ba, by unfold Hid; simp [val]⟩
    case round =>
      obtain ⟨i, C, us, a, c, hiM, rfl, rfl, hC0, hC1, hul, rfl, hown, hbl, hval⟩ := hrel
      have hs := hbl.size
      by_cases hgo : i < xs.length
      · have rx := lim_getD lx i
        have ry := lim_getD ly i
        have k1 := limb_rd (h1.below (hbl.mono b1)) i
        have k2 := limb_rd (h2.below (hbl.mono b2)) i
        have hstep := fun z c' => refMinus_step us xs ys i C z c' hul.out hval.out
        generalize hX : xs.getD i 0 = X at *
        generalize hY : ys.getD i 0 = Y at *
        have HSTEP : Hid (∀ z c', X - (Y + C) = z - c' * 4294967296 → val (us ++ [z]) - c' * pw (i + 1) = val (xs.take (i + 1)) - val (ys.take (i + 1))) := hstep
        clear hX hY hstep
        have huL : us.length = i := hul.out
        have HUL : us.length ≤ 2000000000000 := by omega
        clear huL
        by_cases hneg : X < Y + C
        · go_wp2_with fail
          refine k1.mono ?_
          rintro e w' ⟨rfl, rfl⟩
          go_wp2_with fail
          refine k2.mono ?_
          rintro e w' ⟨rfl, rfl⟩
          clear k1 k2
          have hz : (X + 4294967296 - (Y + C)) % 4294967296 = X + 4294967296 - (Y + C) := by omega
          go_wp2_with (at_builtin; (refine wpList_append_own _ rfl _ _ 22 rfl w.heap.size 62 i0 (.int .u32 0) 1 4 Tryz.underlying22 hi hz0 hz1 hz2 rfl (by decide) _ us.length (us.map (Value.int .u32)) rfl (hown.2.alloc _) ⟨wr.heap.size, 0, none⟩ 1 1 [.int .u32 (X + 4294967296 - (Y + C))] rfl rfl (cell1_new _ _ _) (by intro u hu; simp at hu; subst hu; rfl) (by unfold maxLen; omega) (by omega) (by simp; omega) ?_); intro v' w2 hown' hgrow _)
          have hO := own_push hown.lim (by omega) hown'
          have hb2 : Below w.heap.size w w2 := (hbl.alloc hs _).grown hgrow (by simp; omega) (fun k hk => (hown.2.lt k hk).1)
          obtain ⟨a3, c3, hv3⟩ := hO.form
          rw [hv3] at hO ⊢
          clear hown' hgrow hv3 hown hz
          go_wp2
          go_roundw
          case rel => exact ⟨i + 1, 1, us ++ [X + 4294967296 - (Y + C)], a3, c3, by omega, by go_num, rfl, by omega, by omega, (by unfold Hid; rw [List.length_append, hul.out]; rfl), rfl, hO, hb2, HSTEP.out _ 1 (by omega)⟩
          case measure => simp [intOf]; omega
        · go_wp2_with fail
          refine k1.mono ?_
          rintro e w' ⟨rfl, rfl⟩
          go_wp2_with fail
          refine k2.mono ?_
          rintro e w' ⟨rfl, rfl⟩
          clear k1 k2
          have hz : (X - (Y + C)) % 4294967296 = X - (Y + C) := by omega
          go_wp2_with (at_builtin; (refine wpList_append_own _ rfl _ _ 22 rfl w.heap.size 62 i0 (.int .u32 0) 1 4 Tryz.underlying22 hi hz0 hz1 hz2 rfl (by decide) _ us.length (us.map (Value.int .u32)) rfl (hown.2.alloc _) ⟨wr.heap.size, 0, none⟩ 1 1 [.int .u32 (X - (Y + C))] rfl rfl (cell1_new _ _ _) (by intro u hu; simp at hu; subst hu; rfl) (by unfold maxLen; omega) (by omega) (by simp; omega) ?_); intro v' w2 hown' hgrow _)
          have hO := own_push hown.lim (by omega) hown'
          have hb2 : Below w.heap.size w w2 := (hbl.alloc hs _).grown hgrow (by simp; omega) (fun k hk => (hown.2.lt k hk).1)
          obtain ⟨a3, c3, hv3⟩ := hO.form
          rw [hv3] at hO ⊢
          clear hown' hgrow hv3 hown hz
          go_wp2
          go_roundw
          case rel => exact ⟨i + 1, 0, us ++ [X - (Y + C)], a3, c3, by omega, by go_num, rfl, by omega, by omega, (by unfold Hid; rw [List.length_append, hul.out]; rfl), rfl, hO, hb2, HSTEP.out _ 0 (by omega)⟩
          case measure => simp [intOf]; omega
      · obtain rfl : i = xs.length := by omega
        have hfin : val us = val xs - val ys := by
          have h3 := hval.out
          rw [List.take_length, val_cut lx ly HLT.out] at h3
          have h4 := (val_bound hown.lim).2
          rw [hul.out] at h4
          have h5 := HLT.out
          have hc01 : C = 0 ∨ C = 1 := by omega
          rcases hc01 with rfl | rfl
          · simpa using h3
          · simp only [Int.one_mul] at h3; omega
        have HF : Hid (val us = val xs - val ys) := hfin
        have hsz : us.length * 4 ≤ 140737488355328 := by have := hul.out; omega
        clear hfin
        go_wp2_with fail
        refine (refTrim_rd hown.rd hsz).mono ?_
        rintro e w2 ⟨a3, c3, rfl, ho3, hb3⟩
        go_wp2
        go_ret2
        refine ⟨hbl.trans (hb3.mono hs), ?_⟩
        rw [if_neg (by have := HLT.out; omega)]
        exact ⟨tr us, a3, c3, tr_can hown.lim, by rw [val_tr]; exact HF.out, rfl, ho3.mono hs⟩
end Go.Proofs.YtidbebfendjnlaaGreatDoor

/- The document's Mul, Sum, Product. -/
namespace Go.Proofs.YtidbebfendjnlaaGreatDoor
set_option linter.unusedVariables false
set_option linter.unusedSimpArgs false
open Go.RowKit

theorem refMul_step (zs ys : List Int) (i j : Nat) (x c V t : Int) (hij : i + j < zs.length) (h : val zs + c * pw (i + j) = V + x * val (ys.take j) * pw i)
    (ht : t = zs.getD (i + j) 0 + x * ys.getD j 0 + c) : val (zs.set (i + j) (t % 4294967296)) + t / 4294967296 * pw (i + (j + 1)) = V + x * val (ys.take (j + 1)) * pw i := by
  have hd : 4294967296 * (t / 4294967296) + t % 4294967296 = t := Int.mul_ediv_add_emod t 4294967296
  have htk : val (ys.take (j + 1)) = val (ys.take j) + ys.getD j 0 * pw j := by
    by_cases hy : j < ys.length
    · exact val_take_succ ys j hy
    · have e1 : ys.take (j + 1) = ys.take j := by rw [List.take_of_length_le (by omega), List.take_of_length_le (by omega)]
      have e2 : ys.getD j 0 = 0 := by simp [List.getD, List.getElem?_eq_none (Nat.le_of_not_lt hy)]
      rw [e1, e2]; simp
  rw [val_set _ _ _ hij, htk, ← Nat.add_assoc, pw_succ, pw_add] at *
  generalize t / 4294967296 = q at *
  generalize t % 4294967296 = r at *
  have key := congrArg (fun u => u * (pw i * pw j)) (hd.trans ht)
  simp only [Int.add_mul, Int.mul_add, Int.sub_mul, Int.mul_assoc, Int.mul_comm, Int.mul_left_comm] at *
  omega

theorem Own.drewN {base : Nat} {w : World} {v : Value} {xs : List Int} (h : Own base w v xs) (n : Nat) : Own base (w.drewN n) v xs := h

set_option maxRecDepth 100000 in
set_option maxHeartbeats 3200000 in
/-- The document's Mul of two: the product, right limbs. -/
theorem refMul_any {B1 B2 : Nat} {w : World} {v1 v2 : Value} {xs ys : List Int} (h1 : Rd B1 w v1 xs) (b1 : B1 ≤ w.heap.size) (h2 : Rd B2 w v2 ys) (b2 : B2 ≤ w.heap.size) (n1 : xs.length ≤ 1000000000000) (n2 : ys.length ≤ 1000000000000) :
    Calls Tryz.prog 84 #[v1, v2] w fun e w' => ∃ zs, can zs ∧ val zs = val xs * val ys ∧ zs.length ≤ xs.length + ys.length + 1 ∧ Makes w e w' zs := by
  obtain ⟨i0, hi, hz0, hz1, hz2⟩ := info_parts info_u32
  have lx := h1.lim
  have ly := h2.lim
  have h1' := h1
  obtain ⟨_, a1, c1, rfl, _, _, _, kp⟩ := h1'
  obtain ⟨a2, c2, rfl⟩ : ∃ a c, v2 = .slice a ys.length c := by obtain ⟨_, a, c, rfl, _⟩ := h2; exact ⟨a, c, rfl⟩
  go_enter Tryz.func84, Tryz.ntmps84
  go_wp2_with (at_make; refine wpList_make_full _ rfl _ _ 22 rfl w.heap.size 62 i0 (.int .u32 0) 1 Tryz.underlying22 hi hz0 hz1 _ _ _ _ (xs.length + ys.length + 1) rfl rfl (by omega) (by omega) ?b2 ?b3 (Nat.le_refl _) ?_)
  case b2 => rw [hz2]; omega
  case b3 => unfold maxLen; omega
  intro w0 hown0 hgrow0
  have hO := own_made hown0
  have hb0 : Below w.heap.size w w0 := (Below.refl _ _).grown hgrow0 (Nat.le_refl _) (fun k h => by cases h)
  clear hown0 hgrow0
  go_wp2
  go_loopw [6] (fun s wr => ∃ (i : Nat) (zs : List Int), i ≤ xs.length ∧ s = .int .i64 i ∧ Hid (zs.length = xs.length + ys.length + 1) ∧ Own w.heap.size wr (.slice (some ⟨w.heap.size, 0, none⟩) (xs.length + ys.length + 1) (xs.length + ys.length + 1)) zs ∧ Below w.heap.size w wr ∧ Hid (val zs = val (xs.take i) * val ys) ∧ Hid (∀ k, i + ys.length ≤ k → zs.getD k 0 = 0))
    (fun s _ => xs.length - (intOf s).toNat)
  case atStart => exact ⟨0, List.replicate (xs.length + ys.length + 1) 0, Nat.zero_le _, rfl, List.length_replicate, hO, hb0, by unfold Hid; rw [val_replicate]; simp [val], fun k _ => by simp [List.getD, List.getElem?_replicate]; split <;> rfl⟩
  case round =>
    obtain ⟨i, zs, hin, rfl, hzl, hown, hbl, hval, hzero⟩ := hrel
    by_cases hlt : i < xs.length
    · obtain ⟨g, o, hpa, hg, hpc⟩ : ∃ g o, a1 = some ⟨g, o, none⟩ ∧ g < B1 ∧ ∀ j, j < xs.length → w.cell? ⟨g, o + j, none⟩ = some (.int .u32 (xs.getD j 0)) := by
        rcases kp with kp | ⟨g, o, ha, hg, hc⟩
        · omega
        · exact ⟨g, o, ha, hg, hc⟩
      subst hpa
      have hcx0 : w.cell? ⟨g, o + i, none⟩ = some (.int .u32 (xs.getD i 0)) := hpc i hlt
      have rx := lim_getD lx i
      generalize hX : xs.getD i 0 = X at *
      have HX : Hid (xs.getD i 0 = X) := hX
      have hgw : g < w.heap.size := by omega
      clear hX hpc hO hb0 kp
      go_wp2
      obtain ⟨wo, rfl⟩ : ∃ wo : World, wo = wr := ⟨_, rfl⟩
      go_loopw [8, 7] (fun s c wi => ∃ (j : Nat) (C : Int) (us : List Int), j ≤ ys.length + 1 ∧ s = .int .i64 j ∧ c = .int .u64 C ∧ 0 ≤ C ∧ C < 4294967296 ∧ Hid (us.length = xs.length + ys.length + 1) ∧ Own w.heap.size wi (.slice (some ⟨w.heap.size, 0, none⟩) (xs.length + ys.length + 1) (xs.length + ys.length + 1)) us ∧ Below w.heap.size w wi ∧ Hid (val us + C * pw (i + j) = val zs + X * val (ys.take j) * pw i) ∧ Hid (∀ k, i + ys.length + 1 ≤ k ∨ (j ≤ ys.length ∧ k = i + ys.length) → us.getD k 0 = 0) ∧ (j = ys.length + 1 → C = 0))
        (fun s _ _ => ys.length + 1 - (intOf s).toNat)
      case atStart => exact ⟨0, 0, zs, Nat.zero_le _, rfl, rfl, by omega, by omega, hzl, hown, hbl, by unfold Hid; simp [val], fun k hk => hzero.out k (by omega), fun h => by omega⟩
      case round =>
        obtain ⟨j, C, us, hjm, rfl, rfl, hC0, hC1, hul, hownu, hblu, hvalu, hzerou, hlast⟩ := hrel
        have hNu := hownu.lt hul.out
        by_cases hgo : j < ys.length ∨ 0 < C
        · have hjl : j ≤ ys.length := by
            rcases hgo with h | h
            · omega
            · by_cases he : j = ys.length + 1
              · have := hlast he; omega
              · omega
          have hcx : wr.cell? ⟨g, o + i, none⟩ = some (.int .u32 X) := (hblu.cell hgw).trans hcx0
          have ry := lim_getD ly j
          have hcz := hownu.cellAt hul.out (i + j) (by omega)
          have hfz := hownu.frozenAt hul.out (i + j)
          have rz := lim_getD hownu.lim (i + j)
          have kl : ∀ q, Calls Tryz.prog 118 #[.slice a2 ys.length c2, .int .i64 j] (wr.drewN q) fun e w' => e = .returned (.int .u64 (ys.getD j 0)) ∧ w' = wr.drewN q := fun q =>
            (limb_rd ((h2.below (hblu.mono b2)).below (below_drewN' (Below.refl _ _) q)) j).mono fun e w' ⟨he, hw⟩ => ⟨he, hw.symm⟩
          have hstep := refMul_step us ys i j X C (val zs) _ (by rw [hul.out]; omega) hvalu.out rfl
          have hlast2 : j + 1 = ys.length + 1 → (us.getD (i + j) 0 + X * ys.getD j 0 + C) / 4294967296 = 0 := by
            intro he
            have ej : j = ys.length := by omega
            have e2 : ys.getD j 0 = 0 := by simp [List.getD, List.getElem?_eq_none (show ys.length ≤ j by omega)]
            have e1 : us.getD (i + j) 0 = 0 := hzerou.out (i + j) (Or.inr ⟨by omega, by omega⟩)
            rw [e1, e2]; simp; omega
          generalize hY : ys.getD j 0 = Y at *
          generalize hZ : us.getD (i + j) 0 = Z at *
          have hxy := mul_bound rx ry
          have hT0 : 0 ≤ Z + X * Y + C := by omega
          have hT1 : Z + X * Y + C < 18446744073709551616 := by omega
          have hS := hownu.stored hul.out (i + j) ((Z + X * Y + C) % 4294967296) (by omega)
          have HSTEP : Hid (val (us.set (i + j) ((Z + X * Y + C) % 4294967296)) + (Z + X * Y + C) / 4294967296 * pw (i + (j + 1)) = val zs + X * val (ys.take (j + 1)) * pw i) := hstep
          have HLAST : Hid (j + 1 = ys.length + 1 → (Z + X * Y + C) / 4294967296 = 0) := hlast2
          clear hY hZ hstep hlast2 hlast hcx0
          have hcases : j < ys.length ∨ (ys.length ≤ j ∧ 0 < C) := by omega
          clear hgo
          rcases hcases with q1 | ⟨q1, q2⟩
          all_goals
            go_wp2
            go_quiet ((go_at_call 118; exact Calls.quiet_of_same (kl _)))
            clear kl
            go_wp2
            go_roundw
            case rel => exact ⟨j + 1, (Z + X * Y + C) / 4294967296, us.set (i + j) ((Z + X * Y + C) % 4294967296), by omega, by go_num, rfl, by omega, by omega, (by unfold Hid; rw [List.length_set]; exact hul.out), hS.drewN _, below_drewN' (hblu.setCell (Nat.le_refl _) _) _, HSTEP,
              (by unfold Hid; intro k hk; rw [getD_set]; split; omega; exact hzerou.out k (by omega)), HLAST.out⟩
            case measure => simp [intOf]; omega
        · have q1 : ¬ j < ys.length := fun h => hgo (Or.inl h)
          have q2 : C = 0 := by by_cases h : 0 < C; exact absurd (Or.inr h) hgo; omega
          subst q2
          have hfin : val us = val (xs.take (i + 1)) * val ys := by
            have h3 := hvalu.out
            rw [List.take_of_length_le (Nat.le_of_not_lt q1), hval.out] at h3
            rw [val_take_succ xs i hlt, HX.out, Int.add_mul]
            simp only [Int.zero_mul, Int.add_zero] at h3
            rw [h3]
            simp only [Int.mul_assoc, Int.mul_comm, Int.mul_left_comm]
          have HF : Hid (val us = val (xs.take (i + 1)) * val ys) := hfin
          clear hfin hgo
          go_wp2
          go_roundw
          case rel => exact ⟨i + 1, us, by omega, by go_num, hul, hownu, hblu, HF, fun k hk => hzerou.out k (by omega)⟩
          case measure => simp [intOf]; omega
    · obtain rfl : i = xs.length := by omega
      have hsz : zs.length * 4 ≤ 140737488355328 := by have := hzl.out; omega
      have hs := hbl.size
      clear kp
      go_wp2_with fail
      refine (refTrim_rd hown.rd hsz).mono ?_
      rintro e w2 ⟨a3, c3, rfl, ho3, hb3⟩
      have ht := tr_length_le zs
      go_wp2
      go_ret
      exact ⟨tr zs, tr_can hown.lim, by rw [val_tr, hval.out, List.take_length], by have := hzl.out; omega, Makes.of rfl (ho3.mono hs) (hbl.trans (hb3.mono hs))⟩
end Go.Proofs.YtidbebfendjnlaaGreatDoor

/- The document's Sum and Product; sums and products of none. -/
namespace Go.Proofs.YtidbebfendjnlaaGreatDoor
set_option linter.unusedVariables false
set_option linter.unusedSimpArgs false
open Go.RowKit

theorem Many.below {w w' : World} {Lb k : Nat} {vs : List Value} {xss : List (List Int)} (h : Many w Lb k vs xss) (hb : Below w.heap.size w w') : Many w' Lb k vs xss where
  lv := h.lv
  lx := h.lx
  lt := Nat.lt_of_lt_of_le h.lt hb.size
  cell := fun j hj => (hb.cell h.lt).trans (h.cell j hj)
  rd := fun j hj => ((h.rd j hj).below hb).mono hb.size

theorem sum_none (w : World) : Calls Tryz.prog 96 #[.slice none 0 0] w fun e w' => e = .returned (.slice none 0 0) ∧ Below w.heap.size w w' := by
  go_enter Tryz.func96, Tryz.ntmps96
  go_wp2
  refine wp_loop_rounds 1 ?_
  rw [rounds_succ]
  go_wp2
  go_ret
  exact ⟨rfl, (Below.refl _ _).alloc (Nat.le_refl _) _⟩

theorem product_none (w : World) : Calls Tryz.prog 97 #[.slice none 0 0] w fun e w' => Makes w e w' [1] := by
  go_enter Tryz.func97, Tryz.ntmps97
  go_wp2_with fail
  refine (beginAt_any 1 (by omega) (by omega) _).mono ?_
  intro e w1 hm1
  rw [one_limbs] at hm1
  obtain ⟨a, c, rfl, ho, hb⟩ := hm1
  have hz := hb.size
  go_wp2
  refine wp_loop_rounds 1 ?_
  rw [rounds_succ]
  go_wp2
  go_ret
  exact ⟨a, c, rfl, ho.alloc _, hb.alloc hz _⟩
end Go.Proofs.YtidbebfendjnlaaGreatDoor

/- Plain facts on doubling, halving and dividing limbs bit by bit. -/
namespace Go.Proofs.YtidbebfendjnlaaGreatDoor
set_option linter.unusedVariables false
set_option linter.unusedSimpArgs false
open Go.RowKit

theorem bits_or_u32_nat' (a b : Nat) (ha : a < 4294967296) (hb : b < 4294967296) : bits .or .u32 (a : Int) (b : Int) = ((a ||| b : Nat) : Int) := by
  have hx : a ||| b < 2 ^ 32 := Nat.or_lt_two_pow (by omega) (by omega)
  have h1 : (BitVec.ofInt 32 (a : Int)).toNat = a := by
    rw [BitVec.ofInt_natCast, BitVec.toNat_ofNat]; exact Nat.mod_eq_of_lt (by omega)
  have h2 : (BitVec.ofInt 32 (b : Int)).toNat = b := by
    rw [BitVec.ofInt_natCast, BitVec.toNat_ofNat]; exact Nat.mod_eq_of_lt (by omega)
  show IntKind.u32.wrap ((BitVec.ofInt 32 (a : Int) ||| BitVec.ofInt 32 (b : Int)).toNat : Int) = _
  rw [BitVec.toNat_or, h1, h2, IntKind.wrap_u32]
  omega

/-- Two times a limb, and a bit below. -/
theorem or_bit (x c : Int) (hx : 0 ≤ x ∧ x < 4294967296) (hc : 0 ≤ c ∧ c ≤ 1) : bits .or .u32 (x * 2 % 4294967296) c = x * 2 % 4294967296 + c := by
  obtain ⟨k, hk⟩ : ∃ k : Nat, x * 2 % 4294967296 = ((k * 2 : Nat) : Int) := ⟨(x % 2147483648).toNat, by omega⟩
  obtain ⟨d, rfl⟩ := Int.eq_ofNat_of_zero_le hc.1
  rw [hk, bits_or_u32_nat' _ _ (by omega) (by omega)]
  have h : k * 2 ||| d = k * 2 + d := by
    have := Nat.two_pow_add_eq_or_of_lt (i := 1) (b := d) (by omega) k
    rw [Nat.mul_comm]
    exact this.symm
  rw [h]; omega

/-- Half a limb, and a bit above. -/
theorem or_high (x c : Int) (hx : 0 ≤ x ∧ x < 4294967296) (hc : 0 ≤ c ∧ c ≤ 1) : bits .or .u32 (x / 2) (c * 2147483648) = x / 2 + c * 2147483648 := by
  obtain ⟨k, hk⟩ : ∃ k : Nat, x / 2 = (k : Int) := ⟨(x / 2).toNat, by omega⟩
  obtain ⟨d, rfl⟩ := Int.eq_ofNat_of_zero_le hc.1
  have e : ((d : Int) * 2147483648) = ((d * 2147483648 : Nat) : Int) := by omega
  rw [hk, e, bits_or_u32_nat' _ _ (by omega) (by omega)]
  have h : k ||| d * 2147483648 = k + d * 2147483648 := by
    have := Nat.two_pow_add_eq_or_of_lt (i := 31) (b := k) (by omega) d
    rw [Nat.or_comm, Nat.mul_comm, ← this]; omega
  rw [h]; omega

theorem ref_and_one_u32 (x : Int) (h0 : 0 ≤ x) (h1 : x < 4294967296) : bits .and .u32 x 1 = x % 2 :=
  bits_mask .u32 32 (by decide) (fun n a b => by rw [IntKind.wrap_u32]; omega) 1 (by decide) x h0 (by omega)
theorem and_one_u64 (x : Int) (h0 : 0 ≤ x) (h1 : x < 4294967296) : bits .and .u64 x 1 = x % 2 :=
  bits_mask .u64 64 (by decide) (fun n a b => by rw [IntKind.wrap_u64]; omega) 1 (by decide) x h0 (by omega)

theorem twice_step (us xs : List Int) (i : Nat) (c z c' m : Int) (hl : us.length = i) (hi : i < xs.length) (h : val us + c * pw i = 2 * val (xs.take i) + m) (ht : 2 * xs.getD i 0 + c = z + c' * 4294967296) :
    val (us ++ [z]) + c' * pw (i + 1) = 2 * val (xs.take (i + 1)) + m := by
  rw [val_append, hl, val_take_succ xs i hi, pw_succ]
  simp only [val]
  have key := congrArg (fun u => u * pw i) ht
  simp only [Int.mul_zero, Int.add_zero] at *
  simp only [Int.add_mul, Int.mul_add, Int.sub_mul, Int.mul_assoc, Int.mul_comm, Int.mul_left_comm] at *
  omega

theorem half_step (us xs : List Int) (i : Nat) (z m : Int) (hl : us.length = i) (hi : i < xs.length) (h : 2 * val us + m = val (xs.take i) + xs.getD i 0 % 2 * pw i) (ht : 2 * z = xs.getD i 0 - xs.getD i 0 % 2 + xs.getD (i + 1) 0 % 2 * 4294967296) :
    2 * val (us ++ [z]) + m = val (xs.take (i + 1)) + xs.getD (i + 1) 0 % 2 * pw (i + 1) := by
  rw [val_append, hl, val_take_succ xs i hi, pw_succ]
  simp only [val]
  generalize xs.getD i 0 % 2 = r at *
  generalize xs.getD (i + 1) 0 % 2 = s at *
  generalize xs.getD i 0 = x at *
  have key := congrArg (fun u => u * pw i) ht
  simp only [Int.mul_zero, Int.add_zero] at *
  simp only [Int.add_mul, Int.mul_add, Int.sub_mul, Int.mul_assoc, Int.mul_comm, Int.mul_left_comm] at *
  omega

theorem val_mod2 (xs : List Int) : val xs % 2 = xs.getD 0 0 % 2 := by
  cases xs with
  | nil => rfl
  | cons x xs => simp only [val, List.getD_cons_zero]; omega

/-- Half of limbs. -/
theorem half_end (us xs : List Int) (h : 2 * val us + xs.getD 0 0 % 2 = val (xs.take xs.length) + xs.getD xs.length 0 % 2 * pw xs.length) : val us = val xs / 2 := by
  have e : xs.getD xs.length 0 = 0 := by simp [List.getD]
  rw [e, List.take_length, ← val_mod2] at h
  simp at h
  omega

/-- The number without its j lowest bits. -/
def sh (A : Int) (j : Nat) : Int := A / p2 j
theorem sh_zero (A : Int) : sh A 0 = A := by unfold sh p2; simp
theorem sh_bits {A : Int} {b : Nat} (h : isBits A b) : sh A b = 0 := by
  unfold sh
  rcases h with ⟨rfl, _⟩ | ⟨h1, h2, h3⟩
  · simp
  · exact Int.ediv_eq_zero_of_lt (by have := p2_pos (b - 1); omega) h3
theorem sh_succ (A : Int) (j : Nat) : sh A (j + 1) = sh A j / 2 := by
  unfold sh
  rw [p2_succ, Int.mul_comm, ← Int.ediv_ediv_of_nonneg (Int.le_of_lt (p2_pos j))]
theorem sh_step (A : Int) (j : Nat) : sh A j = 2 * sh A (j + 1) + sh A j % 2 := by rw [sh_succ]; omega
theorem sh_nonneg {A : Int} (h : 0 ≤ A) (j : Nat) : 0 ≤ sh A j := Int.ediv_nonneg h (Int.le_of_lt (p2_pos j))
theorem sh_le {A : Int} (h : 0 ≤ A) (j : Nat) : sh A j ≤ A := Int.ediv_le_self _ h

theorem sh_bit {xs : List Int} (h : lim xs) (i : Nat) (hi : i / 32 < xs.length) : sh (val xs) i % 2 = xs.getD (i / 32) 0 / 2 ^ (i % 32) % 2 := by
  have hx := lim_getD h (i / 32)
  have e1 := val_split xs (i / 32 + 1) (by omega)
  rw [val_take_succ xs _ hi, pw_succ] at e1
  have hb := val_bound (lim_take h (i / 32))
  rw [List.length_take, Nat.min_eq_left (by omega)] at hb
  have hp := pw_pos (i / 32)
  have e2 : p2 i = pw (i / 32) * 2 ^ (i % 32) := by
    rw [pw_p2]; unfold p2; rw [← Int.pow_add]; congr 1; omega
  unfold sh
  rw [e2, ← Int.ediv_ediv_of_nonneg (Int.le_of_lt hp)]
  generalize val (xs.drop (i / 32 + 1)) = D at *
  generalize xs.getD (i / 32) 0 = X at *
  generalize val (xs.take (i / 32)) = L at *
  have e3 : val xs / pw (i / 32) = X + 4294967296 * D := by
    have e4 : val xs = L + pw (i / 32) * (X + 4294967296 * D) := by
      rw [e1]; simp only [Int.add_mul, Int.mul_add, Int.mul_assoc, Int.mul_comm, Int.mul_left_comm]; omega
    rw [e4, Int.add_mul_ediv_left _ _ (by omega), Int.ediv_eq_zero_of_lt hb.1 hb.2]; omega
  rw [e3]
  have hj : i % 32 < 32 := Nat.mod_lt _ (by omega)
  generalize i % 32 = j at *
  obtain ⟨d, hd⟩ : ∃ d, 31 = j + d := ⟨31 - j, by omega⟩
  have e5 : (4294967296 : Int) = 2 ^ j * (2 * 2 ^ d) := by
    have : (2 : Int) ^ j * 2 ^ d = 2 ^ 31 := by rw [← Int.pow_add, ← hd]
    have e6 : (2 : Int) ^ j * (2 * 2 ^ d) = 2 * (2 ^ j * 2 ^ d) := by simp only [Int.mul_assoc, Int.mul_comm, Int.mul_left_comm]
    rw [e6, this]; rfl
  have hp2 : (0 : Int) < 2 ^ j := Int.pow_pos (by omega)
  rw [e5, Int.mul_assoc, Int.add_mul_ediv_left _ _ (by omega), Int.mul_assoc]
  omega

/-- One step of a division bit by bit. -/
theorem divBit_step (A B q r b : Int) (j : Nat) (h : sh A (j + 1) = q * B + r) (hb : b = sh A j % 2) :
    sh A j = (2 * q) * B + (2 * r + b) ∧ sh A j = (2 * q + 1) * B + (2 * r + b - B) := by
  have := sh_step A j
  rw [h, ← hb] at this
  rw [this]
  simp only [Int.add_mul, Int.mul_add, Int.mul_assoc]
  constructor <;> omega

theorem ref_div_unique (A B q r q' r' : Int) (h : A = q * B + r) (h0 : 0 ≤ r) (h1 : r < B) (h' : A = q' * B + r') (h0' : 0 ≤ r') (h1' : r' < B) : q = q' ∧ r = r' := by
  have e : ∀ q r : Int, A = q * B + r → 0 ≤ r → r < B → r = A % B ∧ q = A / B := by
    intro q r h h0 h1
    rw [h]
    constructor
    · rw [Int.add_comm, Int.add_mul_emod_self_right, Int.emod_eq_of_lt h0 h1]
    · rw [Int.add_comm, Int.add_mul_ediv_right _ _ (by omega), Int.ediv_eq_zero_of_lt h0 h1]; omega
  obtain ⟨a1, a2⟩ := e q r h h0 h1
  obtain ⟨b1, b2⟩ := e q' r' h' h0' h1'
  exact ⟨a2.trans b2.symm, a1.trans b1.symm⟩

/-- The greatest divisor of two even numbers; of an even and an odd one; of a difference. -/
theorem gI_even2 (x y : Int) (hx : 0 ≤ x) (hy : 0 ≤ y) (h1 : x % 2 = 0) (h2 : y % 2 = 0) : gI x y = 2 * gI (x / 2) (y / 2) := by
  unfold gI
  have e1 : x.toNat = 2 * (x / 2).toNat := by omega
  have e2 : y.toNat = 2 * (y / 2).toNat := by omega
  rw [e1, e2, Nat.gcd_mul_left]; omega
theorem gI_even (x y : Int) (hx : 0 ≤ x) (hy : 0 ≤ y) (h1 : x % 2 = 0) (h2 : ¬ y % 2 = 0) : gI x y = gI (x / 2) y := by
  unfold gI
  have e1 : x.toNat = 2 * (x / 2).toNat := by omega
  have hc : Nat.Coprime 2 y.toNat := by
    have : y.toNat % 2 = 1 := by omega
    unfold Nat.Coprime
    rw [Nat.gcd_rec, this]
    rfl
  rw [e1, Nat.Coprime.gcd_mul_left_cancel _ hc]
theorem gI_even' (x y : Int) (hx : 0 ≤ x) (hy : 0 ≤ y) (h1 : y % 2 = 0) (h2 : ¬ x % 2 = 0) : gI x y = gI x (y / 2) := by
  rw [gI_comm, gI_even y x hy hx h1 h2, gI_comm]
theorem gI_sub (x y : Int) (hy : 0 ≤ y) (h : y ≤ x) : gI x y = gI (x - y) y := by
  unfold gI
  have e : x.toNat = (x - y).toNat + y.toNat := by omega
  rw [e, Nat.gcd_add_self_left]
theorem gI_sub' (x y : Int) (hx : 0 ≤ x) (h : x ≤ y) : gI x y = gI x (y - x) := by
  rw [gI_comm, gI_sub y x hx h, gI_comm]
theorem gI_p2 (t : Nat) (x y : Int) (hx : 0 ≤ x) (hy : 0 ≤ y) : gI (p2 t * x) (p2 t * y) = p2 t * gI x y := by
  obtain ⟨a, rfl⟩ := Int.eq_ofNat_of_zero_le hx
  obtain ⟨b, rfl⟩ := Int.eq_ofNat_of_zero_le hy
  have e : p2 t = ((2 ^ t : Nat) : Int) := by unfold p2; simp
  unfold gI
  rw [e, ← Int.natCast_mul, ← Int.natCast_mul]
  simp only [Int.toNat_natCast]
  rw [Nat.gcd_mul_left, Int.natCast_mul]
end Go.Proofs.YtidbebfendjnlaaGreatDoor

/- The document's Power. -/
namespace Go.Proofs.YtidbebfendjnlaaGreatDoor
set_option linter.unusedVariables false
set_option linter.unusedSimpArgs false
open Go.RowKit

/-- What a power with a limit answers: nothing where it has more limbs, else its limbs. -/
def PowersTo (w : World) (V : Int) (M : Nat) (e : Ending) (w' : World) : Prop :=
  Below w.heap.size w w' ∧ (pw M ≤ V → e = .returned (.tuple #[.slice none 0 0, .bool false])) ∧
    (V < pw M → ∃ zs a c, can zs ∧ val zs = V ∧ e = .returned (.tuple #[.slice a zs.length c, .bool true]) ∧ Own w.heap.size w' (.slice a zs.length c) zs)

theorem PowersTo.yes {w w' : World} {V : Int} {M : Nat} {zs : List Int} {a : Option Addr} {c : Nat} (hb : Below w.heap.size w w') (hz : can zs) (hv : val zs = V) (hl : zs.length ≤ M) (ho : Own w.heap.size w' (.slice a zs.length c) zs) :
    PowersTo w V M (.returned (.tuple #[.slice a zs.length c, .bool true])) w' :=
  ⟨hb, fun h => by have := (can_len_pw hz M).1 hl; omega, fun _ => ⟨zs, a, c, hz, hv, rfl, ho⟩⟩

theorem PowersTo.no {w w' : World} {V : Int} {M : Nat} (hb : Below w.heap.size w w') (hv : pw M ≤ V) : PowersTo w V M (.returned (.tuple #[.slice none 0 0, .bool false])) w' :=
  ⟨hb, fun _ => rfl, fun h => by omega⟩

theorem pow_grow {X : Int} (h : 1 ≤ X) {j k : Nat} (hjk : j ≤ k) : X ^ j ≤ X ^ k := by
  induction hjk with
  | refl => exact Int.le_refl _
  | step _ ih =>
    rw [Int.pow_succ]
    have h0 : 0 ≤ X ^ j := Int.pow_nonneg (by omega)
    rename_i m _
    have h1 : X ^ m * 1 ≤ X ^ m * X := Int.mul_le_mul_of_nonneg_left h (by omega)
    omega

theorem pow_next (X : Int) (n k : Nat) (h : 0 < k) (hk : k ≤ n) : X ^ (n - k) * X = X ^ (n - (k - 1)) := by
  rw [← Int.pow_succ]; congr 1; omega

theorem long_pw {zs : List Int} (h : can zs) (M : Nat) (hl : ¬ zs.length ≤ M) : pw M ≤ val zs := by
  have := (can_len_pw h M).2
  by_cases hv : val zs < pw M
  · exact absurd (this hv) hl
  · omega

theorem own_nil (base : Nat) (w : World) : Own base w (.slice none 0 0) [] := ⟨lim_nil, World.ownsRow_nil _ _ _ _⟩

set_option maxRecDepth 100000 in
set_option maxHeartbeats 1600000 in
theorem refPower_walk {B : Nat} {w : World} {v : Value} {xs : List Int} (n M : Nat) (V : Int) (h : Rd B w v xs) (hB : B ≤ w.heap.size) (hl : xs.length ≤ 1000000) (hn : n < 9223372036854775808) (hM : M ≤ 1000000) (hV : Hid (V = val xs ^ n)) :
    Calls Tryz.prog 93 #[v, .int .i64 n, .int .i64 M] w fun e w' => PowersTo w V M e w' := by
  have hO1 : Own w.heap.size (w.alloc (.cells #[.int .u32 1] 62)) (.slice (some ⟨w.heap.size, 0, none⟩) 1 1) [1] := ⟨can_one.1, World.ownsRow_lit w #[.int .u32 1] 1 (Nat.le_refl _) (by unfold maxLen; omega) rfl⟩
  have b0 : Below w.heap.size w (w.alloc (.cells #[.int .u32 1] 62)) := (Below.refl _ _).alloc (Nat.le_refl _) _
  have h' := h.below (b0.mono hB)
  have s0 := b0.size
  have ct := tr_can h.lim
  have hle := tr_length_le xs
  have hv := val_tr xs
  rw [← hv] at hV
  go_enter Tryz.func93, Tryz.ntmps93
  go_wp2_with fail
  refine (refTrim_rd h' (by omega)).mono ?_
  rintro e wa ⟨a1, q1, rfl, o1, ba⟩
  have sa := ba.size
  have op : Own w.heap.size wa (.slice (some ⟨w.heap.size, 0, none⟩) [(1 : Int)].length 1) [1] := hO1.below ba (Nat.le_refl _)
  have bw : Below w.heap.size w wa := b0.trans (ba.mono s0)
  have ob : Own w.heap.size wa (.slice a1 (tr xs).length q1) (tr xs) := o1.mono s0
  have hs : w.heap.size ≤ wa.heap.size := bw.size
  clear hO1 b0 h' ba o1 hv s0 sa
  generalize tr xs = us at *
  clear h
  have one_end : ∀ {M : Nat}, ¬ M = 0 → [(1 : Int)].length ≤ M := fun h => by simp; omega
  by_cases h0 : us.length = 0
  · have e : us = [] := List.eq_nil_of_length_eq_zero h0
    subst e
    by_cases hn0 : n = 0
    · subst hn0
      have HV : Hid (V = 1) := by unfold Hid; rw [hV.out]; simp
      by_cases hM0 : M = 0
      · subst hM0
        go_wp2
        refine wp_loop_rounds 1 ?_
        rw [rounds_succ]
        go_wp2
        go_ret2
        exact PowersTo.no bw (by rw [HV.out]; decide)
      · go_wp2
        refine wp_loop_rounds 1 ?_
        rw [rounds_succ]
        go_wp2
        go_ret2
        exact PowersTo.yes bw can_one (by rw [HV.out]; decide) (one_end hM0) op
    · have HV : Hid (V = 0) := by
        unfold Hid; rw [hV.out]
        obtain ⟨k, rfl⟩ : ∃ k, n = k + 1 := ⟨n - 1, by omega⟩
        rw [Int.pow_succ]; simp [val]
      go_wp2
      refine wp_loop_rounds 1 ?_
      rw [rounds_succ]
      go_wp2
      go_ret2
      exact PowersTo.yes bw can_nil (by rw [HV.out]; rfl) (Nat.zero_le _) (own_nil _ _)
  · obtain ⟨lu, _, _, e1, _, _, _, r1⟩ := ob.rd
    rcases r1 with r1 | ⟨g1, f1, ea1, _, k1⟩
    · exact absurd r1 h0
    subst ea1
    cases e1
    have hc0 := k1 0 (by omega)
    have hu0 := lim_getD lu 0
    by_cases hone : us = [1]
    · subst hone
      have HV : Hid (V = 1) := by unfold Hid; rw [hV.out, show val [1] = 1 by decide]; exact Int.one_pow
      have hc0' : wa.cell? ⟨g1, f1, none⟩ = some (.int .u32 1) := hc0
      clear hc0 k1 hu0
      by_cases hM0 : M = 0
      · subst hM0
        go_wp2
        refine wp_loop_rounds 1 ?_
        rw [rounds_succ]
        go_wp2
        go_ret2
        exact PowersTo.no bw (by rw [HV.out]; decide)
      · go_wp2
        refine wp_loop_rounds 1 ?_
        rw [rounds_succ]
        go_wp2
        go_ret2
        exact PowersTo.yes bw can_one (by rw [HV.out]; decide) (one_end hM0) op
    · have hpos : 1 ≤ val us := by
        have := can_low ct (by omega)
        have := pw_pos (us.length - 1)
        omega
      have HX : Hid (1 ≤ val us) := hpos
      clear hpos
      have hrb : Rd wa.heap.size wa (.slice (some ⟨g1, f1, none⟩) us.length q1) us := ob.rd
      have hcs : (us.length < 2 ∧ (us.getD 0 0 == 1) = false) ∨ 2 ≤ us.length := by
        by_cases hl1 : us.length = 1
        · left
          refine ⟨by omega, beq_eq_false_iff_ne.2 fun hx => hone ?_⟩
          match us, hl1 with
          | [x], _ => have : x = 1 := hx; rw [this]
        · right; omega
      have hc0' : wa.cell? ⟨g1, f1, none⟩ = some (.int .u32 (us.getD 0 0)) := hc0
      clear hc0 k1 hone
      generalize us.getD 0 0 = U at *
      have hL : us.length ≤ 1000000 := by omega
      rcases hcs with ⟨q1', q2'⟩ | q1'
      all_goals
        go_wp2
        go_loopw [1, 8] (fun nn p wr => ∃ (k : Nat) (zs : List Int) (a : Option Addr) (c : Nat), k ≤ n ∧ nn = .int .i64 k ∧ can zs ∧ Hid (val zs = val us ^ (n - k)) ∧ zs.length ≤ M + us.length + 1 ∧ p = .slice a zs.length c ∧ Own w.heap.size wr (.slice a zs.length c) zs ∧ Below wa.heap.size wa wr)
          (fun nn _ _ => (intOf nn).toNat)
        case atStart => exact ⟨n, [1], some ⟨w.heap.size, 0, none⟩, 1, Nat.le_refl _, rfl, can_one, by unfold Hid; simp [val], by simp, rfl, op, Below.refl _ _⟩
        case round =>
          obtain ⟨k, zs, a, c, hkn, rfl, hcan, hval, hlen, rfl, hown, hbl⟩ := hrel
          have hsz := hbl.size
          have bwr : Below w.heap.size w wr := bw.trans (hbl.mono hs)
          by_cases hk0 : k = 0
          · subst hk0
            have HF : Hid (val zs = V) := by unfold Hid; rw [hval.out, hV.out]; rfl
            by_cases hzM : zs.length ≤ M
            · go_wp2
              go_ret2
              exact PowersTo.yes bwr hcan HF.out hzM hown
            · go_wp2
              go_ret2
              exact PowersTo.no bwr (by rw [← HF.out]; exact long_pw hcan M hzM)
          · by_cases hzM : zs.length ≤ M
            · go_wp2_with fail
              refine (refMul_any hown.rd (Nat.le_refl _) (hrb.below hbl) hsz (by omega) (by omega)).mono ?_
              rintro e w2 ⟨us', cu, vu, lu', a3, c3, rfl, ho3, hb3⟩
              go_wp2
              go_roundw
              case rel =>
                exact ⟨k - 1, us', a3, c3, by omega, by go_num, cu, (by unfold Hid; rw [vu, hval.out, pow_next _ _ _ (by omega) hkn]), by omega, rfl, ho3.mono (by omega), hbl.trans (hb3.mono hsz)⟩
              case measure => simp [intOf]; omega
            · go_wp2
              go_ret2
              exact PowersTo.no bwr (by
                have h1 := long_pw hcan M hzM
                have h2 := pow_grow HX.out (show n - k ≤ n by omega)
                rw [hV.out]; have := hval.out; omega)
end Go.Proofs.YtidbebfendjnlaaGreatDoor

/- The document's twice, bit and DivMod. -/
namespace Go.Proofs.YtidbebfendjnlaaGreatDoor
set_option linter.unusedVariables false
set_option linter.unusedSimpArgs false
open Go.RowKit

set_option maxRecDepth 100000 in
set_option maxHeartbeats 1600000 in
/-- The document's twice: two times a number, and a bit. -/
theorem refTwice_any {B : Nat} {w : World} {v : Value} {xs : List Int} (m : Int) (hm : 0 ≤ m ∧ m ≤ 1) (h : Rd B w v xs) (hB : B ≤ w.heap.size) (hn : xs.length ≤ 1000000000) :
    Calls Tryz.prog 112 #[v, .int .u32 m] w fun e w' => ∃ zs, can zs ∧ val zs = 2 * val xs + m ∧ Makes w e w' zs := by
  obtain ⟨i0, hi, hz0, hz1, hz2⟩ := info_parts info_u32
  have lx := h.lim
  obtain ⟨_, a1, c1, rfl, hcap0, hcap, _, kp⟩ := h
  go_enter Tryz.func112, Tryz.ntmps112
  go_wp2
  go_loopw [5, 6, 7] (fun s cr ii wr => ∃ (i : Nat) (C : Int) (us : List Int) (a : Option Addr) (c : Nat), i ≤ xs.length ∧ ii = .int .i64 i ∧ cr = .int .u32 C ∧ 0 ≤ C ∧ C ≤ 1 ∧ Hid (us.length = i) ∧ s = .slice a us.length c ∧ Own w.heap.size wr (.slice a us.length c) us ∧ Below w.heap.size w wr ∧ Hid (val us + C * pw i = 2 * val (xs.take i) + m))
    (fun _ _ ii _ => xs.length - (intOf ii).toNat)
  case atStart => exact ⟨0, m, [], none, 0, by omega, rfl, rfl, hm.1, hm.2, rfl, rfl, own_nil _ _, Below.refl _ _, by unfold Hid; simp [val, pw_zero]⟩
  case round =>
    obtain ⟨i, C, us, a, c, hiM, rfl, rfl, hC0, hC1, hul, rfl, hown, hbl, hval⟩ := hrel
    have hs := hbl.size
    have huL : us.length = i := hul.out
    have HUL : us.length ≤ 2000000000 := by omega
    clear huL
    by_cases hgo : i < xs.length
    · rcases kp with kp | ⟨b, o, rfl, hbB, kp⟩
      · omega
      have rx := lim_getD lx i
      have hc : wr.cell? ⟨b, o + i, none⟩ = some (.int .u32 (xs.getD i 0)) := (hbl.cell (by show b < w.heap.size; omega)).trans (kp i hgo)
      have hstep := twice_step us xs i C (xs.getD i 0 * 2 % 4294967296 + C) (xs.getD i 0 / 2147483648) m hul.out hgo hval.out (by omega)
      have hor := or_bit (xs.getD i 0) C rx ⟨hC0, hC1⟩
      generalize xs.getD i 0 = X at *
      have HST : Hid (val (us ++ [X * 2 % 4294967296 + C]) + X / 2147483648 * pw (i + 1) = 2 * val (xs.take (i + 1)) + m) := hstep
      clear hstep kp
      have hca : (wr.alloc (.cells #[.int .u32 (X * 2 % 4294967296 + C)] 62)).cell? ⟨b, o + i, none⟩ = some (.int .u32 X) := by rw [← hc]; exact ((Below.refl wr.heap.size wr).alloc (Nat.le_refl _) _).cell (by show b < wr.heap.size; omega)
      go_wp2_with (at_builtin; (refine wpList_append_own _ rfl _ _ 22 rfl w.heap.size 62 i0 (.int .u32 0) 1 4 Tryz.underlying22 hi hz0 hz1 hz2 rfl (by decide) _ us.length (us.map (Value.int .u32)) rfl (hown.2.alloc _) ⟨wr.heap.size, 0, none⟩ 1 1 [.int .u32 (X * 2 % 4294967296 + C)] rfl rfl (cell1_new _ _ _) (by intro u hu; simp at hu; subst hu; rfl) (by unfold maxLen; omega) (by omega) (by simp; omega) ?_); intro v' w2 hown' hgrow _; have hb2 : Below w.heap.size w w2 := (hbl.alloc hs _).grown hgrow (by simp; omega) (fun k hk => (hown.2.lt k hk).1); have hc2 : w2.cell? ⟨b, o + i, none⟩ = some (.int .u32 X) := by rw [← hc, hbl.cell (p := ⟨b, o + i, none⟩) (by show b < w.heap.size; omega)]; exact hb2.cell (by show b < w.heap.size; omega))
      have hO := own_push hown.lim (by omega) hown'
      obtain ⟨a3, c3, hv3⟩ := hO.form
      rw [hv3] at hO ⊢
      clear hown' hgrow hv3 hown hor
      go_wp2
      go_roundw
      case rel => exact ⟨i + 1, X / 2147483648, us ++ [X * 2 % 4294967296 + C], a3, c3, by omega, by go_num, by go_num, by omega, by omega, (by unfold Hid; rw [List.length_append, hul.out]; rfl), rfl, hO, hb2, HST⟩
      case measure => simp [intOf]; omega
    · obtain rfl : i = xs.length := by omega
      have hfin : val (us ++ [C]) = 2 * val xs + m := by
        have h3 := hval.out
        rw [List.take_length] at h3
        rw [val_append, hul.out]
        simp only [val]
        rw [Int.mul_comm]
        simpa using h3
      have HF : Hid (val (us ++ [C]) = 2 * val xs + m) := hfin
      clear hfin kp
      go_wp2_with (at_builtin; (refine wpList_append_own _ rfl _ _ 22 rfl w.heap.size 62 i0 (.int .u32 0) 1 4 Tryz.underlying22 hi hz0 hz1 hz2 rfl (by decide) _ us.length (us.map (Value.int .u32)) rfl (hown.2.alloc _) ⟨wr.heap.size, 0, none⟩ 1 1 [.int .u32 C] rfl rfl (cell1_new _ _ _) (by intro u hu; simp at hu; subst hu; rfl) (by unfold maxLen; omega) (by omega) (by simp; omega) ?_); intro v' w2 hown' hgrow _)
      have hO := own_push hown.lim (by omega) hown'
      have hb2 : Below w.heap.size w w2 := (hbl.alloc hs _).grown hgrow (by simp; omega) (fun k hk => (hown.2.lt k hk).1)
      have hs2 := hb2.size
      have hlen : (us ++ [C]).length * 4 ≤ 140737488355328 := by simp; omega
      clear hown' hgrow hown
      go_wp2_with fail
      refine (refTrim_rd hO.rd hlen).mono ?_
      rintro e w3 ⟨a3, c3, rfl, ho3, hb3⟩
      go_wp2
      go_ret
      exact ⟨tr (us ++ [C]), tr_can hO.lim, by rw [val_tr]; exact HF.out, Makes.of rfl (ho3.mono hs2) (hb2.trans (hb3.mono hs2))⟩

set_option maxHeartbeats 800000 in
/-- The document's bit: one of a number. -/
theorem refBit_any {B : Nat} {w : World} {v : Value} {xs : List Int} (i : Nat) (m : Int) (hm : Hid (m = sh (val xs) i % 2)) (h : Rd B w v xs) (hi : i / 32 < xs.length) (hi2 : i < 9223372036854775807) :
    Calls Tryz.prog 113 #[v, .int .i64 i] w fun e w' => e = .returned (.int .u32 m) ∧ w = w' := by
  have lx := h.lim
  obtain ⟨_, a1, c1, rfl, hcap0, hcap, _, kp⟩ := h
  rcases kp with kp | ⟨b, o, rfl, hbB, kp⟩
  · omega
  have hc := kp (i / 32) hi
  have rx := lim_getD lx (i / 32)
  have hm2 := hm.out
  rw [sh_bit lx i hi] at hm2
  have hq : 0 ≤ xs.getD (i / 32) 0 / 2 ^ (i % 32) ∧ xs.getD (i / 32) 0 / 2 ^ (i % 32) < 4294967296 := by
    have hp : (0 : Int) < 2 ^ (i % 32) := Int.pow_pos (by omega)
    refine ⟨Int.ediv_nonneg rx.1 (by omega), ?_⟩
    have := Int.ediv_le_self (2 ^ (i % 32)) rx.1
    omega
  have hand := ref_and_one_u32 _ hq.1 hq.2
  rw [← hm2] at hand
  clear hm2 hm kp
  generalize xs.getD (i / 32) 0 = X at *
  have e1 : ((i : Int) / 32).toNat = i / 32 := by omega
  have e2 : ((i : Int) % 32).toNat = i % 32 := by omega
  go_enter Tryz.func113, Tryz.ntmps113
  go_wp2
  go_ret
  exact ⟨rfl, rfl⟩
end Go.Proofs.YtidbebfendjnlaaGreatDoor

/- The document's DivMod. -/
namespace Go.Proofs.YtidbebfendjnlaaGreatDoor
set_option linter.unusedVariables false
set_option linter.unusedSimpArgs false
open Go.RowKit

/-- What a division answers: quotient and rest. -/
def RefDivs (w : World) (xs ys : List Int) (e : Ending) (w' : World) : Prop :=
  ∃ qs rs a c a' c', e = .returned (.tuple #[.slice a qs.length c, .slice a' rs.length c', .bool true]) ∧ Own w.heap.size w' (.slice a qs.length c) qs ∧ Own w.heap.size w' (.slice a' rs.length c') rs ∧ can qs ∧ can rs ∧ val xs = val qs * val ys + val rs ∧ val rs < val ys ∧ Below w.heap.size w w'

theorem refDivMod_zero {B1 : Nat} {w : World} {v1 v2 : Value} {ys : List Int} (h2 : Rd B1 w v2 ys) (hn : ys.length ≤ 1000000) (h0 : val ys = 0) :
    Calls Tryz.prog 62 #[v1, v2] w fun e w' => e = .returned (.tuple #[.slice none 0 0, .slice none 0 0, .bool false]) ∧ Below w.heap.size w w' := by
  have ht : (tr ys).length = 0 := by rw [can_zero (tr_can h2.lim), val_tr]; exact h0
  go_enter Tryz.func62, Tryz.ntmps62
  go_wp2_with fail
  refine (refTrim_rd h2 (by omega)).mono ?_
  rintro e wa ⟨a1, q1, rfl, o1, ba⟩
  rw [ht]
  go_wp2
  go_ret3
  exact ⟨rfl, ba⟩

theorem len_of_lt {zs : List Int} (h : can zs) {L : Nat} (hv : val zs < pw L) : zs.length ≤ L := (can_len_pw h L).2 hv

theorem quot_le {A B q r : Int} (h : A = q * B + r) (hB : 0 < B) (hq : 0 ≤ q) (hr : 0 ≤ r) : q ≤ A := by
  have : q * 1 ≤ q * B := Int.mul_le_mul_of_nonneg_left (by omega) hq
  omega

set_option maxRecDepth 100000 in
set_option maxHeartbeats 3200000 in
theorem refDivMod_any {B1 B2 : Nat} {w : World} {v1 v2 : Value} {xs ys : List Int} (h1 : Rd B1 w v1 xs) (b1 : B1 ≤ w.heap.size) (h2 : Rd B2 w v2 ys) (b2 : B2 ≤ w.heap.size) (n1 : xs.length ≤ 1000000) (n2 : ys.length ≤ 1000000) (h0 : ¬ val ys = 0) :
    Calls Tryz.prog 62 #[v1, v2] w fun e w' => RefDivs w xs ys e w' := by
  have hA := val_bound h1.lim
  have hY := val_bound h2.lim
  have ht : ¬ (tr ys).length = 0 := by rw [can_zero (tr_can h2.lim), val_tr]; exact h0
  have HA : Hid (0 ≤ val xs ∧ val xs < pw xs.length) := hA
  have HY : Hid (0 < val ys ∧ val ys < pw ys.length) := ⟨by omega, hY.2⟩
  clear hA hY h0
  go_enter Tryz.func62, Tryz.ntmps62
  go_wp2_with fail
  refine (refTrim_rd h2 (by omega)).mono ?_
  rintro e wa ⟨a1, q1, rfl, o1, ba⟩
  have ra1 := h1.below (ba.mono b1)
  have sa := ba.size
  clear o1
  generalize (tr ys).length = T at ht
  go_wp2_with fail
  refine (refBits_any ra1 (by omega)).mono ?_
  rintro e wb ⟨nb, rfl, hbits, bb⟩
  have bw : Below w.heap.size w wb := ba.trans (bb.mono sa)
  have hnb : nb ≤ 32 * xs.length := by
    rcases hbits with ⟨_, rfl⟩ | ⟨k1, k2, k3⟩
    · omega
    · by_cases hle : nb ≤ 32 * xs.length
      · exact hle
      · have h3 := p2_mono (show 32 * xs.length ≤ nb - 1 by omega)
        rw [← pw_p2] at h3
        have := HA.out; omega
  have HS : Hid (sh (val xs) nb = 0) := sh_bits hbits
  clear hbits
  go_wp2
  go_loopw [7, 8, 9] (fun q r ii wr => ∃ (i : Nat) (qs rs : List Int) (a : Option Addr) (c : Nat) (a' : Option Addr) (c' : Nat), i ≤ nb ∧ ii = .int .i64 ((i : Int) - 1) ∧ can qs ∧ can rs ∧ Hid (sh (val xs) i = val qs * val ys + val rs ∧ val rs < val ys) ∧ q = .slice a qs.length c ∧ r = .slice a' rs.length c' ∧ Own w.heap.size wr (.slice a qs.length c) qs ∧ Own w.heap.size wr (.slice a' rs.length c') rs ∧ Below w.heap.size w wr)
    (fun _ _ ii _ => (intOf ii + 1).toNat)
  case atStart => exact ⟨nb, [], [], none, 0, none, 0, Nat.le_refl _, by go_num, can_nil, can_nil, (by unfold Hid; rw [HS.out]; have := HY.out; simp [val]; omega), rfl, rfl, own_nil _ _, own_nil _ _, bw⟩
  case round =>
    obtain ⟨i, qs, rs, a, c, a', c', hib, rfl, cq, cr, hval, rfl, rfl, oq, or, hbl⟩ := hrel
    have hs := hbl.size
    by_cases hi0 : i = 0
    · subst hi0
      have HF : Hid (val xs = val qs * val ys + val rs ∧ val rs < val ys) := by
        have := hval.out; rw [sh_zero] at this; exact this
      go_wp2
      go_ret3
      exact ⟨qs, rs, a, c, a', c', rfl, oq, or, cq, cr, HF.out.1, HF.out.2, hbl⟩
    · obtain ⟨k, rfl⟩ : ∃ k, i = k + 1 := ⟨i - 1, by omega⟩
      have rw1 := h1.below (hbl.mono b1)
      have rw2 := h2.below (hbl.mono b2)
      obtain ⟨m, hm⟩ : ∃ m, Hid (m = sh (val xs) k % 2) := ⟨_, rfl⟩
      have hm01 : 0 ≤ m ∧ m ≤ 1 := by have := hm.out; omega
      have hrl : rs.length ≤ ys.length := len_of_lt cr (by have := hval.out; have := HY.out; omega)
      have hqn := val_bound cq.1
      have hrn := val_bound cr.1
      have hql : qs.length ≤ xs.length := len_of_lt cq (by
        have h3 := quot_le hval.out.1 HY.out.1 hqn.1 hrn.1
        have h4 := sh_le HA.out.1 (k + 1)
        have := HA.out; omega)
      have HN : Hid (0 ≤ val qs ∧ 0 ≤ val rs) := ⟨hqn.1, hrn.1⟩
      clear hqn hrn
      have eik : (((k + 1 : Nat) : Int) - 1) = (k : Int) := by omega
      rw [eik]
      go_wp2_with fail
      refine (refBit_any k m hm rw1 (by omega) (by omega)).mono ?_
      rintro e w' ⟨rfl, rfl⟩
      go_wp2_with fail
      refine (refTwice_any m hm01 or.rd (Nat.le_refl _) (by omega)).mono ?_
      rintro e w2 ⟨r2, c2, v2', a2, q2, rfl, o2, bl2⟩
      have s2 := bl2.size
      have bw2 : Below w.heap.size w w2 := hbl.trans (bl2.mono hs)
      have oq2 := oq.below bl2 (Nat.le_refl _)
      have hst := divBit_step (val xs) (val ys) (val qs) (val rs) m k hval.out.1 hm.out
      have HST : Hid (sh (val xs) k = (2 * val qs) * val ys + (2 * val rs + m) ∧ sh (val xs) k = (2 * val qs + 1) * val ys + (2 * val rs + m - val ys)) := hst
      have HV2 : Hid (val r2 = 2 * val rs + m) := v2'
      have hr2l : r2.length ≤ ys.length + 1 := len_of_lt c2 (by
        rw [v2', pw_succ]
        have := hval.out; have := HY.out; omega)
      clear hst v2'
      have rd2 := h2.below (bw2.mono b2)
      by_cases hge : val ys ≤ val r2
      · obtain ⟨cm, hcm, hcm0⟩ : ∃ cm, cmpI (val r2) (val ys) = cm ∧ 0 ≤ cm := by
          by_cases he : val r2 = val ys
          · exact ⟨0, cmpI_eq he, by omega⟩
          · exact ⟨1, cmpI_gt (by omega), by omega⟩
        have HGE : Hid (val ys ≤ val r2) := hge
        clear hge
        go_wp2_with fail
        refine (refCompare_rd o2.rd rd2 (by omega) (by omega) (by omega)).mono ?_
        rintro e w3 ⟨rfl, bl3⟩
        rw [hcm]
        clear hcm
        have s3 := bl3.size
        have bw3 : Below w.heap.size w w3 := bw2.trans (bl3.mono (by omega))
        have rd3 := h2.below (bw3.mono b2)
        have o23 := o2.below bl3 (Nat.le_refl _)
        have oq3 := oq2.below bl3 (Nat.le_refl _)
        go_wp2_with fail
        refine (refMinus_any o23.rd (Nat.le_refl _) rd3 (by omega) (by omega) (by omega)).mono ?_
        rintro e w4 ⟨bl4, hmin⟩
        rw [if_neg (by have := HGE.out; omega)] at hmin
        obtain ⟨r4, a4, c4, can4, v4, rfl, o4⟩ := hmin
        have s4 := bl4.size
        have bw4 : Below w.heap.size w w4 := bw3.trans (bl4.mono (by omega))
        have oq4 := oq3.below bl4 (Nat.le_refl _)
        have HV4 : Hid (val r4 = val r2 - val ys) := v4
        clear v4
        go_wp2_with fail
        refine (refTwice_any 1 (by omega) oq4.rd (Nat.le_refl _) (by omega)).mono ?_
        rintro e w5 ⟨q5, can5, v5, a5, c5, rfl, o5, bl5⟩
        have s5 := bl5.size
        have HV5 : Hid (val q5 = 2 * val qs + 1) := v5
        clear v5
        go_wp2
        go_roundw
        case rel => exact ⟨k, q5, r4, a5, c5, a4, c4, by omega, by go_num, can5, can4, (by
          unfold Hid; rw [HV5.out, HV4.out, HV2.out]; refine ⟨HST.out.2, ?_⟩; have := hval.out; omega), rfl, rfl, o5.mono (by omega), (o4.below bl5 (Nat.le_refl _)).mono (by omega), bw4.trans (bl5.mono (by omega))⟩
        case measure => simp [intOf]
      · have hcm := cmpI_lt (show val r2 < val ys by omega)
        have HGE : Hid (val r2 < val ys) := by unfold Hid; omega
        clear hge
        go_wp2_with fail
        refine (refCompare_rd o2.rd rd2 (by omega) (by omega) (by omega)).mono ?_
        rintro e w3 ⟨rfl, bl3⟩
        rw [hcm]
        clear hcm
        have s3 := bl3.size
        have bw3 : Below w.heap.size w w3 := bw2.trans (bl3.mono (by omega))
        have o23 := o2.below bl3 (Nat.le_refl _)
        have oq3 := oq2.below bl3 (Nat.le_refl _)
        go_wp2_with fail
        refine (refTwice_any 0 (by omega) oq3.rd (Nat.le_refl _) (by omega)).mono ?_
        rintro e w5 ⟨q5, can5, v5, a5, c5, rfl, o5, bl5⟩
        have s5 := bl5.size
        have HV5 : Hid (val q5 = 2 * val qs) := by unfold Hid; omega
        clear v5
        go_wp2
        go_roundw
        case rel => exact ⟨k, q5, r2, a5, c5, a2, q2, by omega, by go_num, can5, c2, (by
          unfold Hid; rw [HV5.out]; refine ⟨?_, HGE.out⟩; rw [HV2.out]; exact HST.out.1), rfl, rfl, o5.mono (by omega), (o23.below bl5 (Nat.le_refl _)).mono (by omega), bw3.trans (bl5.mono (by omega))⟩
        case measure => simp [intOf]
end Go.Proofs.YtidbebfendjnlaaGreatDoor

/- The document's half. -/
namespace Go.Proofs.YtidbebfendjnlaaGreatDoor
set_option linter.unusedVariables false
set_option linter.unusedSimpArgs false
open Go.RowKit

/-- append onto a slice of the call's own, as one step of a region that draws. -/
theorem step_append_own {P : Program} {ops : Array Oper} {o : Oper} {a : Act} {w : World} {K : Act → World → Prop} {Q : Exit → Act → World → Prop} {E : Prop} (hg : o.guard = none) (s x : Operand) (t : TypeId)
    (ho : o.op = .call { callee := .builtin .append, args := #[s, x], argTypes := #[t, t] })
    (base : Nat) (e : TypeId) (i : TypeInfo) (z : Value) (size bytes : Nat) (ht : P.underlying t = some (.slice e)) (hi : P.info? e = some i) (hz : i.zero = some z)
    (hsize : i.size = size) (hby : i.bytes = bytes) (hzs : z.cells.size = size) (hsz : 0 < size)
    (v : Value) (n : Nat) (xs : List Value) (hs : a.eval s = v) (hown : w.ownsRow base e size v n xs)
    (ad : Addr) (m c : Nat) (news : List Value) (hx : a.eval x = .slice (some ad) m c) (hl : news.length = m * size) (hnews : ∀ j u, news[j]? = some u → w.cell? (ad.add j) = some u) (h1 : ∀ u ∈ news, u.oneCell' = true)
    (h63 : n + m ≤ maxLen) (hbytes : (n + m) * bytes ≤ 140737488355328) (hbase : base ≤ w.heap.size)
    (hK : ∀ v' w', w'.ownsRow base e size v' (n + m) (xs ++ news) → w.grownBy w' v.ownBlock → K (a.put o.dst v') w') :
    if Region.wanted o (yielded ops a.tmps) = true then Oper.wp P o a w K Q else E := by
  rw [if_pos (by simp [Region.wanted, hg])]
  exact wp_append_own w s x t ho base e i z size bytes ht hi hz hsize hby hzs hsz v n xs hs hown ad m c news hx hl hnews h1 h63 hbytes hbase fun v' w' h2 h3 _ => hK v' w' h2 h3

set_option maxRecDepth 100000 in
set_option maxHeartbeats 16000000 in
/-- The document's half: a number by 2. -/
theorem refHalf_any {B : Nat} {w : World} {v : Value} {xs : List Int} (h : Rd B w v xs) (hB : B ≤ w.heap.size) (hn : xs.length ≤ 1000000000) :
    Calls Tryz.prog 140 #[v] w fun e w' => ∃ zs, can zs ∧ val zs = val xs / 2 ∧ Makes w e w' zs := by
  obtain ⟨i0, hi, hz0, hz1, hz2⟩ := info_parts info_u32
  have lx := h.lim
  have hh := h
  obtain ⟨_, a1, c1, rfl, hcap0, hcap, _, kp⟩ := h
  go_enter Tryz.func140, Tryz.ntmps140
  go_wp2
  go_loopw [3, 4] (fun s ii wr => ∃ (i : Nat) (us : List Int) (a : Option Addr) (c : Nat), i ≤ xs.length ∧ ii = .int .i64 i ∧ Hid (us.length = i) ∧ s = .slice a us.length c ∧ Own w.heap.size wr (.slice a us.length c) us ∧ Below w.heap.size w wr ∧ Hid (2 * val us + xs.getD 0 0 % 2 = val (xs.take i) + xs.getD i 0 % 2 * pw i))
    (fun _ ii _ => xs.length - (intOf ii).toNat)
  case atStart => exact ⟨0, [], none, 0, by omega, rfl, rfl, rfl, own_nil _ _, Below.refl _ _, by unfold Hid; simp [val, pw_zero]⟩
  case round =>
    obtain ⟨i, us, a, c, hiM, rfl, hul, rfl, hown, hbl, hval⟩ := hrel
    have hs := hbl.size
    have huL : us.length = i := hul.out
    have HUL : us.length ≤ 2000000000 := by omega
    clear huL
    by_cases hgo : i < xs.length
    · rcases kp with kp | ⟨b, o, rfl, hbB, kp⟩
      · omega
      have rx := lim_getD lx i
      have ry := lim_getD lx (i + 1)
      have hc : wr.cell? ⟨b, o + i, none⟩ = some (.int .u32 (xs.getD i 0)) := (hbl.cell (by show b < w.heap.size; omega)).trans (kp i hgo)
      have rr := hh.below (hbl.mono hB)
      have rrd : Rd B wr.drew (.slice (some ⟨b, o, none⟩) xs.length c1) xs := rr
      have k1 := limb_rd rrd (i + 1)
      clear rr rrd
      rw [show (((i + 1 : Nat)) : Int) = (i : Int) + 1 by omega] at k1
      have hstep := half_step us xs i (xs.getD i 0 / 2 + xs.getD (i + 1) 0 % 2 * 2147483648) _ hul.out hgo hval.out (by omega)
      have hor := or_high (xs.getD i 0) (xs.getD (i + 1) 0 % 2) rx (by omega)
      have hand := and_one_u64 (xs.getD (i + 1) 0) ry.1 ry.2
      have HST : Hid (2 * val (us ++ [xs.getD i 0 / 2 + xs.getD (i + 1) 0 % 2 * 2147483648]) + xs.getD 0 0 % 2 = val (xs.take (i + 1)) + xs.getD (i + 1) 0 % 2 * pw (i + 1)) := hstep
      clear hstep kp
      generalize hX : xs.getD i 0 = X at *
      generalize hY : xs.getD (i + 1) 0 = Y at *
      have hwr : IntKind.i64.wrap ((i : Int) + 1) = (i : Int) + 1 := by rw [IntKind.wrap_i64]; omega
      have hw1 : IntKind.u32.wrap (Y % 2) = Y % 2 := by rw [IntKind.wrap_u32]; omega
      have hw2 : IntKind.u32.wrap (Y % 2 * 2147483648) = Y % 2 * 2147483648 := by rw [IntKind.wrap_u32]; omega
      have hbd : Below w.heap.size w wr.drew := ⟨hbl.os, hbl.tape, hbl.output, hbl.size, hbl.block⟩
      have hcw : w.cell? ⟨b, o + i, none⟩ = some (.int .u32 X) := by rw [← hc]; exact (hbl.cell (p := ⟨b, o + i, none⟩) (by show b < w.heap.size; omega)).symm
      have hcd : wr.drew.cell? ⟨b, o + i, none⟩ = some (.int .u32 X) := hc
      go_wp2
      go_region_held3 (fun w' => w'.cell? ⟨b, o + i, none⟩ = some (.int .u32 X))
        (first | go_keep | exact hc2)
        (first
          | (go_at_call 118; refine k1.mono ?_; rintro e w' ⟨rfl, rfl⟩)
          | (refine step_append_own rfl _ _ 22 rfl w.heap.size 62 i0 (.int .u32 0) 1 4 Tryz.underlying22 hi hz0 hz1 hz2 rfl (by decide) _ us.length (us.map (Value.int .u32)) rfl (hown.drew.2.alloc _) ⟨wr.heap.size, 0, none⟩ 1 1 [_] rfl rfl (cell1_new wr.drew _ _) (by intro u hu; simp at hu; subst hu; rfl) (by unfold maxLen; omega) (by omega) (by simp; omega) ?_; intro v' w2 hown' hgrow; have hb2 : Below w.heap.size w w2 := (hbd.alloc hs _).grown hgrow (by simp; omega) (fun k hk => (hown.2.lt k hk).1); have hc2 : w2.cell? ⟨b, o + i, none⟩ = some (.int .u32 X) := by rw [← hcw]; exact hb2.cell (by show b < w.heap.size; omega)))
      have hO := own_push hown.lim (by omega) hown'
      obtain ⟨a3, c3, hv3⟩ := hO.form
      rw [hv3] at hO ⊢
      clear hown' hgrow hv3 hown hor hand
      go_wp2
      go_roundw
      case rel => exact ⟨i + 1, us ++ [X / 2 + Y % 2 * 2147483648], a3, c3, by omega, by go_num, (by unfold Hid; rw [List.length_append, hul.out]; rfl), rfl, hO, hb2, (by rw [hY]; exact HST)⟩
      case measure => simp [intOf]; omega
    · obtain rfl : i = xs.length := by omega
      have hfin := half_end us xs hval.out
      have HF : Hid (val us = val xs / 2) := hfin
      have hlen : us.length * 4 ≤ 140737488355328 := by omega
      clear hfin kp
      go_wp2_with fail
      refine (refTrim_rd hown.rd hlen).mono ?_
      rintro e w3 ⟨a3, c3, rfl, ho3, hb3⟩
      go_wp2
      go_ret
      exact ⟨tr us, tr_can hown.lim, by rw [val_tr]; exact HF.out, Makes.of rfl (ho3.mono hs) (hbl.trans (hb3.mono hs))⟩
end Go.Proofs.YtidbebfendjnlaaGreatDoor

/- The document's greatest common divisor. -/
namespace Go.Proofs.YtidbebfendjnlaaGreatDoor
set_option linter.unusedVariables false
set_option linter.unusedSimpArgs false
open Go.RowKit

theorem pos_len {zs : List Int} (h : can zs) (hl : ¬ zs.length = 0) : 0 < val zs := by
  have h1 := can_low h (by omega)
  have h2 := pw_pos (zs.length - 1)
  omega

theorem len_val {zs : List Int} (h : can zs) (hv : ¬ val zs = 0) : ¬ zs.length = 0 := fun e => hv ((can_zero h).1 e)

/-- The lowest limb of a number that is not 0. -/
theorem low_cell {base : Nat} {w : World} {a : Option Addr} {c : Nat} {zs : List Int} (h : Own base w (.slice a zs.length c) zs) (hl : ¬ zs.length = 0) : ∃ g o, a = some ⟨g, o, none⟩ ∧ w.cell? ⟨g, o, none⟩ = some (.int .u32 (zs.getD 0 0)) := by
  obtain ⟨_, _, _, e1, _, _, _, r1⟩ := h.rd
  rcases r1 with r1 | ⟨g1, f1, ea1, _, k1⟩
  · exact absurd r1 hl
  cases e1
  exact ⟨g1, f1, ea1, k1 0 (by omega)⟩

theorem twos_bound {A x : Int} {t L : Nat} (h : A = p2 t * x) (hx : 0 < x) (hA : A < pw L) : t < 32 * L := by
  by_cases hle : t < 32 * L
  · exact hle
  · have h1 := p2_mono (show 32 * L ≤ t by omega)
    rw [← pw_p2] at h1
    have h2 : p2 t * 1 ≤ p2 t * x := Int.mul_le_mul_of_nonneg_left (by omega) (Int.le_of_lt (p2_pos t))
    omega

/-- How a pair stands in the second loop: not both are even and not 0. -/
def Odd1 (x y : Int) : Prop := x = 0 ∨ y = 0 ∨ ¬ x % 2 = 0 ∨ ¬ y % 2 = 0

set_option maxRecDepth 100000 in
set_option maxHeartbeats 6400000 in
theorem refgcd_any {B1 B2 : Nat} {w : World} {v1 v2 : Value} {xs ys : List Int} (h1 : Rd B1 w v1 xs) (b1 : B1 ≤ w.heap.size) (h2 : Rd B2 w v2 ys) (b2 : B2 ≤ w.heap.size) (L : Nat) (n1 : xs.length ≤ L) (n2 : ys.length ≤ L) (hL : L ≤ 1000000) :
    Calls Tryz.prog 110 #[v1, v2] w fun e w' => ∃ zs, can zs ∧ val zs = gI (val xs) (val ys) ∧ zs.length ≤ L + 1 ∧ Makes w e w' zs := by
  have hA := val_bound h1.lim
  have hY := val_bound h2.lim
  have ca := tr_can h1.lim
  have cb := tr_can h2.lim
  have va := val_tr xs
  have vb := val_tr ys
  have HA : Hid (0 ≤ val xs ∧ val xs < pw L) := ⟨hA.1, by have := pw_mono n1; omega⟩
  have HY : Hid (0 ≤ val ys ∧ val ys < pw L) := ⟨hY.1, by have := pw_mono n2; omega⟩
  have HVA : Hid (val (tr xs) = val xs ∧ val (tr ys) = val ys) := ⟨va, vb⟩
  have la := tr_length_le xs
  have lb := tr_length_le ys
  clear hA hY va vb
  go_enter Tryz.func110, Tryz.ntmps110
  go_wp2_with fail
  refine (refTrim_rd h1 (by omega)).mono ?_
  rintro e wa ⟨a1, q1, rfl, o1, ba⟩
  have sa := ba.size
  go_wp2_with fail
  refine (refTrim_rd (h2.below (ba.mono b2)) (by omega)).mono ?_
  rintro e wb ⟨a2, q2, rfl, o2, bb⟩
  have sb := bb.size
  have bw : Below w.heap.size w wb := ba.trans (bb.mono sa)
  have o1' := o1.below bb (Nat.le_refl _)
  have o2' : Own w.heap.size wb (.slice a2 (tr ys).length q2) (tr ys) := o2.mono sa
  clear o1 o2 ba bb sa sb
  go_wp2
  go_loopg [0, 1, 5] (val xs).toNat (fun g A Bv tt wr => ∃ (t : Nat) (us vs : List Int) (a : Option Addr) (c : Nat) (a' : Option Addr) (c' : Nat), Hid (g = (val us).toNat) ∧ tt = .int .i64 t ∧ t ≤ 32 * L ∧ can us ∧ can vs ∧ Hid (val xs = p2 t * val us ∧ val ys = p2 t * val vs) ∧ us.length ≤ L ∧ vs.length ≤ L ∧ A = .slice a us.length c ∧ Bv = .slice a' vs.length c' ∧ Own w.heap.size wr (.slice a us.length c) us ∧ Own w.heap.size wr (.slice a' vs.length c') vs ∧ Below w.heap.size w wr)
  case atStart => exact ⟨0, tr xs, tr ys, a1, q1, a2, q2, (by unfold Hid; rw [HVA.out.1]), rfl, by omega, ca, cb, (by unfold Hid; rw [HVA.out.1, HVA.out.2]; simp [p2]), by omega, by omega, rfl, rfl, o1', o2', bw⟩
  case round =>
    obtain ⟨t, us, vs, a, c, a', c', hg, rfl, htL, cu, cv, hval, lu, lv, rfl, rfl, ou, ov, hbl⟩ := hrel
    have hs := hbl.size
    have hun := (val_bound cu.1).1
    have hvn := (val_bound cv.1).1
    have hcases : (¬ 0 < us.length) ∨ (0 < us.length ∧ ¬ 0 < vs.length) ∨ (0 < us.length ∧ 0 < vs.length ∧ ¬ us.getD 0 0 % 2 = 0) ∨ (0 < us.length ∧ 0 < vs.length ∧ us.getD 0 0 % 2 = 0 ∧ ¬ vs.getD 0 0 % 2 = 0) ∨ (0 < us.length ∧ 0 < vs.length ∧ us.getD 0 0 % 2 = 0 ∧ vs.getD 0 0 % 2 = 0) := by omega
    have mu := val_mod2 us
    have mv := val_mod2 vs
    have ru := lim_getD cu.1 0
    have rv := lim_getD cv.1 0
    have hexit : ∀ {p : Prop}, (us.length = 0 ∨ vs.length = 0 ∨ ¬ us.getD 0 0 % 2 = 0 ∨ ¬ vs.getD 0 0 % 2 = 0) → Odd1 (val us) (val vs) := by
      intro _ h
      rcases h with h | h | h | h
      · exact Or.inl ((can_zero cu).1 h)
      · exact Or.inr (Or.inl ((can_zero cv).1 h))
      · exact Or.inr (Or.inr (Or.inl (by omega)))
      · exact Or.inr (Or.inr (Or.inr (by omega)))
    rcases hcases with q0 | ⟨q0, q1⟩ | ⟨q0, q1, q2⟩ | ⟨q0, q1, q2, q3⟩ | ⟨q0, q1, q2, q3⟩
    rotate_right
    · -- both even
      obtain ⟨g1, f1, rfl, k1⟩ := low_cell ou (by omega)
      obtain ⟨g2, f2, rfl, k2⟩ := low_cell ov (by omega)
      have e1 : bits .and .u32 (us.getD 0 0) 1 = 0 := by rw [ref_and_one_u32 _ ru.1 ru.2]; exact q2
      have e2 : bits .and .u32 (vs.getD 0 0) 1 = 0 := by rw [ref_and_one_u32 _ rv.1 rv.2]; exact q3
      have hup := pos_len cu (by omega)
      have hmu : val us % 2 = 0 := by omega
      have hmv : val vs % 2 = 0 := by omega
      have htb := twos_bound hval.out.1 hup HA.out.2
      have HM : Hid (val us % 2 = 0 ∧ val vs % 2 = 0 ∧ 0 < val us ∧ 0 ≤ val vs) := ⟨hmu, hmv, hup, hvn⟩
      clear hup hmu hmv mu mv hexit hun hvn
      generalize us.getD 0 0 = U at *
      generalize vs.getD 0 0 = V at *
      go_wp2_with fail
      refine (refHalf_any ou.rd (Nat.le_refl _) (by omega)).mono ?_
      rintro e w1 ⟨z1, cz1, vz1, a3, c3, rfl, o3, b3⟩
      have s3 := b3.size
      have ov3 := ov.below b3 (Nat.le_refl _)
      have HZ1 : Hid (val z1 = val us / 2) := vz1
      clear vz1
      go_wp2_with fail
      refine (refHalf_any ov3.rd (Nat.le_refl _) (by omega)).mono ?_
      rintro e w2 ⟨z2, cz2, vz2, a4, c4, rfl, o4, b4⟩
      have s4 := b4.size
      have HZ2 : Hid (val z2 = val vs / 2) := vz2
      clear vz2
      have o34 := o3.below b4 (Nat.le_refl _)
      have l1 : z1.length ≤ us.length := len_of_lt cz1 (by
        have := (val_bound cu.1).2; have := HZ1.out; have := HM.out; omega)
      have l2 : z2.length ≤ vs.length := len_of_lt cz2 (by
        have := (val_bound cv.1).2; have := HZ2.out; have := HM.out; omega)
      go_wp2
      go_roundg (val z1).toNat
      case measure => have := hg.out; have := HZ1.out; have := HM.out; omega
      case rel => exact ⟨t + 1, z1, z2, a3, c3, a4, c4, rfl, by go_num, by omega, cz1, cz2, (by
        unfold Hid
        have h3 := hval.out
        have h4 := HM.out
        rw [p2_succ, HZ1.out, HZ2.out]
        have e3 : 2 * p2 t * (val us / 2) = p2 t * val us := by
          rw [Int.mul_comm 2, Int.mul_assoc]; congr 1; omega
        have e4 : 2 * p2 t * (val vs / 2) = p2 t * val vs := by
          rw [Int.mul_comm 2, Int.mul_assoc]; congr 1; omega
        rw [e3, e4]; exact h3), by omega, by omega, rfl, rfl, o34.mono hs, o4.mono (by omega), hbl.trans ((b3.mono hs).trans (b4.mono (by omega)))⟩
    case' inl => have ho := hexit (p := True) (Or.inl (by omega))
    case' inr.inl => have ho := hexit (p := True) (Or.inr (Or.inl (by omega)))
    case' inr.inr.inl =>
      have ho := hexit (p := True) (Or.inr (Or.inr (Or.inl q2)))
      obtain ⟨g1, f1, rfl, k1⟩ := low_cell ou (by omega)
      have e1 : bits .and .u32 (us.getD 0 0) 1 = 1 := by rw [ref_and_one_u32 _ ru.1 ru.2]; omega
    case' inr.inr.inr.inl =>
      have ho := hexit (p := True) (Or.inr (Or.inr (Or.inr q3)))
      obtain ⟨g1, f1, rfl, k1⟩ := low_cell ou (by omega)
      obtain ⟨g2, f2, rfl, k2⟩ := low_cell ov (by omega)
      have e1 : bits .and .u32 (us.getD 0 0) 1 = 0 := by rw [ref_and_one_u32 _ ru.1 ru.2]; exact q2
      have e2 : bits .and .u32 (vs.getD 0 0) 1 = 1 := by rw [ref_and_one_u32 _ rv.1 rv.2]; omega
    all_goals
      have HO : Hid (Odd1 (val us) (val vs)) := ho
      clear hexit ho mu mv
      generalize us.getD 0 0 = U at *
      generalize vs.getD 0 0 = V at *
      obtain ⟨G, hG⟩ : ∃ G, Hid (G = gI (val us) (val vs)) := ⟨_, rfl⟩
      have HVAL : Hid (p2 t * G = gI (val xs) (val ys)) := by
        unfold Hid; rw [hG.out, hval.out.1, hval.out.2, gI_p2 t _ _ hun hvn]
      clear hun hvn
      go_wp2
      go_loopg [0, 1] (val us + val vs).toNat (fun g A Bv wr2 => ∃ (us2 vs2 : List Int) (a2 : Option Addr) (c2 : Nat) (a2' : Option Addr) (c2' : Nat), Hid (g = (val us2 + val vs2).toNat) ∧ can us2 ∧ can vs2 ∧ Hid (G = gI (val us2) (val vs2) ∧ Odd1 (val us2) (val vs2)) ∧ us2.length ≤ L ∧ vs2.length ≤ L ∧ A = .slice a2 us2.length c2 ∧ Bv = .slice a2' vs2.length c2' ∧ Own w.heap.size wr2 (.slice a2 us2.length c2) us2 ∧ Own w.heap.size wr2 (.slice a2' vs2.length c2') vs2 ∧ Below w.heap.size w wr2)
      case atStart => exact ⟨us, vs, _, c, _, c', rfl, cu, cv, ⟨hG.out, HO.out⟩, lu, lv, rfl, rfl, ou, ov, hbl⟩
      case round =>
        clear q0 ou ov hbl hs ru rv cu cv lu lv hval hg hG HO
        obtain ⟨us2, vs2, a2, c2, a2', c2', hg2, cu2, cv2, hval2, lu2, lv2, rfl, rfl, ou2, ov2, hbl2⟩ := hrel
        have hs2 := hbl2.size
        have hun := (val_bound cu2.1).1
        have hvn := (val_bound cv2.1).1
        have HN : Hid (0 ≤ val us2 ∧ 0 ≤ val vs2) := ⟨hun, hvn⟩
        clear hun hvn
        by_cases hend : us2.length = 0 ∨ vs2.length = 0
        · have HG : Hid (val us2 + val vs2 = G) := by
            unfold Hid
            have h3 := HN.out
            rw [hval2.out.1]
            rcases hend with h | h
            · rw [(can_zero cu2).1 h, gI_zero_left _ h3.2]; omega
            · rw [(can_zero cv2).1 h, gI_zero _ h3.1]; omega
          have hend2 : (¬ 0 < us2.length) ∨ (0 < us2.length ∧ ¬ 0 < vs2.length) := by omega
          clear hend
          rcases hend2 with h5 | ⟨h5, h6⟩
          all_goals
            go_wp2_with fail
            refine (refAdd_any ou2.rd (Nat.le_refl _) ov2.rd (Nat.le_refl _) (by omega) (by omega)).mono ?_
            rintro e w3 ⟨zs, cz, vz, lz, a3, c3, rfl, o3, b3⟩
            have s3 := b3.size
            rw [HG.out] at vz
            have HZ : Hid (val zs * p2 t = gI (val xs) (val ys)) := by unfold Hid; rw [vz, Int.mul_comm]; exact HVAL.out
            clear vz h5
            have bw3 : Below w.heap.size w w3 := hbl2.trans (b3.mono hs2)
            go_wp2
            go_loopw [5, 6] (fun tt gg wr3 => ∃ (t' : Nat) (us3 : List Int) (a4 : Option Addr) (c4 : Nat), t' ≤ t ∧ tt = .int .i64 t' ∧ can us3 ∧ Hid (val us3 * p2 t' = gI (val xs) (val ys)) ∧ us3.length ≤ L + 1 ∧ gg = .slice a4 us3.length c4 ∧ Own w.heap.size wr3 (.slice a4 us3.length c4) us3 ∧ Below w.heap.size w wr3)
              (fun tt _ _ => (intOf tt).toNat)
            case atStart => exact ⟨t, zs, a3, c3, Nat.le_refl _, rfl, cz, HZ, by omega, rfl, o3.mono hs2, bw3⟩
            case round =>
              obtain ⟨t', us3, a4, c4, htt, rfl, cu3, hval3, lu3, rfl, ou3, hbl3⟩ := hrel
              have hs3 := hbl3.size
              by_cases ht0 : t' = 0
              · subst ht0
                have HE : Hid (val us3 = gI (val xs) (val ys)) := by have := hval3.out; unfold Hid; simpa [p2] using this
                go_wp2
                go_ret
                exact ⟨us3, cu3, HE.out, lu3, a4, c4, rfl, ou3, hbl3⟩
              · go_wp2_with fail
                refine (refTwice_any 0 (by omega) ou3.rd (Nat.le_refl _) (by omega)).mono ?_
                rintro e w5 ⟨z5, can5, v5, a5, c5, rfl, o5, bl5⟩
                have HV5 : Hid (val z5 * p2 (t' - 1) = gI (val xs) (val ys)) := by
                  unfold Hid
                  rw [v5, ← hval3.out]
                  obtain ⟨k, rfl⟩ : ∃ k, t' = k + 1 := ⟨t' - 1, by omega⟩
                  rw [p2_succ, Int.add_zero, Nat.add_sub_cancel, Int.mul_assoc, Int.mul_left_comm]
                have hl5 : z5.length ≤ L + 1 := len_of_lt can5 (by
                  have h6 := gI_le (val xs) (val ys) HA.out.1 HY.out.1
                  have h7 := HA.out
                  have h8 := HY.out
                  have h9 : val z5 * 1 ≤ val z5 * p2 (t' - 1) := Int.mul_le_mul_of_nonneg_left (by have := p2_pos (t' - 1); omega) (val_bound can5.1).1
                  have := HV5.out
                  rw [pw_succ]
                  omega)
                clear v5
                go_wp2
                go_roundw
                case rel => exact ⟨t' - 1, z5, a5, c5, by omega, by go_num, can5, HV5, hl5, rfl, o5.mono hs3, hbl3.trans (bl5.mono hs3)⟩
                case measure => simp [intOf]; omega
        · have hu1 : 0 < us2.length := by omega
          have hv1 : 0 < vs2.length := by omega
          clear hend
          have hup := pos_len cu2 (by omega)
          have hvp := pos_len cv2 (by omega)
          have mu := val_mod2 us2
          have mv := val_mod2 vs2
          have ru := lim_getD cu2.1 0
          have rv := lim_getD cv2.1 0
          have bu := (val_bound cu2.1).2
          have bv := (val_bound cv2.1).2
          have HP : Hid (0 < val us2 ∧ 0 < val vs2 ∧ val us2 < pw us2.length ∧ val vs2 < pw vs2.length) := ⟨hup, hvp, bu, bv⟩
          obtain ⟨g1, f1, rfl, k1⟩ := low_cell ou2 (by omega)
          obtain ⟨g2, f2, rfl, k2⟩ := low_cell ov2 (by omega)
          have hodd := hval2.out.2
          have hG2 := hval2.out.1
          clear hup hvp bu bv
          by_cases hue : us2.getD 0 0 % 2 = 0
          · have e1 : bits .and .u32 (us2.getD 0 0) 1 = 0 := by rw [ref_and_one_u32 _ ru.1 ru.2]; exact hue
            have hvo : ¬ val vs2 % 2 = 0 := by
              rcases hodd with h | h | h | h
              · have := HP.out; omega
              · have := HP.out; omega
              · exact absurd (mu.trans hue) h
              · exact h
            have HG3 : Hid (G = gI (val us2 / 2) (val vs2) ∧ Odd1 (val us2 / 2) (val vs2)) := ⟨by rw [hG2]; exact gI_even _ _ HN.out.1 HN.out.2 (mu.trans hue) hvo, Or.inr (Or.inr (Or.inr hvo))⟩
            clear hodd hG2 hvo mu mv hval2
            generalize us2.getD 0 0 = U at *
            generalize vs2.getD 0 0 = V at *
            go_wp2_with fail
            refine (refHalf_any ou2.rd (Nat.le_refl _) (by omega)).mono ?_
            rintro e w3 ⟨z1, cz1, vz1, a3, c3, rfl, o3, b3⟩
            have s3 := b3.size
            have ov3 := ov2.below b3 (Nat.le_refl _)
            rw [← vz1] at HG3
            have HZ1 : Hid (val z1 = val us2 / 2) := vz1
            clear vz1
            have l1 : z1.length ≤ us2.length := len_of_lt cz1 (by have := HZ1.out; have := HP.out; omega)
            go_wp2
            go_roundg (val z1 + val vs2).toNat
            case measure => have := hg2.out; have := HZ1.out; have := HP.out; omega
            case rel => exact ⟨z1, vs2, a3, c3, _, c2', rfl, cz1, cv2, HG3, by omega, lv2, rfl, rfl, o3.mono hs2, ov3, hbl2.trans (b3.mono hs2)⟩
          · have e1 : bits .and .u32 (us2.getD 0 0) 1 = 1 := by rw [ref_and_one_u32 _ ru.1 ru.2]; omega
            have huo : ¬ val us2 % 2 = 0 := fun h => hue (mu.symm.trans h)
            by_cases hve : vs2.getD 0 0 % 2 = 0
            · have e2 : bits .and .u32 (vs2.getD 0 0) 1 = 0 := by rw [ref_and_one_u32 _ rv.1 rv.2]; exact hve
              have HG3 : Hid (G = gI (val us2) (val vs2 / 2) ∧ Odd1 (val us2) (val vs2 / 2)) := ⟨by rw [hG2]; exact gI_even' _ _ HN.out.1 HN.out.2 (mv.trans hve) huo, Or.inr (Or.inr (Or.inl huo))⟩
              clear hodd hG2 huo mu mv hval2
              generalize us2.getD 0 0 = U at *
              generalize vs2.getD 0 0 = V at *
              go_wp2_with fail
              refine (refHalf_any ov2.rd (Nat.le_refl _) (by omega)).mono ?_
              rintro e w3 ⟨z1, cz1, vz1, a3, c3, rfl, o3, b3⟩
              have s3 := b3.size
              have ou3 := ou2.below b3 (Nat.le_refl _)
              rw [← vz1] at HG3
              have HZ1 : Hid (val z1 = val vs2 / 2) := vz1
              clear vz1
              have l1 : z1.length ≤ vs2.length := len_of_lt cz1 (by have := HZ1.out; have := HP.out; omega)
              go_wp2
              go_roundg (val us2 + val z1).toNat
              case measure => have := hg2.out; have := HZ1.out; have := HP.out; omega
              case rel => exact ⟨us2, z1, _, c2, a3, c3, rfl, cu2, cz1, HG3, lu2, by omega, rfl, rfl, ou3, o3.mono hs2, hbl2.trans (b3.mono hs2)⟩
            · have e2 : bits .and .u32 (vs2.getD 0 0) 1 = 1 := by rw [ref_and_one_u32 _ rv.1 rv.2]; omega
              have hvo : ¬ val vs2 % 2 = 0 := fun h => hve (mv.symm.trans h)
              have HUV : Hid (¬ val us2 % 2 = 0 ∧ ¬ val vs2 % 2 = 0) := ⟨huo, hvo⟩
              clear hodd huo hvo mu mv
              generalize us2.getD 0 0 = U at *
              generalize vs2.getD 0 0 = V at *
              by_cases hge : val vs2 ≤ val us2
              · obtain ⟨cm, hcm, hcm0⟩ : ∃ cm, cmpI (val us2) (val vs2) = cm ∧ 0 ≤ cm := by
                  by_cases he : val us2 = val vs2
                  · exact ⟨0, cmpI_eq he, by omega⟩
                  · exact ⟨1, cmpI_gt (by omega), by omega⟩
                have HG3 : Hid (G = gI (val us2 - val vs2) (val vs2) ∧ Odd1 (val us2 - val vs2) (val vs2)) := ⟨by rw [hG2]; exact gI_sub _ _ HN.out.2 hge, Or.inr (Or.inr (Or.inr HUV.out.2))⟩
                have HGE : Hid (val vs2 ≤ val us2) := hge
                clear hge hG2 hval2
                go_wp2_with fail
                refine (refCompare_rd ou2.rd ov2.rd (Nat.le_refl _) (by omega) (by omega)).mono ?_
                rintro e w3 ⟨rfl, b3⟩
                rw [hcm]
                clear hcm
                have s3 := b3.size
                have ou3 := ou2.below b3 (Nat.le_refl _)
                have ov3 := ov2.below b3 (Nat.le_refl _)
                go_wp2_with fail
                refine (refMinus_any ou3.rd (Nat.le_refl _) ov3.rd (Nat.le_refl _) (by omega) (by omega)).mono ?_
                rintro e w4 ⟨bl4, hmin⟩
                rw [if_neg (by have := HGE.out; omega)] at hmin
                obtain ⟨z1, a4, c4, cz1, vz1, rfl, o4⟩ := hmin
                have s4 := bl4.size
                have ov4 := ov3.below bl4 (Nat.le_refl _)
                rw [← vz1] at HG3
                have HZ1 : Hid (val z1 = val us2 - val vs2) := vz1
                clear vz1
                have l1 : z1.length ≤ us2.length := len_of_lt cz1 (by have := HZ1.out; have := HP.out; omega)
                go_wp2
                go_roundg (val z1 + val vs2).toNat
                case measure => have := hg2.out; have := HZ1.out; have := HP.out; omega
                case rel => exact ⟨z1, vs2, a4, c4, _, c2', rfl, cz1, cv2, HG3, by omega, lv2, rfl, rfl, o4.mono (by omega), ov4, hbl2.trans ((b3.mono hs2).trans (bl4.mono (by omega)))⟩
              · have hcm := cmpI_lt (show val us2 < val vs2 by omega)
                have HG3 : Hid (G = gI (val us2) (val vs2 - val us2) ∧ Odd1 (val us2) (val vs2 - val us2)) := ⟨by rw [hG2]; exact gI_sub' _ _ HN.out.1 (by omega), Or.inr (Or.inr (Or.inl HUV.out.1))⟩
                have HGE : Hid (val us2 < val vs2) := by unfold Hid; omega
                clear hge hG2 hval2
                go_wp2_with fail
                refine (refCompare_rd ou2.rd ov2.rd (Nat.le_refl _) (by omega) (by omega)).mono ?_
                rintro e w3 ⟨rfl, b3⟩
                rw [hcm]
                clear hcm
                have s3 := b3.size
                have ou3 := ou2.below b3 (Nat.le_refl _)
                have ov3 := ov2.below b3 (Nat.le_refl _)
                go_wp2_with fail
                refine (refMinus_any ov3.rd (Nat.le_refl _) ou3.rd (Nat.le_refl _) (by omega) (by omega)).mono ?_
                rintro e w4 ⟨bl4, hmin⟩
                rw [if_neg (by have := HGE.out; omega)] at hmin
                obtain ⟨z1, a4, c4, cz1, vz1, rfl, o4⟩ := hmin
                have s4 := bl4.size
                have ou4 := ou3.below bl4 (Nat.le_refl _)
                rw [← vz1] at HG3
                have HZ1 : Hid (val z1 = val vs2 - val us2) := vz1
                clear vz1
                have l1 : z1.length ≤ vs2.length := len_of_lt cz1 (by have := HZ1.out; have := HP.out; omega)
                go_wp2
                go_roundg (val us2 + val z1).toNat
                case measure => have := hg2.out; have := HZ1.out; have := HP.out; omega
                case rel => exact ⟨us2, z1, _, c2, a4, c4, rfl, cu2, cz1, HG3, lu2, by omega, rfl, rfl, ou4, o4.mono (by omega), hbl2.trans ((b3.mono hs2).trans (bl4.mono (by omega)))⟩
end Go.Proofs.YtidbebfendjnlaaGreatDoor

/- The document's Gcd; both divisions in one form. -/
namespace Go.Proofs.YtidbebfendjnlaaGreatDoor
set_option linter.unusedVariables false
set_option linter.unusedSimpArgs false
open Go.RowKit

set_option maxHeartbeats 1600000 in
theorem refGcd_any {Lb k M : Nat} {vs : List Value} {xss : List (List Int)} {w : World} (hm : Many w Lb k vs xss) (hk : k ≤ 1000) (hM : M ≤ 100000) (hs : ∀ j, j < k → (xss.getD j []).length ≤ M) :
    Calls Tryz.prog 61 #[.slice (some ⟨Lb, 0, none⟩) k k] w fun e w' => ∃ zs, can zs ∧ val zs = gcdV xss ∧ Makes w e w' zs := by
  go_enter Tryz.func61, Tryz.ntmps61
  go_wp2
  go_loopw [3, 4] (fun s ii wr => ∃ (i : Nat) (zs : List Int) (a : Option Addr) (c : Nat), i ≤ k ∧ ii = .int .i64 i ∧ can zs ∧ Hid (val zs = gcdV (xss.take i)) ∧ zs.length ≤ M + i ∧ s = .slice a zs.length c ∧ Own w.heap.size wr (.slice a zs.length c) zs ∧ Below w.heap.size w wr)
    (fun _ ii _ => k - (intOf ii).toNat)
  case atStart => exact ⟨0, [], none, 0, Nat.zero_le _, rfl, can_nil, rfl, by simp, rfl, own_nil _ _, Below.refl _ _⟩
  case round =>
    obtain ⟨i, zs, a, c, hik, rfl, hcan, hval, hlen, rfl, hown, hbl⟩ := hrel
    by_cases hlt : i < k
    · have hcell : wr.cell? ⟨Lb, i, none⟩ = some (vs.getD i (.bool false)) := (hbl.cell hm.lt).trans (hm.cell i hlt)
      have hrd : Rd w.heap.size wr (vs.getD i (.bool false)) (xss.getD i []) := (hm.rd i hlt).below hbl
      have hsz := hbl.size
      have hl := hs i hlt
      have HE : Hid (gcdV (xss.take (i + 1)) = gI (gcdV (xss.take i)) (val (xss.getD i []))) := gcdV_succ xss i (by rw [hm.lx]; exact hlt)
      generalize hV : vs.getD i (.bool false) = V at *
      generalize xss.getD i [] = ys at *
      clear hV
      go_wp2_with fail
      refine (refgcd_any hown.rd (Nat.le_refl _) hrd hsz (M + i) hlen (by omega) (by omega)).mono ?_
      rintro e w2 ⟨us, cu, vu, lu, a3, c3, rfl, ho3, hb3⟩
      have HU : Hid (val us = gcdV (xss.take (i + 1))) := by unfold Hid; rw [HE.out, vu, hval.out]
      clear vu
      go_wp2
      go_roundw
      case rel => exact ⟨i + 1, us, a3, c3, by omega, by go_num, cu, HU, by omega, rfl, ho3.mono hsz, hbl.trans (hb3.mono hsz)⟩
      case measure => simp [intOf]; omega
    · obtain rfl : i = k := by omega
      go_wp2
      go_ret
      exact ⟨zs, hcan, by rw [hval.out, ← hm.lx, List.take_length], a, c, rfl, hown, hbl⟩

def DivSpec (A B : Int) (qs rs : List Int) (b : Bool) : Prop := (B = 0 ∧ qs = [] ∧ rs = [] ∧ b = false) ∨ (0 < B ∧ b = true ∧ can qs ∧ can rs ∧ A = val qs * B + val rs ∧ val rs < B)

theorem DivSpec.unique {A B : Int} {q r q' r' : List Int} {b b' : Bool} (h : DivSpec A B q r b) (h' : DivSpec A B q' r' b') : q = q' ∧ r = r' ∧ b = b' := by
  rcases h with ⟨e, rfl, rfl, rfl⟩ | ⟨h0, rfl, cq, cr, hv, hl⟩
  · rcases h' with ⟨_, rfl, rfl, rfl⟩ | ⟨h0, _⟩
    · exact ⟨rfl, rfl, rfl⟩
    · omega
  · rcases h' with ⟨e, _⟩ | ⟨_, rfl, cq', cr', hv', hl'⟩
    · omega
    · obtain ⟨e1, e2⟩ := ref_div_unique A B _ _ _ _ hv (val_bound cr.1).1 hl hv' (val_bound cr'.1).1 hl'
      exact ⟨can_inj cq cq' e1, can_inj cr cr' e2, rfl⟩

def Divs (w : World) (A B : Int) (e : Ending) (w' : World) : Prop :=
  ∃ qs rs a c a2 c2 b, e = .returned (.tuple #[.slice a qs.length c, .slice a2 rs.length c2, .bool b]) ∧ Own w.heap.size w' (.slice a qs.length c) qs ∧ Own w.heap.size w' (.slice a2 rs.length c2) rs ∧ Hid (DivSpec A B qs rs b) ∧ Below w.heap.size w w'

theorem divMod_form {B1 B2 : Nat} {w : World} {v1 v2 : Value} {xs ys : List Int} (h1 : Rd B1 w v1 xs) (hB1 : B1 ≤ w.heap.size) (h2 : Rd B2 w v2 ys) (hB2 : B2 ≤ w.heap.size) (hn : xs.length ≤ 1000000) (hm : ys.length ≤ 1000000) :
    Calls Tryz.prog 58 #[v1, v2] w fun e w' => Divs w (val xs) (val ys) e w' := by
  by_cases h0 : val ys = 0
  · refine (divMod_zero h2 h0).mono ?_
    rintro e w' ⟨rfl, rfl⟩
    exact ⟨[], [], none, 0, none, 0, false, rfl, own_nil _ _, own_nil _ _, Or.inl ⟨h0, rfl, rfl, rfl⟩, Below.refl _ _⟩
  · refine (divMod_any h1 hB1 h2 hB2 h0 (by omega) (by omega)).mono ?_
    rintro e w' ⟨qs, rs, a, c, a2, c2, rfl, oq, or, cq, cr, hv, hl, _, _, hb⟩
    exact ⟨qs, rs, a, c, a2, c2, true, rfl, oq, or, Or.inr ⟨by have := (val_bound h2.lim).1; omega, rfl, cq, cr, hv, hl⟩, hb⟩

theorem refDivMod_form {B1 B2 : Nat} {w : World} {v1 v2 : Value} {xs ys : List Int} (h1 : Rd B1 w v1 xs) (hB1 : B1 ≤ w.heap.size) (h2 : Rd B2 w v2 ys) (hB2 : B2 ≤ w.heap.size) (hn : xs.length ≤ 1000000) (hm : ys.length ≤ 1000000) :
    Calls Tryz.prog 62 #[v1, v2] w fun e w' => Divs w (val xs) (val ys) e w' := by
  by_cases h0 : val ys = 0
  · refine (refDivMod_zero h2 hm h0).mono ?_
    rintro e w' ⟨rfl, hb⟩
    exact ⟨[], [], none, 0, none, 0, false, rfl, own_nil _ _, own_nil _ _, Or.inl ⟨h0, rfl, rfl, rfl⟩, hb⟩
  · refine (refDivMod_any h1 hB1 h2 hB2 hn hm h0).mono ?_
    rintro e w' ⟨qs, rs, a, c, a2, c2, rfl, oq, or, cq, cr, hv, hl, hb⟩
    exact ⟨qs, rs, a, c, a2, c2, true, rfl, oq, or, Or.inr ⟨by have := (val_bound h2.lim).1; omega, rfl, cq, cr, hv, hl⟩, hb⟩
end Go.Proofs.YtidbebfendjnlaaGreatDoor

/- The document's numbers: one, Right, Make; the statements' helper same. -/
namespace Go.Proofs.YtidbebfendjnlaaGreatDoor
set_option linter.unusedVariables false
set_option linter.unusedSimpArgs false
open Go.RowKit

theorem refOne_any (w : World) : Calls Tryz.prog 66 #[] w fun e w' => ∃ ds a c, Hid (ds = [(1 : Int)]) ∧ e = .returned (.slice a ds.length c) ∧ Own w.heap.size w' (.slice a ds.length c) ds ∧ Below w.heap.size w w' := by
  have hO : Own w.heap.size (w.alloc (.cells #[.int .u32 1] 62)) (.slice (some ⟨w.heap.size, 0, none⟩) 1 1) [1] := ⟨can_one.1, World.ownsRow_lit w #[.int .u32 1] 1 (Nat.le_refl _) (by unfold maxLen; omega) rfl⟩
  go_enter Tryz.func66, Tryz.ntmps66
  go_wp2
  go_ret
  exact ⟨[1], some ⟨w.heap.size, 0, none⟩, 1, rfl, rfl, hO, below_alloc _ _⟩

theorem cmpI_zero' {a b : Int} : cmpI a b = 0 ↔ a = b := by
  unfold cmpI
  split
  · omega
  · split <;> omega
theorem one_val' : val [(1 : Int)] = 1 := by decide
theorem gcdV_two (x y : List Int) (hx : 0 ≤ val x) : gcdV [x, y] = gI (val x) (val y) := by
  simp only [gcdV, List.foldl]
  rw [gI_zero_left _ hx]

theorem gI_len {g us vs : List Int} (cg : can g) (cv : can vs) (vg : val g = gI (val us) (val vs)) (hu : 0 ≤ val us) (hv : 0 < val vs) : g.length ≤ vs.length := by
  have hgp : 0 < val g := by rw [vg]; exact gI_pos _ _ hu hv
  obtain ⟨_, ⟨k2, hk2, _⟩⟩ := gI_dvd (val us) (val vs) hu (Int.le_of_lt hv)
  rw [← vg] at hk2
  rw [can_len_pw cg]
  have h5 : val g ≤ val vs := by
    rcases Int.lt_or_le 0 k2 with h7 | h7
    · have := Int.mul_le_mul_of_nonneg_right (show (1 : Int) ≤ k2 by omega) (Int.le_of_lt hgp)
      omega
    · have : k2 * val g ≤ 0 := Int.mul_nonpos_of_nonpos_of_nonneg h7 (Int.le_of_lt hgp)
      omega
  have h6 := (can_len_pw cv vs.length).1 (Nat.le_refl _)
  omega

set_option maxRecDepth 100000 in
set_option maxHeartbeats 3200000 in
theorem refRight_rat {w : World} {b : Bool} {a1 a2 : Option Addr} {c1 c2 : Nat} {ns ds : List Int} (h1 : Rd w.heap.size w (.slice a1 ns.length c1) ns) (h2 : Rd w.heap.size w (.slice a2 ds.length c2) ds) :
    Calls Tryz.prog 14 #[.agg #[.bool b, .slice a1 ns.length c1, .slice a2 ds.length c2]] w fun e w' => TellsP (RightP b ns ds) e ∧ Below w.heap.size w w' := by
  have X := nvar_new (b := b) h1 h2
  have g := below_alloc w (.cells #[.bool b, .slice a1 ns.length c1, .slice a2 ds.length c2] 25)
  have c1i := rightB_can h1.lim
  have c2i := rightB_can h2.lim
  have n0 := (val_bound h1.lim).1
  obtain ⟨x0, x1, x2⟩ := X.cells
  go_enter Tryz.func14, Tryz.ntmps14
  go_wp2_with fail
  generalize hA : w.alloc (.cells #[.bool b, .slice a1 ns.length c1, .slice a2 ds.length c2] 25) = v at *
  clear hA
  refine (refRight_any X.rn).mono ?_
  rintro e w' ⟨rfl, rfl⟩
  cases hr1 : rightB ns with
  | false =>
    have HX : Hid (¬ can ns) := by intro h; rw [c1i.2 h] at hr1; cases hr1
    clear c1i c2i hr1
    go_wp2
    go_ret
    exact ⟨TellsP.no (fun h => HX.out h.2.2.1), g⟩
  | true =>
    have H1 : Hid (can ns) := c1i.1 hr1
    clear c1i hr1
    go_wp2_with fail
    refine (refRight_any X.rd).mono ?_
    rintro e w' ⟨rfl, rfl⟩
    cases hr2 : rightB ds with
    | false =>
      have HX : Hid (¬ can ds) := by intro h; rw [c2i.2 h] at hr2; cases hr2
      clear c2i hr2
      go_wp2
      go_ret
      exact ⟨TellsP.no (fun h => HX.out h.2.2.2.1), g⟩
    | true =>
      have H2 : Hid (can ds) := c2i.1 hr2
      clear c2i hr2
      by_cases hd0 : 0 < ds.length
      · have hdb : ((ds.length : Int) == 0) = false := by rw [beq_eq_false_iff_ne]; omega
        by_cases q1 : 32 < ns.length
        · go_wp2
          go_ret
          exact ⟨TellsP.no (fun h => by have := h.1; omega), g⟩
        by_cases q2 : 32 < ds.length
        · go_wp2
          go_ret
          exact ⟨TellsP.no (fun h => by have := h.2.1; omega), g⟩
        by_cases hbz : b = true ∧ ns.length = 0
        · obtain ⟨rfl, hz⟩ := hbz
          have hz' : ¬ 0 < ns.length := by omega
          have HX : Hid (¬ RightP true ns ds) := fun h => h.2.2.2.2.1 ⟨rfl, hz⟩
          have hzb : ((ns.length : Int) == 0) = true := by rw [hz]; rfl
          clear hz
          go_wp2
          go_ret
          exact ⟨TellsP.no HX.out, g⟩
        · have HB : Hid (¬ (b = true ∧ ns.length = 0)) := hbz
          have hcs : (((ns.length : Int) == 0) = true ∧ b = false) ∨ ((ns.length : Int) == 0) = false := by
            cases hh : ((ns.length : Int) == 0) with
            | false => exact Or.inr rfl
            | true =>
              refine Or.inl ⟨rfl, ?_⟩
              rw [beq_iff_eq] at hh
              cases b with
              | false => rfl
              | true => exact absurd ⟨rfl, by omega⟩ hbz
          clear hbz
          rcases hcs with ⟨hnb, rfl⟩ | hnb
          all_goals
            have hm := many2 X.rn X.rd (Nat.le_refl _) (Nat.le_refl _)
            go_wp2_with fail
            refine (refGcd_any (M := 32) hm (by omega) (by omega) (fun j hj => by match j, hj with | 0, _ => exact Nat.le_of_not_lt q1 | 1, _ => exact Nat.le_of_not_lt q2)).mono ?_
            rintro e wa ⟨zs, cz, vz, hmk⟩
            obtain ⟨a3, c3, rfl, o3, ka⟩ := Makes.alloc (w := v) hmk
            clear hmk hm
            have HZ : Hid (val zs = gI (val ns) (val ds)) := by unfold Hid; rw [vz]; exact gcdV_two ns ds n0
            clear vz
            have g1 : Below w.heap.size w wa := g.trans (ka.mono g.size)
            have lz : zs.length ≤ ds.length := gI_len cz H2.out HZ.out n0 (by have h5 := can_low H2.out hd0; have h6 := pw_pos (ds.length - 1); omega)
            go_wp2_with fail
            refine (refOne_any _).mono ?_
            rintro e wb ⟨os, a4, c4, HO, rfl, o4, kb⟩
            have g2 : Below w.heap.size w wb := g1.trans (kb.mono g1.size)
            have lo : os.length ≤ 1 := by rw [HO.out]; exact Nat.le_refl _
            go_wp2_with fail
            refine (refCompare_rd (o3.below kb (Nat.le_refl _)).rd o4.rd (Nat.le_refl _) (by clear n0; omega) (by clear n0; omega)).mono ?_
            rintro e wc ⟨rfl, kc⟩
            have g3 : Below w.heap.size w wc := g2.trans (kc.mono g2.size)
            have HV : Hid (val os = 1) := by unfold Hid; rw [HO.out]; exact one_val'
            rw [HV.out]
            by_cases hz : val zs = 1
            · have HG : Hid (gI (val ns) (val ds) = 1) := by unfold Hid; rw [← HZ.out]; exact hz
              rw [cmpI_eq hz]
              clear hz
              go_wp2
              go_ret
              exact ⟨TellsP.yes ⟨by omega, by omega, H1.out, H2.out, (by first | exact HB.out | (have h5 := HB.out; simpa using h5)), hd0, HG.out⟩, g3⟩
            · have HG : Hid (¬ gI (val ns) (val ds) = 1) := by unfold Hid; rw [← HZ.out]; exact hz
              have hcb : (cmpI (val zs) 1 == 0) = false := by
                rw [beq_eq_false_iff_ne]
                intro h5
                exact hz (cmpI_zero'.1 h5)
              clear hz
              go_wp2
              go_ret
              exact ⟨TellsP.no (fun h => HG.out h.2.2.2.2.2.2), g3⟩
      · have hdb : ((ds.length : Int) == 0) = true := by rw [beq_iff_eq]; omega
        go_wp2
        go_ret
        exact ⟨TellsP.no (fun h => hd0 h.2.2.2.2.2.1), g⟩

end Go.Proofs.YtidbebfendjnlaaGreatDoor

/- The document's Make by nought. -/
namespace Go.Proofs.YtidbebfendjnlaaGreatDoor
set_option linter.unusedVariables false
set_option linter.unusedSimpArgs false
open Go.RowKit

set_option maxRecDepth 100000 in
set_option maxHeartbeats 3200000 in
theorem refMake_zero {w : World} {b : Bool} {a1 a2 : Option Addr} {c1 c2 : Nat} {xs ys : List Int} (h1 : Rd w.heap.size w (.slice a1 xs.length c1) xs) (h2 : Rd w.heap.size w (.slice a2 ys.length c2) ys) (n1 : xs.length ≤ 10000) (n2 : ys.length ≤ 10000) (hy : val ys = 0) :
    Calls Tryz.prog 11 #[.bool b, .slice a1 xs.length c1, .slice a2 ys.length c2] w fun e w' => Below w.heap.size w w' ∧ e = errOf 22 := by
  have cv := tr_can h2.lim
  have hvl : (tr ys).length = 0 := by rw [can_zero cv, val_tr]; exact hy
  have hvl' : ¬ 0 < (tr ys).length := by omega
  have hvb : (((tr ys).length : Int) == 0) = true := by rw [hvl]; rfl
  clear hvl hy cv
  have hR := box3_new w (.bool false) (.slice none 0 0) (.slice none 0 0) 25
  have b0 := below_alloc w (.cells #[.bool false, .slice none 0 0, .slice none 0 0] 25)
  have s0 : w.heap.size < (w.alloc (.cells #[.bool false, .slice none 0 0, .slice none 0 0] 25)).heap.size := by simp
  replace h1 := (h1.below b0).mono b0.size
  replace h2 := (h2.below b0).mono b0.size
  go_enter Tryz.func11, Tryz.ntmps11
  go_wp2_with fail
  generalize hA : w.alloc (.cells #[.bool false, .slice none 0 0, .slice none 0 0] 25) = wR at *
  clear hA
  refine (refTrim_rd h1 (by omega)).mono ?_
  rintro e wa ⟨a3, c3, rfl, o3, ba⟩
  go_wp2_with fail
  refine (refTrim_rd ((h2.below ba).mono ba.size) (by omega)).mono ?_
  rintro e wb ⟨a4, c4, rfl, o4, bb⟩
  have bw : Below wR.heap.size wR wb := ba.trans (bb.mono ba.size)
  have hR2 := hR.below bw s0
  generalize (tr ys).length = L at *
  have q0 := hR2.c0
  have q1 := hR2.c1
  have q2 := hR2.c2
  have p0 := hR2.f0
  have p1 := hR2.f1
  have p2 := hR2.f2
  go_wp2
  have hR3 := hR2.set (.bool false) (.slice none 0 0) (.slice none 0 0)
  have r0 := hR3.c0
  have r1 := hR3.c1
  have r2 := hR3.c2
  refine bodyPost_ret (v := .tuple #[.agg #[.bool false, .slice none 0 0, .slice none 0 0], .int .i64 22]) (by simp [results, Tryz.results11, go_sem, r0, r1, r2]) rfl ?_
  exact ⟨Below.set3 (b0.trans (bw.mono b0.size)) (Nat.le_refl _) _ _ _, rfl⟩

end Go.Proofs.YtidbebfendjnlaaGreatDoor

/- The document's Make. -/
namespace Go.Proofs.YtidbebfendjnlaaGreatDoor
set_option linter.unusedVariables false
set_option linter.unusedSimpArgs false
open Go.RowKit

theorem right_signed {b : Bool} {ns ds : List Int} {N D : Int} (cn : can ns) (cd : can ds) (hd : 0 < ds.length) (hg : gI (val ns) (val ds) = 1) (hv : sg b (val ns) * D = N * val ds) (l1 : ¬ 32 < ns.length) (l2 : ¬ 32 < ds.length) : RightP (b && decide (0 < ns.length)) ns ds ∧ sg (b && decide (0 < ns.length)) (val ns) * D = N * val ds := by
  refine ⟨⟨by omega, by omega, cn, cd, ?_, hd, hg⟩, ?_⟩
  · rintro ⟨hx, hz⟩
    rw [decide_eq_false (by omega)] at hx
    simp at hx
  · by_cases h0 : 0 < ns.length
    · rw [decide_eq_true h0, Bool.and_true]; exact hv
    · have hz := (can_zero cn).1 (by omega)
      rw [hz, sg_zero] at hv
      rw [hz, sg_zero]; exact hv

set_option maxRecDepth 100000 in
set_option maxHeartbeats 8000000 in
theorem refMake_rat {w : World} {b : Bool} {a1 a2 : Option Addr} {c1 c2 : Nat} {xs ys : List Int} (h1 : Rd w.heap.size w (.slice a1 xs.length c1) xs) (h2 : Rd w.heap.size w (.slice a2 ys.length c2) ys) (n1 : xs.length ≤ 10000) (n2 : ys.length ≤ 10000) (hy : 0 < val ys) :
    Calls Tryz.prog 11 #[.bool b, .slice a1 xs.length c1, .slice a2 ys.length c2] w fun e w' => RMakes w (sg b (val xs)) (val ys) e w' := by
  have cu := tr_can h1.lim
  have cv := tr_can h2.lim
  have lu := tr_length_le xs
  have lv := tr_length_le ys
  have hvl : ¬ (tr ys).length = 0 := by rw [can_zero cv, val_tr]; omega
  have HV : Hid (val (tr xs) = val xs ∧ val (tr ys) = val ys ∧ 0 < val ys ∧ 0 ≤ val xs) := ⟨val_tr xs, val_tr ys, hy, (val_bound h1.lim).1⟩
  clear hy
  have R := box3_new w (.bool false) (.slice none 0 0) (.slice none 0 0) 25
  have b0 := below_alloc w (.cells #[.bool false, .slice none 0 0, .slice none 0 0] 25)
  have s0 : w.heap.size < (w.alloc (.cells #[.bool false, .slice none 0 0, .slice none 0 0] 25)).heap.size := by simp
  replace h1 := (h1.below b0).mono b0.size
  replace h2 := (h2.below b0).mono b0.size
  go_enter Tryz.func11, Tryz.ntmps11
  go_wp2_with fail
  generalize hA : w.alloc (.cells #[.bool false, .slice none 0 0, .slice none 0 0] 25) = wR at *
  clear hA
  refine (refTrim_rd h1 (by omega)).mono ?_
  rintro e wa ⟨a3, c3, rfl, o3, ba⟩
  go_wp2_with fail
  refine (refTrim_rd ((h2.below ba).mono ba.size) (by omega)).mono ?_
  rintro e wb ⟨a4, c4, rfl, o4, bb⟩
  have bw : Below wR.heap.size wR wb := ba.trans (bb.mono ba.size)
  have o1 : Own wR.heap.size wb (.slice a3 (tr xs).length c3) (tr xs) := o3.below bb (Nat.le_refl _)
  have o2 : Own wR.heap.size wb (.slice a4 (tr ys).length c4) (tr ys) := o4.mono ba.size
  clear o3 o4 h1 h2
  generalize tr xs = us at *
  generalize tr ys = vs at *
  have hvp : 0 < vs.length := by omega
  have hvb : ((vs.length : Int) == 0) = false := by rw [beq_eq_false_iff_ne]; omega
  clear hvl
  have hm := many2 o1.rd o2.rd (Nat.le_refl _) (Nat.le_refl _)
  go_wp2_with fail
  refine (refGcd_any (M := 10000) hm (by omega) (by omega) (fun j hj => by match j, hj with | 0, _ => exact Nat.le_trans lu n1 | 1, _ => exact Nat.le_trans lv n2)).mono ?_
  rintro e wg ⟨g, cg, vg, hmk⟩
  obtain ⟨ag, qg, rfl, og, bg⟩ := Makes.alloc (w := wb) hmk
  clear hmk hm
  rw [gcdV_two us vs (by have := HV.out; omega)] at vg
  have hgp : 0 < val g := by rw [vg]; exact gI_pos _ _ (by have := HV.out; omega) (by have := HV.out; omega)
  obtain ⟨⟨k1, hk1, _⟩, ⟨k2, hk2, hk20⟩⟩ := gI_dvd (val us) (val vs) (by have := HV.out; omega) (by have := HV.out; omega)
  have lg : g.length ≤ 10000 := Nat.le_trans (gI_len cg cv vg (by have := HV.out; omega) (by have := HV.out; omega)) (Nat.le_trans lv n2)
  rw [← vg] at hk1 hk2
  have HG : Hid (val g = gI (val us) (val vs) ∧ val us = k1 * val g ∧ val vs = k2 * val g ∧ 0 < val g) := ⟨vg, hk1, hk2, hgp⟩
  clear vg hk1 hk2 hk20 hgp
  have bwg : Below wR.heap.size wR wg := bw.trans (bg.mono bw.size)
  have o1g := o1.below bg (Nat.le_refl _)
  have o2g := o2.below bg (Nat.le_refl _)
  go_wp2_with fail
  refine (refDivMod_form o1g.rd (Nat.le_refl _) og.rd (Nat.le_refl _) (by omega) (by omega)).mono ?_
  rintro e wh ⟨qs, rs, a5, c5, a6, c6, bq, rfl, oq, or, HQ0, bh⟩
  have HQ : Hid (bq = true ∧ can qs ∧ val us = val qs * val g) := by
    rcases HQ0.out with ⟨h5, _⟩ | ⟨_, hb5, cq, cr, hv5, hl5⟩
    · have := HG.out.2.2.2; omega
    · have hr0 := rest_zero _ _ _ _ k1 hv5 (val_bound cr.1).1 hl5 HG.out.2.1
      exact ⟨hb5, cq, by rw [hv5, hr0, Int.add_zero]⟩
  clear HQ0
  have bwh : Below wR.heap.size wR wh := bwg.trans (bh.mono bwg.size)
  have o2h := o2g.below bh (Nat.le_refl _)
  have ogh := og.below bh (Nat.le_refl _)
  go_wp2_with fail
  refine (refDivMod_form o2h.rd (Nat.le_refl _) ogh.rd (Nat.le_refl _) (by omega) (by omega)).mono ?_
  rintro e wi ⟨ts, us2, a7, c7, a8, c8, bt, rfl, ot, ou, HT0, bi⟩
  have HT : Hid (bt = true ∧ can ts ∧ val vs = val ts * val g) := by
    rcases HT0.out with ⟨h5, _⟩ | ⟨_, hb5, cq, cr, hv5, hl5⟩
    · have := HG.out.2.2.2; omega
    · have hr0 := rest_zero _ _ _ _ k2 hv5 (val_bound cr.1).1 hl5 HG.out.2.2.1
      exact ⟨hb5, cq, by rw [hv5, hr0, Int.add_zero]⟩
  clear HT0
  have bwi : Below wR.heap.size wR wi := bwh.trans (bi.mono bwh.size)
  have oq2 : Own wR.heap.size wi (.slice a5 qs.length c5) qs := (oq.below bi (Nat.le_refl _)).mono bwg.size
  have ot2 : Own wR.heap.size wi (.slice a7 ts.length c7) ts := ot.mono bwh.size
  have HF : Hid (can qs ∧ can ts ∧ 0 < ts.length ∧ gI (val qs) (val ts) = 1 ∧ sg b (val qs) * val ys = sg b (val xs) * val ts) := by
    have h3 := HV.out
    have cq := HQ.out.2.1
    have ct := HT.out.2.1
    have hqn := (val_bound cq.1).1
    have htn := (val_bound ct.1).1
    have hgg := gI_rest (val us) (val vs) (val qs) (val ts) (by omega) (by omega) hqn htn (by rw [← HG.out.1]; exact HQ.out.2.2) (by rw [← HG.out.1]; exact HT.out.2.2)
    refine ⟨cq, ct, ?_, hgg, ?_⟩
    · by_cases h0 : ts.length = 0
      · have := (can_zero ct).1 h0
        have h4 := HT.out.2.2
        rw [this, Int.zero_mul] at h4
        omega
      · omega
    · rw [← h3.1, ← h3.2.1, HQ.out.2.2, HT.out.2.2, sg_mul]
      simp only [Int.mul_assoc, Int.mul_comm, Int.mul_left_comm]
  have hR2 := R.below bwi s0
  have q0 := hR2.c0
  have q1 := hR2.c1
  have q2 := hR2.c2
  have p0 := hR2.f0
  have p1 := hR2.f1
  have p2 := hR2.f2
  clear HQ HT
  have hcs : (32 < qs.length ∨ (¬ 32 < qs.length ∧ 32 < ts.length)) ∨ (¬ 32 < qs.length ∧ ¬ 32 < ts.length) := by omega
  rcases hcs with hbig | ⟨l1, l2⟩
  · have HB : Hid (Big (sg b (val xs)) (val ys)) := ⟨b, qs, ts, HF.out.1, HF.out.2.1, HF.out.2.2.1, HF.out.2.2.2.1, HF.out.2.2.2.2, by omega⟩
    rcases hbig with hbig | ⟨hbig, hbig2⟩
    all_goals
      go_wp2
      have hR3 := hR2.set (.bool false) (.slice none 0 0) (.slice none 0 0)
      have r0 := hR3.c0
      have r1 := hR3.c1
      have r2 := hR3.c2
      refine bodyPost_ret (v := .tuple #[.agg #[.bool false, .slice none 0 0, .slice none 0 0], .int .i64 8]) (by simp [results, Tryz.results11, go_sem, r0, r1, r2]) rfl ?_
      exact rmakes_none b0 s0 bwi HB.out _ _ _
  · have HR := right_signed HF.out.1 HF.out.2.1 HF.out.2.2.1 HF.out.2.2.2.1 HF.out.2.2.2.2 l1 l2
    have HRh : Hid (RightP (b && decide (0 < qs.length)) qs ts ∧ sg (b && decide (0 < qs.length)) (val qs) * val ys = sg b (val xs) * val ts) := HR
    clear HR
    have hcs : (b = false) ∨ (b = true ∧ 0 < qs.length) ∨ (b = true ∧ ¬ 0 < qs.length) := by
      cases b with
      | false => exact Or.inl rfl
      | true => exact Or.inr (by by_cases h : 0 < qs.length; exact Or.inl ⟨rfl, h⟩; exact Or.inr ⟨rfl, h⟩)
    rcases hcs with rfl | ⟨rfl, h0⟩ | ⟨rfl, h0⟩
    · go_wp2
      have hR3 := hR2.set (.bool false) (.slice a5 qs.length c5) (.slice a7 ts.length c7)
      have r0 := hR3.c0
      have r1 := hR3.c1
      have r2 := hR3.c2
      refine bodyPost_ret (v := .tuple #[.agg #[.bool false, .slice a5 qs.length c5, .slice a7 ts.length c7], .int .i64 0]) (by simp [results, Tryz.results11, go_sem, r0, r1, r2]) rfl ?_
      exact rmakes_done b0 s0 bwi oq2 ot2 HRh.out.1 HRh.out.2
    · have e := HRh.out
      rw [decide_eq_true h0] at e
      have HE : Hid (RightP true qs ts ∧ sg true (val qs) * val ys = sg true (val xs) * val ts) := e
      clear e HRh
      go_wp2
      have hR3 := hR2.set (.bool true) (.slice a5 qs.length c5) (.slice a7 ts.length c7)
      have r0 := hR3.c0
      have r1 := hR3.c1
      have r2 := hR3.c2
      refine bodyPost_ret (v := .tuple #[.agg #[.bool true, .slice a5 qs.length c5, .slice a7 ts.length c7], .int .i64 0]) (by simp [results, Tryz.results11, go_sem, r0, r1, r2]) rfl ?_
      exact rmakes_done b0 s0 bwi oq2 ot2 HE.out.1 HE.out.2
    · have e := HRh.out
      rw [decide_eq_false h0] at e
      have HE : Hid (RightP false qs ts ∧ sg false (val qs) * val ys = sg true (val xs) * val ts) := e
      clear e HRh
      go_wp2
      have hR3 := hR2.set (.bool false) (.slice a5 qs.length c5) (.slice a7 ts.length c7)
      have r0 := hR3.c0
      have r1 := hR3.c1
      have r2 := hR3.c2
      refine bodyPost_ret (v := .tuple #[.agg #[.bool false, .slice a5 qs.length c5, .slice a7 ts.length c7], .int .i64 0]) (by simp [results, Tryz.results11, go_sem, r0, r1, r2]) rfl ?_
      exact rmakes_done b0 s0 bwi oq2 ot2 HE.out.1 HE.out.2
end Go.Proofs.YtidbebfendjnlaaGreatDoor

/- What makings answer, in one form; the statements' helper same. -/
namespace Go.Proofs.YtidbebfendjnlaaGreatDoor
set_option linter.unusedVariables false
set_option linter.unusedSimpArgs false
open Go.RowKit

/-- What is made of N by D: an error, or the number. -/
def MakeSpec (N D : Int) (b : Bool) (ns ds : List Int) (err : Int) : Prop :=
  (D = 0 ∧ err = 22 ∧ b = false ∧ ns = [] ∧ ds = []) ∨ (0 < D ∧ err = 8 ∧ b = false ∧ ns = [] ∧ ds = [] ∧ Big N D) ∨ (0 < D ∧ err = 0 ∧ RightP b ns ds ∧ sg b (val ns) * D = N * val ds)
theorem MakeSpec.unique {N D : Int} {b c : Bool} {ns ds ms es : List Int} {e f : Int} (h : MakeSpec N D b ns ds e) (k : MakeSpec N D c ms es f) : c = b ∧ ms = ns ∧ es = ds ∧ f = e := by
  rcases h with ⟨hD, rfl, rfl, rfl, rfl⟩ | ⟨hD, rfl, rfl, rfl, rfl, hb⟩ | ⟨hD, rfl, hr, hv⟩ <;> rcases k with ⟨kD, rfl, rfl, rfl, rfl⟩ | ⟨kD, rfl, rfl, rfl, rfl, kb⟩ | ⟨kD, rfl, kr, kv⟩
  · exact ⟨rfl, rfl, rfl, rfl⟩
  · omega
  · omega
  · omega
  · exact ⟨rfl, rfl, rfl, rfl⟩
  · exact absurd hb (not_big kr kv kD)
  · omega
  · exact absurd kb (not_big hr hv hD)
  · obtain ⟨rfl, rfl, rfl⟩ := right_is hr hv hD kr kv
    exact ⟨rfl, rfl, rfl, rfl⟩
/-- A number with an error is answered. -/
def RAns (w : World) (b : Bool) (ns ds : List Int) (err : Int) (e : Ending) (w' : World) : Prop :=
  Below w.heap.size w w' ∧ ∃ a1 c1 a2 c2, e = .returned (.tuple #[.agg #[.bool b, .slice a1 ns.length c1, .slice a2 ds.length c2], .int .i64 err]) ∧ Rd w'.heap.size w' (.slice a1 ns.length c1) ns ∧ Rd w'.heap.size w' (.slice a2 ds.length c2) ds
theorem RMakes.spec {w w' : World} {N D : Int} {e : Ending} (h : RMakes w N D e w') (hD : 0 < D) : ∃ b ns ds err, Hid (MakeSpec N D b ns ds err) ∧ RAns w b ns ds err e w' := by
  obtain ⟨hb, ⟨rfl, hbig⟩ | ⟨b, ns, ds, a1, c1, a2, c2, rfl, on, od, hr, hv⟩⟩ := h
  · exact ⟨false, [], [], 8, Or.inr (Or.inl ⟨hD, rfl, rfl, rfl, rfl, hbig⟩), hb, none, 0, none, 0, rfl, nil_rd _, nil_rd _⟩
  · exact ⟨b, ns, ds, 0, Or.inr (Or.inr ⟨hD, rfl, hr, hv⟩), hb, a1, c1, a2, c2, rfl, on.rd, od.rd⟩
theorem err_spec {w w' : World} {N : Int} {e : Ending} (hb : Below w.heap.size w w') (he : e = errOf 22) : ∃ b ns ds err, Hid (MakeSpec N 0 b ns ds err) ∧ RAns w b ns ds err e w' :=
  ⟨false, [], [], 22, Or.inl ⟨rfl, rfl, rfl, rfl, rfl⟩, hb, none, 0, none, 0, he, nil_rd _, nil_rd _⟩

section
variable {w : World} {b : Bool} {a1 a2 a3 a4 : Option Addr} {c1 c2 c3 c4 : Nat} {xs ys ns ds : List Int}
theorem make_spec (h1 : Rd w.heap.size w (.slice a1 xs.length c1) xs) (h2 : Rd w.heap.size w (.slice a2 ys.length c2) ys) (n1 : xs.length ≤ 10000) (n2 : ys.length ≤ 10000) :
    Calls Tryz.prog 10 #[.bool b, .slice a1 xs.length c1, .slice a2 ys.length c2] w fun e w' => ∃ c ns ds err, Hid (MakeSpec (sg b (val xs)) (val ys) c ns ds err) ∧ RAns w c ns ds err e w' := by
  by_cases hy : val ys = 0
  · rw [hy]
    exact (make_zero b h1 (Nat.le_refl _) h2 (Nat.le_refl _) n1 n2 hy).mono (fun e w' h => err_spec h.1 h.2)
  · have hp : 0 < val ys := by have := (val_bound h2.lim).1; omega
    exact (make_any b _ h1 (Nat.le_refl _) h2 (Nat.le_refl _) n1 n2 hp rfl).mono (fun e w' h => h.spec hp)
theorem refMake_spec (h1 : Rd w.heap.size w (.slice a1 xs.length c1) xs) (h2 : Rd w.heap.size w (.slice a2 ys.length c2) ys) (n1 : xs.length ≤ 10000) (n2 : ys.length ≤ 10000) :
    Calls Tryz.prog 11 #[.bool b, .slice a1 xs.length c1, .slice a2 ys.length c2] w fun e w' => ∃ c ns ds err, Hid (MakeSpec (sg b (val xs)) (val ys) c ns ds err) ∧ RAns w c ns ds err e w' := by
  by_cases hy : val ys = 0
  · rw [hy]
    exact (refMake_zero h1 h2 n1 n2 hy).mono (fun e w' h => err_spec h.1 h.2)
  · have hp : 0 < val ys := by have := (val_bound h2.lim).1; omega
    exact (refMake_rat h1 h2 n1 n2 hp).mono (fun e w' h => h.spec hp)

set_option maxRecDepth 100000 in
set_option maxHeartbeats 1600000 in
theorem same_ans (err : Int) (h1 : Rd w.heap.size w (.slice a1 ns.length c1) ns) (h2 : Rd w.heap.size w (.slice a2 ds.length c2) ds) (h3 : Rd w.heap.size w (.slice a3 ns.length c3) ns) (h4 : Rd w.heap.size w (.slice a4 ds.length c4) ds) :
    Calls Tryz.prog 12 #[.agg #[.bool b, .slice a1 ns.length c1, .slice a2 ds.length c2], .int .i64 err, .agg #[.bool b, .slice a3 ns.length c3, .slice a4 ds.length c4], .int .i64 err] w fun e w' => e = .returned (.bool true) ∧ Below w.heap.size w w' := by
  obtain ⟨X, Y, g⟩ := nvar_in2 (bx := b) (cy := b) h1 h2 h3 h4
  obtain ⟨x0, x1, x2⟩ := X.cells
  obtain ⟨y0, y1, y2⟩ := Y.cells
  have hee : (err == err) = true := by simp
  go_enter Tryz.func12, Tryz.ntmps12
  go_wp2_with fail
  clear x0 x1 x2 y0 y1 y2
  generalize hA : (w.alloc (.cells #[.bool b, .slice a1 ns.length c1, .slice a2 ds.length c2] 25)).alloc (.cells #[.bool b, .slice a3 ns.length c3, .slice a4 ds.length c4] 25) = v at *
  clear hA
  refine (same_rat X.rn X.rd Y.rn Y.rd).mono ?_
  rintro e w1 ⟨rfl, k1⟩
  go_wp2
  go_ret
  exact ⟨rfl, g.trans (k1.mono g.size)⟩
end
end Go.Proofs.YtidbebfendjnlaaGreatDoor

/- rat.wholeNextTo, rat.Floor: the whole numbers next to a number. -/
namespace Go.Proofs.YtidbebfendjnlaaGreatDoor
set_option linter.unusedVariables false
set_option linter.unusedSimpArgs false
open Go.RowKit

/-- A result's variable. -/
structure RVar (w : World) (k : Nat) : Prop where
  lt : k < w.heap.size
  box : Box3 w k 25 (.bool false) (.slice none 0 0) (.slice none 0 0)
theorem RVar.below {w w' : World} {k : Nat} (h : RVar w k) (hb : Below w.heap.size w w') : RVar w' k := ⟨Nat.lt_of_lt_of_le h.lt hb.size, h.box.below hb h.lt⟩
theorem rvar_new (w : World) : RVar (w.alloc (.cells #[.bool false, .slice none 0 0, .slice none 0 0] 25)) w.heap.size := ⟨by simp, box3_new _ _ _ _ _⟩

/-- The size of the whole number next to a number: further away from 0, or nearer. -/
def wholeM (f : Bool) (n d : Int) : Int := n / d + if f = true ∧ ¬ n % d = 0 then 1 else 0

theorem div_unique {n d q r : Int} (h : n = q * d + r) (h0 : 0 ≤ r) (h1 : r < d) : q = n / d ∧ r = n % d := by
  have hd : 0 < d := by omega
  have e1 : n / d = q := by
    rw [h, Int.add_comm, Int.add_mul_ediv_right _ _ (by omega), Int.ediv_eq_zero_of_lt h0 h1]
    omega
  refine ⟨e1.symm, ?_⟩
  have e2 := Int.emod_def n d
  rw [e1] at e2
  rw [e2, h, Int.mul_comm d]
  omega

theorem floor_whole (b : Bool) (n d : Int) (hn : 0 ≤ n) (hd : 0 < d) : sg b (wholeM b n d) = sg b n / d := by
  have hm0 := Int.emod_nonneg n (show d ≠ 0 by omega)
  have hm1 := Int.emod_lt_of_pos n hd
  have he : n / d * d + n % d = n := by rw [Int.mul_comm]; exact Int.mul_ediv_add_emod n d
  unfold wholeM sg
  cases b with
  | false => simp
  | true =>
    by_cases h0 : n % d = 0
    · simp only [h0, not_true_eq_false, and_false, if_false, if_true, Int.add_zero]
      exact (div_unique (r := 0) (by rw [Int.neg_mul]; omega) (by omega) hd).1
    · simp only [h0, not_false_eq_true, and_true, if_true]
      refine (div_unique (r := d - n % d) ?_ (by omega) (by omega)).1
      rw [Int.neg_mul, Int.add_mul]
      omega

theorem one_val : val [(1 : Int)] = 1 := by decide
theorem can_add_one {q r : List Int} (c : can r) : (0 < r.length ↔ ¬ val r = 0) := by
  have := can_zero c
  omega

section
variable {B : Nat} {w : World} {bx : Bool} {a1 a2 : Option Addr} {c1 c2 : Nat} {xn xd : List Int}

set_option maxRecDepth 100000 in
set_option maxHeartbeats 8000000 in
theorem whole_rat (f : Bool) (h1 : Rd w.heap.size w (.slice a1 xn.length c1) xn) (h2 : Rd w.heap.size w (.slice a2 xd.length c2) xd) :
    Calls Tryz.prog 87 #[.agg #[.bool bx, .slice a1 xn.length c1, .slice a2 xd.length c2], .bool f] w fun e w' => Gives w (RightP bx xn xd) (sg bx (wholeM f (val xn) (val xd))) 1 e w' := by
  have X := nvar_new (b := bx) h1 h2
  have g := below_alloc w (.cells #[.bool bx, .slice a1 xn.length c1, .slice a2 xd.length c2] 25)
  have R := rvar_new (w.alloc (.cells #[.bool bx, .slice a1 xn.length c1, .slice a2 xd.length c2] 25))
  have ka := below_alloc (w.alloc (.cells #[.bool bx, .slice a1 xn.length c1, .slice a2 xd.length c2] 25)) (.cells #[.bool false, .slice none 0 0, .slice none 0 0] 25)
  rw [World.size_alloc] at R
  replace X := X.below ka
  replace g := g.trans (ka.mono g.size)
  clear ka h1 h2
  obtain ⟨x0, x1, x2⟩ := X.cells
  go_enter Tryz.func87, Tryz.ntmps87
  go_wp2_with fail
  clear x0 x1 x2
  generalize hA : (w.alloc (.cells #[.bool bx, .slice a1 xn.length c1, .slice a2 xd.length c2] 25)).alloc (.cells #[.bool false, .slice none 0 0, .slice none 0 0] 25) = v at *
  clear hA
  refine (right_rat X.rn X.rd (Nat.le_refl _)).mono ?_
  rintro e wa ⟨⟨r, rfl, hr⟩, ka⟩
  replace X := X.below ka
  replace R := R.below ka
  replace g := g.trans (ka.mono g.size)
  cases r with
  | false =>
    have HP : Hid (¬ RightP bx xn xd) := fun h => by have := hr.2 h; cases this
    clear hr
    have q0 := R.box.c0
    have q1 := R.box.c1
    have q2 := R.box.c2
    have p0 := R.box.f0
    have p1 := R.box.f1
    have p2 := R.box.f2
    go_wp2
    have hR3 := R.box.set (.bool false) (.slice none 0 0) (.slice none 0 0)
    have r0 := hR3.c0
    have r1 := hR3.c1
    have r2 := hR3.c2
    refine bodyPost_ret (v := .tuple #[.agg #[.bool false, .slice none 0 0, .slice none 0 0], .int .i64 22]) (by simp [results, Tryz.results87, go_sem, r0, r1, r2]) rfl ?_
    exact gives_err HP.out (Below.set3 g (by omega) _ _ _)
  | true =>
    have HP : Hid (RightP bx xn xd) := hr.1 rfl
    clear hr
    have l1 := HP.out.1
    have l2 := HP.out.2.1
    have l3 := HP.out.2.2.2.2.2.1
    have ga := g
    have Ra := R
    have s1 : w.heap.size ≤ wa.heap.size := g.size
    have hcells2 : ∀ {w' : World}, Below wa.heap.size wa w' → w'.cell? ⟨w.heap.size, 0, none⟩ = some (.bool bx) := fun hb => (X.below hb).k0
    have X2 : ∀ {w' : World}, Below wa.heap.size wa w' → NVar w' w.heap.size bx a1 xn c1 a2 xd c2 := fun hb => X.below hb
    obtain ⟨x0, x1, x2⟩ := X.cells
    go_wp2_with fail
    clear x0 x1 x2
    refine (divMod_any X.rn (Nat.le_refl _) X.rd (Nat.le_refl _) (by have := (right_pos HP.out).1; omega) (by omega) (by omega)).mono ?_
    rintro e wb ⟨qs, rs, a5, c5, a6, c6, rfl, oq, or, cq, cr, hv, hl, lq, lr, kb⟩
    have HU : Hid (val qs = val xn / val xd ∧ val rs = val xn % val xd) := div_unique hv (val_bound cr.1).1 hl
    clear hv hl
    replace X := X.below kb
    have t1 : Below wa.heap.size wa wb := kb
    clear kb R g
    have HRS : Hid (0 < rs.length ↔ ¬ val rs = 0) := can_add_one (q := qs) cr
    by_cases hcs : f = true ∧ 0 < rs.length
    · obtain ⟨rfl, hrl⟩ := hcs
      have HM : Hid (wholeM true (val xn) (val xd) = val qs + 1) := by
        unfold Hid wholeM
        rw [if_pos ⟨rfl, by rw [← HU.out.2]; exact HRS.out.1 hrl⟩, HU.out.1]
      have HF : Hid (wholeM true (val xn) (val xd) = val qs + 1) := HM
      go_wp2_with fail
      refine (one_any _).mono ?_
      rintro e wc ⟨a7, c7, rfl, o7, kc⟩
      replace X := X.below kc
      have t3 : Below wa.heap.size wa wc := t1.trans (kc.mono t1.size)
      have oqc := oq.below kc (Nat.le_refl _)
      go_wp2_with fail
      refine (sum2 oqc.rd o7.rd (Nat.le_refl _) (Nat.le_refl _) (by omega) (by simp)).mono ?_
      rintro e wd ⟨zs, cz, vz, lz, a8, c8, rfl, o8, kd⟩
      have HZ : Hid (val zs = wholeM true (val xn) (val xd)) := by
        unfold Hid; rw [vz, HM.out, one_val]
      clear vz
      replace X := X.below kd
      have t4 : Below wa.heap.size wa wd := t3.trans (kd.mono t3.size)
      have o9 : Own wa.heap.size wd (.slice a8 zs.length c8) zs := o8.mono t3.size
      have x0 := X.k0
      have hcells : ∀ {w' : World}, Below wd.heap.size wd w' → w'.cell? ⟨w.heap.size, 0, none⟩ = some (.bool bx) := fun hb => (X.below hb).k0
      have hne : w.heap.size + 1 ≠ w.heap.size := by omega
      go_wp2
      go_region_held3 (fun w' => w'.cell? ⟨w.heap.size, 0, none⟩ = some (.bool bx))
        (first | (go_keep; done) | exact tw | exact tw2 | exact (((Xf.box.apart (p := ⟨w.heap.size + 1, 0, none⟩) (by exact hne) _).apart (p := ⟨w.heap.size + 1, 1, none⟩) (by exact hne) _).apart (p := ⟨w.heap.size + 1, 2, none⟩) (by exact hne) _).c0)
        (first
          | (go_at_call 69; refine (one_any _).mono ?_; intro e we hm; obtain ⟨x2, y2, rfl, o3, bf⟩ := Makes.undrew hm; have tw := hcells bf; have t2 : Below wa.heap.size wa we := t4.trans (bf.mono t4.size))
          | (go_at_call 59; refine (limited_any (b := bx) (sg bx (wholeM true (val xn) (val xd))) 1 t2 (o9.below bf (Nat.le_refl _)) (o3.mono t4.size) cz can_one (by simp) (by rw [one_val]; exact gI_one_right _) (by rw [one_val, HZ.out])).mono ?_; intro e wf hm6; obtain ⟨bm6, b6, x5, n5, y5, x6, n6, y6, err, rfl, hform⟩ := hm6.form; have tw2 := hcells2 bm6; have Xf := X2 bm6; have Rf := Ra.below bm6; have q0 := Rf.box.c0; have q1 := Rf.box.c1; have q2 := Rf.box.c2; have p0 := Rf.box.f0; have p1 := Rf.box.f1; have p2 := Rf.box.f2))
      all_goals
        go_wp2
        have hR3 := Rf.box.set (.bool b6) (.slice x5 n5 y5) (.slice x6 n6 y6)
        have r0 := hR3.c0
        have r1 := hR3.c1
        have r2 := hR3.c2
        refine bodyPost_ret (v := .tuple #[.agg #[.bool b6, .slice x5 n5 y5, .slice x6 n6 y6], .int .i64 err]) (by simp [results, Tryz.results87, go_sem, r0, r1, r2]) rfl ?_
        exact (rform_done ga (by omega) Ra.lt bm6 hform).gives HP.out
    · have HM : Hid (val qs = wholeM f (val xn) (val xd)) := by
        unfold Hid wholeM
        rw [if_neg, Int.add_zero]
        · exact HU.out.1
        · rintro ⟨hf, h0⟩
          exact hcs ⟨hf, HRS.out.2 (by rw [HU.out.2]; exact h0)⟩
      have hcs2 : f = false ∨ (f = true ∧ ¬ 0 < rs.length) := by
        cases f with
        | false => exact Or.inl rfl
        | true => exact Or.inr ⟨rfl, fun h => hcs ⟨rfl, h⟩⟩
      clear hcs
      have hqo : Own wa.heap.size wb (.slice a5 qs.length c5) qs := oq
      rcases hcs2 with rfl | ⟨rfl, hr0⟩
      · have x0 := X.k0
        have hcells : ∀ {w' : World}, Below wb.heap.size wb w' → w'.cell? ⟨w.heap.size, 0, none⟩ = some (.bool bx) := fun hb => (X.below hb).k0
        have hne : w.heap.size + 1 ≠ w.heap.size := by omega
        go_wp2
        go_region_held3 (fun w' => w'.cell? ⟨w.heap.size, 0, none⟩ = some (.bool bx))
          (first | (go_keep; done) | exact tw | exact tw2 | exact (((Xf.box.apart (p := ⟨w.heap.size + 1, 0, none⟩) (by exact hne) _).apart (p := ⟨w.heap.size + 1, 1, none⟩) (by exact hne) _).apart (p := ⟨w.heap.size + 1, 2, none⟩) (by exact hne) _).c0)
          (first
            | (go_at_call 69; refine (one_any _).mono ?_; intro e we hm; obtain ⟨x2, y2, rfl, o3, bf⟩ := Makes.undrew hm; have tw := hcells bf; have t2 : Below wa.heap.size wa we := t1.trans (bf.mono t1.size))
            | (go_at_call 59; refine (limited_any (b := bx) (sg bx (wholeM false (val xn) (val xd))) 1 t2 (hqo.below bf (Nat.le_refl _)) (o3.mono t1.size) cq can_one (by simp) (by rw [one_val]; exact gI_one_right _) (by rw [one_val, HM.out])).mono ?_; intro e wf hm6; obtain ⟨bm6, b6, x5, n5, y5, x6, n6, y6, err, rfl, hform⟩ := hm6.form; have tw2 := hcells2 bm6; have Xf := X2 bm6; have Rf := Ra.below bm6; have q0 := Rf.box.c0; have q1 := Rf.box.c1; have q2 := Rf.box.c2; have p0 := Rf.box.f0; have p1 := Rf.box.f1; have p2 := Rf.box.f2))
        all_goals
          go_wp2
          have hR3 := Rf.box.set (.bool b6) (.slice x5 n5 y5) (.slice x6 n6 y6)
          have r0 := hR3.c0
          have r1 := hR3.c1
          have r2 := hR3.c2
          refine bodyPost_ret (v := .tuple #[.agg #[.bool b6, .slice x5 n5 y5, .slice x6 n6 y6], .int .i64 err]) (by simp [results, Tryz.results87, go_sem, r0, r1, r2]) rfl ?_
          exact (rform_done ga (by omega) Ra.lt bm6 hform).gives HP.out
      · have x0 := X.k0
        have hcells : ∀ {w' : World}, Below wb.heap.size wb w' → w'.cell? ⟨w.heap.size, 0, none⟩ = some (.bool bx) := fun hb => (X.below hb).k0
        have hne : w.heap.size + 1 ≠ w.heap.size := by omega
        go_wp2
        go_region_held3 (fun w' => w'.cell? ⟨w.heap.size, 0, none⟩ = some (.bool bx))
          (first | (go_keep; done) | exact tw | exact tw2 | exact (((Xf.box.apart (p := ⟨w.heap.size + 1, 0, none⟩) (by exact hne) _).apart (p := ⟨w.heap.size + 1, 1, none⟩) (by exact hne) _).apart (p := ⟨w.heap.size + 1, 2, none⟩) (by exact hne) _).c0)
          (first
            | (go_at_call 69; refine (one_any _).mono ?_; intro e we hm; obtain ⟨x2, y2, rfl, o3, bf⟩ := Makes.undrew hm; have tw := hcells bf; have t2 : Below wa.heap.size wa we := t1.trans (bf.mono t1.size))
            | (go_at_call 59; refine (limited_any (b := bx) (sg bx (wholeM true (val xn) (val xd))) 1 t2 (hqo.below bf (Nat.le_refl _)) (o3.mono t1.size) cq can_one (by simp) (by rw [one_val]; exact gI_one_right _) (by rw [one_val, HM.out])).mono ?_; intro e wf hm6; obtain ⟨bm6, b6, x5, n5, y5, x6, n6, y6, err, rfl, hform⟩ := hm6.form; have tw2 := hcells2 bm6; have Xf := X2 bm6; have Rf := Ra.below bm6; have q0 := Rf.box.c0; have q1 := Rf.box.c1; have q2 := Rf.box.c2; have p0 := Rf.box.f0; have p1 := Rf.box.f1; have p2 := Rf.box.f2))
        all_goals
          go_wp2
          have hR3 := Rf.box.set (.bool b6) (.slice x5 n5 y5) (.slice x6 n6 y6)
          have r0 := hR3.c0
          have r1 := hR3.c1
          have r2 := hR3.c2
          refine bodyPost_ret (v := .tuple #[.agg #[.bool b6, .slice x5 n5 y5, .slice x6 n6 y6], .int .i64 err]) (by simp [results, Tryz.results87, go_sem, r0, r1, r2]) rfl ?_
          exact (rform_done ga (by omega) Ra.lt bm6 hform).gives HP.out

set_option maxRecDepth 100000 in
set_option maxHeartbeats 3200000 in
theorem floor_rat (h1 : Rd w.heap.size w (.slice a1 xn.length c1) xn) (h2 : Rd w.heap.size w (.slice a2 xd.length c2) xd) :
    Calls Tryz.prog 39 #[.agg #[.bool bx, .slice a1 xn.length c1, .slice a2 xd.length c2]] w fun e w' => Gives w (RightP bx xn xd) (sg bx (val xn) / val xd) 1 e w' := by
  have X := nvar_new (b := bx) h1 h2
  have g := below_alloc w (.cells #[.bool bx, .slice a1 xn.length c1, .slice a2 xd.length c2] 25)
  have R := rvar_new (w.alloc (.cells #[.bool bx, .slice a1 xn.length c1, .slice a2 xd.length c2] 25))
  have ka := below_alloc (w.alloc (.cells #[.bool bx, .slice a1 xn.length c1, .slice a2 xd.length c2] 25)) (.cells #[.bool false, .slice none 0 0, .slice none 0 0] 25)
  rw [World.size_alloc] at R
  replace X := X.below ka
  replace g := g.trans (ka.mono g.size)
  clear ka h1 h2
  obtain ⟨x0, x1, x2⟩ := X.cells
  go_enter Tryz.func39, Tryz.ntmps39
  go_wp2_with fail
  clear x0 x1 x2
  generalize hA : (w.alloc (.cells #[.bool bx, .slice a1 xn.length c1, .slice a2 xd.length c2] 25)).alloc (.cells #[.bool false, .slice none 0 0, .slice none 0 0] 25) = v at *
  clear hA
  refine (whole_rat bx X.rn X.rd).mono ?_
  rintro e wa ⟨ka, b6, x5, n5, y5, x6, n6, y6, err, rfl, ho⟩
  have Ra := R.below ka
  have q0 := Ra.box.c0
  have q1 := Ra.box.c1
  have q2 := Ra.box.c2
  have p0 := Ra.box.f0
  have p1 := Ra.box.f1
  have p2 := Ra.box.f2
  go_wp2
  have hR3 := Ra.box.set (.bool b6) (.slice x5 n5 y5) (.slice x6 n6 y6)
  have r0 := hR3.c0
  have r1 := hR3.c1
  have r2 := hR3.c2
  refine bodyPost_ret (v := .tuple #[.agg #[.bool b6, .slice x5 n5 y5, .slice x6 n6 y6], .int .i64 err]) (by simp [results, Tryz.results39, go_sem, r0, r1, r2]) rfl ?_
  have hd := gives_done g (by omega) R.lt ka (Nat.le_refl _) ho
  by_cases hP : RightP bx xn xd
  · rw [floor_whole bx _ _ (right_pos hP).2 (right_pos hP).1] at hd
    exact hd
  · obtain ⟨k1, c, z1, n, z2, z3, m, z4, er, he, hO⟩ := hd
    refine ⟨k1, c, z1, n, z2, z3, m, z4, er, he, ?_⟩
    rcases hO.out with h | ⟨h, _⟩ | ⟨h, _⟩
    · exact Or.inl h
    · exact absurd h hP
    · exact absurd h hP
end
end Go.Proofs.YtidbebfendjnlaaGreatDoor

/- rat.OfInt at every int. -/
namespace Go.Proofs.YtidbebfendjnlaaGreatDoor
set_option linter.unusedVariables false
set_option linter.unusedSimpArgs false
open Go.RowKit

theorem of_can (n : Int) (h0 : 0 ≤ n) (h1 : n < 18446744073709551616) : can (tr [n % 4294967296, n / 4294967296]) ∧ val (tr [n % 4294967296, n / 4294967296]) = n ∧ (tr [n % 4294967296, n / 4294967296]).length ≤ 2 := by
  refine ⟨tr_can (fun x hx => by simp at hx; omega), ?_, ?_⟩
  · rw [val_tr]; simp [val]; omega
  · have := tr_length_le [n % 4294967296, n / 4294967296]
    simpa using this
theorem of_num (n : Int) (h0 : 0 ≤ n) (h1 : n < 18446744073709551616) (w : World) : Calls Tryz.prog 72 #[.int .u64 n] w fun e w' => ∃ ns, can ns ∧ Hid (val ns = n) ∧ ns.length ≤ 2 ∧ Makes w e w' ns := by
  refine (of_any n h0 h1 w).mono ?_
  intro e w' h
  have hc := of_can n h0 h1
  exact ⟨_, hc.1, hc.2.1, hc.2.2, h⟩

/-- A whole number as a number. -/
def WholeIs (k : Int) (b : Bool) (ns ds : List Int) : Prop := b = decide (k < 0) ∧ can ns ∧ val ns = (if k < 0 then -k else k) ∧ ns.length ≤ 2 ∧ ds = [1]
theorem WholeIs.right {k : Int} {b : Bool} {ns ds : List Int} (h : WholeIs k b ns ds) : RightP b ns ds := by
  obtain ⟨rfl, cn, vn, ln, rfl⟩ := h
  refine ⟨by omega, by simp, cn, can_one, ?_, by simp, by rw [one_val]; exact gI_one_right _⟩
  rintro ⟨hb, hz⟩
  rw [(can_zero cn).1 hz] at vn
  rw [decide_eq_true_iff] at hb
  rw [if_pos hb] at vn
  omega
theorem WholeIs.sg {k : Int} {b : Bool} {ns ds : List Int} (h : WholeIs k b ns ds) : sg b (val ns) = k ∧ val ds = 1 := by
  obtain ⟨rfl, cn, vn, ln, rfl⟩ := h
  refine ⟨?_, one_val⟩
  rw [vn]
  by_cases hk : k < 0
  · rw [decide_eq_true hk, if_pos hk]; simp [Go.Proofs.YtidbebfendjnlaaGreatDoor.sg]
  · rw [decide_eq_false hk, if_neg hk]; rfl
/-- A whole number's answer. -/
def WholeNum (w : World) (k : Int) (e : Ending) (w' : World) : Prop :=
  Below w.heap.size w w' ∧ ∃ b ns ds a1 c1 a2 c2, Hid (WholeIs k b ns ds) ∧ e = .returned (.agg #[.bool b, .slice a1 ns.length c1, .slice a2 ds.length c2]) ∧ Own w.heap.size w' (.slice a1 ns.length c1) ns ∧ Own w.heap.size w' (.slice a2 ds.length c2) ds

set_option maxRecDepth 100000 in
set_option maxHeartbeats 3200000 in
theorem ofInt_any (k : Int) (h0 : -9223372036854775808 ≤ k) (h1 : k < 9223372036854775808) (w : World) : Calls Tryz.prog 17 #[.int .i64 k] w fun e w' => WholeNum w k e w' := by
  have R := rvar_new w
  have g := below_alloc w (.cells #[.bool false, .slice none 0 0, .slice none 0 0] 25)
  go_enter Tryz.func17, Tryz.ntmps17
  by_cases hk : k < 0
  · have hkb : decide (k < 0) = true := decide_eq_true hk
    have hw : IntKind.u64.wrap (-IntKind.u64.wrap k) = -k := by rw [IntKind.wrap_u64, IntKind.wrap_u64]; omega
    go_wp2_with fail
    generalize hA : w.alloc (.cells #[.bool false, .slice none 0 0, .slice none 0 0] 25) = v at *
    clear hA
    refine (of_num (-k) (by omega) (by omega) _).mono ?_
    rintro e wa ⟨ns, cn, vn, ln, x1, y1, rfl, o1, ka⟩
    go_wp2_with fail
    refine (one_any _).mono ?_
    rintro e wb ⟨x2, y2, hb, o2, kb⟩
    obtain ⟨ds, hds⟩ : ∃ ds : List Int, ds = [1] := ⟨_, rfl⟩
    rw [← hds] at hb o2
    subst hb
    have HD : Hid (ds = [1]) := hds
    clear hds
    have t : Below v.heap.size v wb := ka.trans (kb.mono ka.size)
    have Rb := R.below t
    have q0 := Rb.box.c0
    have q1 := Rb.box.c1
    have q2 := Rb.box.c2
    have p0 := Rb.box.f0
    have p1 := Rb.box.f1
    have p2 := Rb.box.f2
    go_wp2
    have hR3 := Rb.box.set (.bool true) (.slice x1 ns.length y1) (.slice x2 ds.length y2)
    have r0 := hR3.c0
    have r1 := hR3.c1
    have r2 := hR3.c2
    refine bodyPost_ret (v := .agg #[.bool true, .slice x1 ns.length y1, .slice x2 ds.length y2]) (by simp [results, Tryz.results17, go_sem, r0, r1, r2]) rfl ?_
    exact ⟨Below.set3 (g.trans (t.mono g.size)) (Nat.le_refl _) _ _ _, true, ns, ds, x1, y1, x2, y2, ⟨hkb.symm, cn, by rw [vn.out, if_pos hk], ln, HD.out⟩, rfl, (Own.set3 (o1.below kb (Nat.le_refl _)) R.lt _ _ _).mono g.size, (Own.set3 (o2.mono ka.size) R.lt _ _ _).mono g.size⟩
  · have hkb : decide (k < 0) = false := decide_eq_false hk
    go_wp2_with fail
    generalize hA : w.alloc (.cells #[.bool false, .slice none 0 0, .slice none 0 0] 25) = v at *
    clear hA
    refine (of_num k (by omega) (by omega) _).mono ?_
    rintro e wa ⟨ns, cn, vn, ln, x1, y1, rfl, o1, ka⟩
    go_wp2_with fail
    refine (one_any _).mono ?_
    rintro e wb ⟨x2, y2, hb, o2, kb⟩
    obtain ⟨ds, hds⟩ : ∃ ds : List Int, ds = [1] := ⟨_, rfl⟩
    rw [← hds] at hb o2
    subst hb
    have HD : Hid (ds = [1]) := hds
    clear hds
    have t : Below v.heap.size v wb := ka.trans (kb.mono ka.size)
    have Rb := R.below t
    have q0 := Rb.box.c0
    have q1 := Rb.box.c1
    have q2 := Rb.box.c2
    have p0 := Rb.box.f0
    have p1 := Rb.box.f1
    have p2 := Rb.box.f2
    go_wp2
    have hR3 := Rb.box.set (.bool false) (.slice x1 ns.length y1) (.slice x2 ds.length y2)
    have r0 := hR3.c0
    have r1 := hR3.c1
    have r2 := hR3.c2
    refine bodyPost_ret (v := .agg #[.bool false, .slice x1 ns.length y1, .slice x2 ds.length y2]) (by simp [results, Tryz.results17, go_sem, r0, r1, r2]) rfl ?_
    exact ⟨Below.set3 (g.trans (t.mono g.size)) (Nat.le_refl _) _ _ _, false, ns, ds, x1, y1, x2, y2, ⟨hkb.symm, cn, by rw [vn.out, if_neg (by omega)], ln, HD.out⟩, rfl, (Own.set3 (o1.below kb (Nat.le_refl _)) R.lt _ _ _).mono g.size, (Own.set3 (o2.mono ka.size) R.lt _ _ _).mono g.size⟩
end Go.Proofs.YtidbebfendjnlaaGreatDoor

/- rat.powerOf. -/
namespace Go.Proofs.YtidbebfendjnlaaGreatDoor
set_option linter.unusedVariables false
set_option linter.unusedSimpArgs false
open Go.RowKit

theorem pow_huge (A : Int) (N : Nat) (hA : 2 ≤ A) (hN : 1024 ≤ N) : pw 32 ≤ A ^ N := by
  rw [pw_p2]
  have h1 : p2 (32 * 32) ≤ p2 N := p2_mono hN
  have h2 : (2 : Int) ^ N ≤ A ^ N := (pow_le_pow (by omega) hA N).1
  unfold p2 at *
  omega
theorem bits_small {A : Int} {b : Nat} (h : isBits A b) (hb : b < 2) : A = 0 ∨ A = 1 := by
  rcases h with ⟨rfl, _⟩ | ⟨h1, h2, h3⟩
  · exact Or.inl rfl
  · obtain rfl : b = 1 := by omega
    have e1 : p2 (1 - 1) = 1 := by decide
    have e2 : p2 1 = 2 := by decide
    omega
theorem bits_great {A : Int} {b : Nat} (h : isBits A b) (hb : ¬ b < 2) : 2 ≤ A := by
  rcases h with ⟨rfl, h⟩ | ⟨h1, h2, h3⟩
  · omega
  · have := p2_mono (j := 1) (k := b - 1) (by omega)
    have e2 : p2 1 = 2 := by decide
    omega
theorem pow_unit {A : Int} (h : A = 0 ∨ A = 1) (N : Nat) (hN : 0 < N) : A ^ N = A := by
  obtain ⟨k, rfl⟩ : ∃ k, N = k + 1 := ⟨N - 1, by omega⟩
  rcases h with rfl | rfl
  · rw [Int.pow_succ, Int.mul_zero]
  · exact one_pow' _
theorem one_lt_pw : (1 : Int) < pw 32 := by
  have := pw_mono (j := 1) (k := 32) (by omega)
  have e : pw 1 = 4294967296 := by decide
  omega

/-- What rat.powerOf answers. -/
def PowGives (w : World) (A : Int) (N : Nat) (e : Ending) (w' : World) : Prop :=
  Below w.heap.size w w' ∧ ((pw 32 ≤ A ^ N ∧ e = .returned (.tuple #[.slice none 0 0, .bool false])) ∨ (A ^ N < pw 32 ∧ ∃ zs a c, can zs ∧ val zs = A ^ N ∧ e = .returned (.tuple #[.slice a zs.length c, .bool true]) ∧ Own w.heap.size w' (.slice a zs.length c) zs))

set_option maxRecDepth 100000 in
set_option maxHeartbeats 3200000 in
theorem powerOf_any {B : Nat} {w : World} {a1 a2 : Option Addr} {c1 c2 : Nat} {xs ys : List Int} (ha : Rd B w (.slice a1 xs.length c1) xs) (hn : Rd B w (.slice a2 ys.length c2) ys) (hB : B ≤ w.heap.size) (cx : can xs) (lx : xs.length ≤ 32) (ly : ys.length ≤ 32) (hy : 0 < val ys) :
    Calls Tryz.prog 92 #[.slice a1 xs.length c1, .slice a2 ys.length c2] w fun e w' => PowGives w (val xs) (val ys).toNat e w' := by
  have HT : Hid (tr xs = xs) := can_inj (tr_can ha.lim) cx (val_tr xs)
  go_enter Tryz.func92, Tryz.ntmps92
  go_wp2_with fail
  refine (bits_any ha (by omega)).mono ?_
  rintro e w' ⟨b, rfl, hb, hbl, rfl⟩
  by_cases h2 : b < 2
  · have HE : Hid (val xs ^ (val ys).toNat = val xs ∧ val xs < pw 32) := by
      have h3 := bits_small hb h2
      have h4 := one_lt_pw
      exact ⟨pow_unit h3 _ (by omega), by omega⟩
    clear hb
    go_wp2_with fail
    refine (trim_rd ha (by omega)).mono ?_
    intro e wa hm
    rw [HT.out] at hm
    obtain ⟨a3, c3, rfl, o3, ka⟩ := hm
    go_wp2
    go_ret2
    exact ⟨ka, Or.inr ⟨by rw [HE.out.1]; exact HE.out.2, xs, a3, c3, cx, HE.out.1.symm, rfl, o3⟩⟩
  · have HA : Hid (2 ≤ val xs) := bits_great hb h2
    clear hb
    go_wp2_with fail
    refine (small_any hn (by omega)).mono ?_
    rintro e w' ⟨rfl, rfl⟩
    by_cases hs : val ys < 9223372036854775808
    · rw [smallV_lt hs]
      obtain ⟨n, en⟩ := Int.eq_ofNat_of_zero_le (Int.le_of_lt hy)
      have HN : Hid ((val ys).toNat = n) := by unfold Hid; rw [en]; exact Int.toNat_natCast n
      have hn9 : n < 9223372036854775808 := by omega
      rw [en]
      clear hs hy
      go_wp2_with fail
      refine (power_any n 32 ha hB (by omega) hn9 (by omega)).mono ?_
      rintro e wa ⟨ka, h3, h4⟩
      have HP : Hid ((pw 32 ≤ val xs ^ n → e = .returned (.tuple #[.slice none 0 0, .bool false])) ∧ (val xs ^ n < pw 32 → ∃ zs a c, can zs ∧ val zs = val xs ^ n ∧ e = .returned (.tuple #[.slice a zs.length c, .bool true]) ∧ Own w.heap.size wa (.slice a zs.length c) zs)) := ⟨h3, h4⟩
      clear h3 h4
      by_cases hf : val xs ^ n < pw 32
      · obtain ⟨zs, a3, c3, cz, vz, rfl, o3⟩ := HP.out.2 hf
        have HF : Hid (val xs ^ n < pw 32 ∧ val zs = val xs ^ n) := ⟨hf, vz⟩
        clear HP hf vz
        go_wp2
        go_ret2
        unfold PowGives
        rw [en, Int.toNat_natCast]
        exact ⟨ka, Or.inr ⟨HF.out.1, zs, a3, c3, cz, HF.out.2, rfl, o3⟩⟩
      · have hf' : pw 32 ≤ val xs ^ n := by omega
        obtain rfl := HP.out.1 hf'
        have HF : Hid (pw 32 ≤ val xs ^ n) := hf'
        clear HP hf hf'
        go_wp2
        go_ret2
        unfold PowGives
        rw [en, Int.toNat_natCast]
        exact ⟨ka, Or.inl ⟨HF.out, rfl⟩⟩
    · rw [smallV_ge (by omega)]
      have HF : Hid (pw 32 ≤ val xs ^ (val ys).toNat) := pow_huge _ _ HA.out (by omega)
      clear hs
      go_wp2
      go_ret2
      exact ⟨Below.refl _ _, Or.inl ⟨HF.out, rfl⟩⟩
end Go.Proofs.YtidbebfendjnlaaGreatDoor

/- Plain facts on how many sets of k things n things have. -/
namespace Go.Proofs.YtidbebfendjnlaaGreatDoor
set_option linter.unusedVariables false
set_option linter.unusedSimpArgs false

/-- How many sets of k things n things have. -/
def binom : Nat → Nat → Nat
  | _, 0 => 1
  | 0, _ + 1 => 0
  | n + 1, k + 1 => binom n k + binom n (k + 1)
theorem binom_zero (n : Nat) : binom n 0 = 1 := by cases n <;> rfl
theorem binom_succ (n k : Nat) : binom (n + 1) (k + 1) = binom n k + binom n (k + 1) := rfl
theorem binom_none (k : Nat) : binom 0 (k + 1) = 0 := rfl
theorem binom_lt {n : Nat} : ∀ {k : Nat}, n < k → binom n k = 0 := by
  induction n with
  | zero => intro k h; obtain ⟨j, rfl⟩ : ∃ j, k = j + 1 := ⟨k - 1, by omega⟩; rfl
  | succ n ih =>
    intro k h
    obtain ⟨j, rfl⟩ : ∃ j, k = j + 1 := ⟨k - 1, by omega⟩
    rw [binom_succ, ih (by omega), ih (by omega)]
theorem binom_absorb (n : Nat) : ∀ k, (k + 1) * binom (n + 1) (k + 1) = (n + 1) * binom n k := by
  induction n with
  | zero =>
    intro k
    cases k with
    | zero => rfl
    | succ k => rw [binom_succ, binom_none, binom_none]; simp
  | succ n ih =>
    intro k
    cases k with
    | zero =>
      have h := ih 0
      rw [binom_zero] at h
      rw [binom_succ, binom_zero]
      omega
    | succ j =>
      have h1 := ih j
      have h2 := ih (j + 1)
      rw [binom_succ (n + 1) (j + 1), Nat.mul_add, h2, Nat.add_mul (j + 1) 1, h1]
      have e : (n + 1) * binom n j + (n + 1) * binom n (j + 1) = (n + 1) * binom (n + 1) (j + 1) := by rw [binom_succ n j, Nat.mul_add]
      rw [Nat.add_mul (n + 1) 1]
      omega
theorem binom_sym (n : Nat) : ∀ a b, a + b = n → binom n a = binom n b := by
  induction n with
  | zero => 
    intro a b h
    have h1 : a = 0 ∧ b = 0 := by omega
    rw [h1.1, h1.2]
  | succ n ih =>
    intro a b h
    cases a with
    | zero =>
      obtain rfl : b = n + 1 := by omega
      rw [binom_zero, binom_succ, ih n 0 (by omega), binom_zero, binom_lt (by omega)]
    | succ a =>
      cases b with
      | zero =>
        obtain rfl : a = n := by omega
        rw [binom_zero, binom_succ, ih a 0 (by omega), binom_zero, binom_lt (by omega)]
      | succ b =>
        rw [binom_succ, binom_succ, ih a (b + 1) (by omega), ih (a + 1) b (by omega), Nat.add_comm]
theorem binom_le (n : Nat) : ∀ k, binom n k ≤ 2 ^ n := by
  induction n with
  | zero => intro k; cases k with | zero => exact Nat.le_refl _ | succ k => exact Nat.zero_le _
  | succ n ih =>
    intro k
    cases k with
    | zero => rw [binom_zero]; exact Nat.one_le_two_pow
    | succ k => rw [binom_succ, Nat.pow_succ]; have := ih k; have := ih (k + 1); omega
/-- From the sets of i things of m + i to those of one more of one more. -/
theorem binom_step (m i : Nat) : binom (m + i) i * (m + (i + 1)) = binom (m + (i + 1)) (i + 1) * (i + 1) := by
  have h := binom_absorb (m + i) i
  rw [Nat.mul_comm (binom (m + (i + 1)) (i + 1)), show m + (i + 1) = m + i + 1 by omega, h, Nat.mul_comm]
theorem binom_grow (m i : Nat) : binom (m + i) i ≤ binom (m + (i + 1)) (i + 1) := by
  rw [show m + (i + 1) = m + i + 1 by omega, binom_succ]
  omega
end Go.Proofs.YtidbebfendjnlaaGreatDoor

/- rat.choose. -/
namespace Go.Proofs.YtidbebfendjnlaaGreatDoor
set_option linter.unusedVariables false
set_option linter.unusedSimpArgs false
open Go.RowKit

theorem binom_mono (M : Nat) {j F : Nat} (h : j ≤ F) : binom (M + j) j ≤ binom (M + F) F := by
  induction F with
  | zero =>
    have hj : j = 0 := by omega
    rw [hj]
    exact Nat.le_refl _
  | succ F ih =>
    by_cases hj : j = F + 1
    · subst hj; exact Nat.le_refl _
    · exact Nat.le_trans (ih (by omega)) (binom_grow M F)

/-- Has a number at most 32 limbs, or more? (Said by name: the walk reckons a bare power.) -/
structure Fits (N : Nat) : Prop where
  is : (N : Int) < pw 32
structure Great (N : Nat) : Prop where
  is : pw 32 ≤ (N : Int)

/-- What rat.choose answers. -/
def Chooses (w : World) (N : Nat) (e : Ending) (w' : World) : Prop :=
  Below w.heap.size w w' ∧ ((pw 32 ≤ (N : Int) ∧ e = errOf 8) ∨ ((N : Int) < pw 32 ∧ ∃ zs ds a1 c1 a2 c2, can zs ∧ val zs = (N : Int) ∧ Hid (ds = [(1 : Int)]) ∧ e = .returned (.tuple #[.agg #[.bool false, .slice a1 zs.length c1, .slice a2 ds.length c2], .int .i64 0]) ∧ Own w.heap.size w' (.slice a1 zs.length c1) zs ∧ Own w.heap.size w' (.slice a2 ds.length c2) ds))

theorem one_num (w : World) : Calls Tryz.prog 69 #[] w fun e w' => ∃ ds a c, Hid (ds = [(1 : Int)]) ∧ e = .returned (.slice a ds.length c) ∧ Own w.heap.size w' (.slice a ds.length c) ds ∧ Below w.heap.size w w' :=
  (one_any w).mono (fun e w' ⟨a, c, he, ho, hb⟩ => ⟨[1], a, c, rfl, he, ho, hb⟩)

set_option maxRecDepth 100000 in
set_option maxHeartbeats 8000000 in
theorem choose_any {w : World} {a1 a2 : Option Addr} {c1 c2 : Nat} {fs ms : List Int} (h1 : Rd w.heap.size w (.slice a1 fs.length c1) fs) (h2 : Rd w.heap.size w (.slice a2 ms.length c2) ms) (l1 : fs.length ≤ 32) (l2 : ms.length ≤ 32) (F M : Nat) (hF : Hid (val fs = (F : Int))) (hM : Hid (val ms = (M : Int))) :
    Calls Tryz.prog 99 #[.slice a1 fs.length c1, .slice a2 ms.length c2] w fun e w' => Chooses w (binom (M + F) F) e w' := by
  have hFb : Fits F := by
    constructor
    have h5 := (val_bound h1.lim).2
    have h6 := pw_mono (j := fs.length) (k := 32) l1
    rw [hF.out] at h5
    omega
  have R := rvar_new w
  have g := below_alloc w (.cells #[.bool false, .slice none 0 0, .slice none 0 0] 25)
  go_enter Tryz.func99, Tryz.ntmps99
  go_wp2_with fail
  generalize hA : w.alloc (.cells #[.bool false, .slice none 0 0, .slice none 0 0] 25) = v at *
  clear hA
  refine (one_num _).mono ?_
  rintro e wa ⟨s0, p1, q1, HS0, rfl, os0, ka⟩
  go_wp2_with fail
  refine (one_num _).mono ?_
  rintro e wb ⟨i0, p2, q2, HI0, rfl, oi0, kb⟩
  have tb : Below v.heap.size v wb := ka.trans (kb.mono ka.size)
  have os1 : Own v.heap.size wb (.slice p1 s0.length q1) s0 := os0.below kb (Nat.le_refl _)
  have oi1 : Own v.heap.size wb (.slice p2 i0.length q2) i0 := oi0.mono ka.size
  have c0 : Hid (can s0 ∧ can i0 ∧ s0.length ≤ 32 ∧ i0.length ≤ 33 ∧ val s0 = 1 ∧ val i0 = 1) := by
    unfold Hid; rw [HS0.out, HI0.out]; exact ⟨can_one, can_one, by simp, by simp, one_val, one_val⟩
  go_wp2
  go_loopg [6, 7] F (fun gk sv iv wr => ∃ (j : Nat) (ss is : List Int) (a : Option Addr) (c : Nat) (a' : Option Addr) (c' : Nat), Hid (gk = F - j) ∧ sv = .slice a ss.length c ∧ iv = .slice a' is.length c' ∧ j ≤ F ∧ can ss ∧ can is ∧ Hid (val is = (j : Int) + 1 ∧ val ss = (binom (M + j) j : Int)) ∧ ss.length ≤ 32 ∧ is.length ≤ 33 ∧ Own v.heap.size wr (.slice a ss.length c) ss ∧ Own v.heap.size wr (.slice a' is.length c') is ∧ Below v.heap.size v wr)
  case atStart => exact ⟨0, s0, i0, p1, q1, p2, q2, rfl, rfl, rfl, Nat.zero_le _, c0.out.1, c0.out.2.1, ⟨by rw [c0.out.2.2.2.2.2]; rfl, by rw [c0.out.2.2.2.2.1, binom_zero]; rfl⟩, c0.out.2.2.1, c0.out.2.2.2.1, os1, oi1, tb⟩
  case round =>
    obtain ⟨j, ss, is, a, c, a', c', hgk, rfl, rfl, hj, cs, ci, HV, ls, li, os, oi, tr⟩ := hrel
    have gr : Below w.heap.size w wr := g.trans (tr.mono g.size)
    go_wp2_with fail
    refine (compare_bl oi.rd (h1.below gr)).mono ?_
    rintro e w1 ⟨rfl, k1⟩
    have t1 : Below v.heap.size v w1 := tr.trans (k1.mono tr.size)
    have g1 : Below w.heap.size w w1 := g.trans (t1.mono g.size)
    rw [HV.out.1, hF.out]
    by_cases hlt : j < F
    · have hc : cmpI ((j : Int) + 1) (F : Int) ≤ 0 := by unfold cmpI; split; omega; split <;> omega
      have os1 := os.below k1 (Nat.le_refl _)
      have oi1 := oi.below k1 (Nat.le_refl _)
      go_wp2_with fail
      refine (sum2 (h2.below g1) oi1.rd g1.size (Nat.le_refl _) (by omega) (by omega)).mono ?_
      rintro e w2 ⟨zs, cz, vz, lz, p3, q3, rfl, oz, k2⟩
      have t2 : Below v.heap.size v w2 := t1.trans (k2.mono t1.size)
      have HZ : Hid (val zs = (M : Int) + ((j : Int) + 1)) := by unfold Hid; rw [vz, hM.out, HV.out.1]
      clear vz
      have os2 := os1.below k2 (Nat.le_refl _)
      have oi2 := oi1.below k2 (Nat.le_refl _)
      go_wp2_with fail
      refine (prod2 os2.rd oz.rd (Nat.le_refl _) (Nat.le_refl _) (by omega) (by omega)).mono ?_
      rintro e w3 ⟨us, cu, vu, lu, p4, q4, rfl, ou, k3⟩
      have t3 : Below v.heap.size v w3 := t2.trans (k3.mono t2.size)
      have HU : Hid (val us = (binom (M + (j + 1)) (j + 1) : Int) * ((j : Int) + 1)) := by
        unfold Hid
        rw [vu, HV.out.2, HZ.out]
        have h5 := binom_step M j
        have h6 : ((binom (M + j) j * (M + (j + 1)) : Nat) : Int) = ((binom (M + (j + 1)) (j + 1) * (j + 1) : Nat) : Int) := by rw [h5]
        rw [Int.natCast_mul, Int.natCast_mul, Int.natCast_add, Int.natCast_add] at h6
        exact h6
      clear vu
      have oi3 := oi2.below k3 (Nat.le_refl _)
      go_wp2_with fail
      refine (divMod_any ou.rd (Nat.le_refl _) oi3.rd (Nat.le_refl _) (by rw [HV.out.1]; omega) (by omega) (by omega)).mono ?_
      rintro e w4 ⟨qs, rs, p5, q5, p6, q6, rfl, oq, or, cq, cr, hv, hl, lq, lr, k4⟩
      have t4 : Below v.heap.size v w4 := t3.trans (k4.mono t3.size)
      have HQ : Hid (val qs = (binom (M + (j + 1)) (j + 1) : Int)) := by
        unfold Hid
        have h5 := div_unique hv (val_bound cr.1).1 hl
        have h6 := div_unique (n := val us) (d := val is) (q := (binom (M + (j + 1)) (j + 1) : Int)) (r := 0) (by rw [HU.out, HV.out.1, Int.add_zero]) (by omega) (by rw [HV.out.1]; omega)
        rw [h5.1, h6.1]
      clear hv hl
      have oq4 : Own v.heap.size w4 (.slice p5 qs.length q5) qs := oq.mono t3.size
      have oi4 := oi3.below k4 (Nat.le_refl _)
      have g4 : Below w.heap.size w w4 := g.trans (t4.mono g.size)
      clear hc cz lz cu lu lq lr cr or oz ou os1 os2 oi1 oi2 oi3 os0 oi0
      by_cases hbig : 32 < qs.length
      · have HB : Great (binom (M + F) F) := by
          constructor
          have h5 : ¬ val qs < pw 32 := fun h => by have := (can_len_pw cq 32).2 h; omega
          have h6 := binom_mono M (show j + 1 ≤ F by omega)
          rw [HQ.out] at h5
          omega
        have R4 := R.below t4
        have q0 := R4.box.c0
        have q1' := R4.box.c1
        have q2' := R4.box.c2
        have p0 := R4.box.f0
        have p1' := R4.box.f1
        have p2' := R4.box.f2
        go_wp2
        have hR3 := R4.box.set (.bool false) (.slice none 0 0) (.slice none 0 0)
        have r0 := hR3.c0
        have r1 := hR3.c1
        have r2 := hR3.c2
        try simp only [Exit.inBlock, Exit.then]
        refine bodyPost_ret (v := .tuple #[.agg #[.bool false, .slice none 0 0, .slice none 0 0], .int .i64 8]) ?_ rfl ?_
        · simp [results, Tryz.results99, go_sem, r0, r1, r2]
        exact ⟨Below.set3 g4 (Nat.le_refl _) _ _ _, Or.inl ⟨HB.is, rfl⟩⟩
      · go_wp2_with fail
        refine (one_num _).mono ?_
        rintro e w5 ⟨ds, p7, q7, HD, rfl, od, k5⟩
        have t5 : Below v.heap.size v w5 := t4.trans (k5.mono t4.size)
        have oi5 := oi4.below k5 (Nat.le_refl _)
        have oq5 := oq4.below k5 (Nat.le_refl _)
        have ld : ds.length ≤ 1 := by rw [HD.out]; exact Nat.le_refl _
        go_wp2_with fail
        refine (sum2 oi5.rd od.rd (Nat.le_refl _) (Nat.le_refl _) (by omega) (by omega)).mono ?_
        rintro e w6 ⟨ts, ct, vt, lt', p8, q8, rfl, ot, k6⟩
        have t6 : Below v.heap.size v w6 := t5.trans (k6.mono t5.size)
        have HT : Hid (val ts = ((j + 1 : Nat) : Int) + 1) := by unfold Hid; rw [vt, HV.out.1, HD.out, one_val]; omega
        clear vt
        have lts : ts.length ≤ 33 := by
          have h5 : (F : Int) < pw 32 := hFb.is
          have h6 := pw_pos 32
          refine (can_len_pw ct (32 + 1)).2 ?_
          rw [HT.out, pw_succ]
          generalize pw 32 = Z at *
          omega
        have oq6 := oq5.below k6 (Nat.le_refl _)
        have ot6 : Own v.heap.size w6 (.slice p8 ts.length q8) ts := ot.mono t5.size
        go_wp2
        go_roundg (F - (j + 1))
        case rel => exact ⟨j + 1, qs, ts, p5, q5, p8, q8, rfl, rfl, rfl, by omega, cq, ct, ⟨HT.out, HQ.out⟩, by omega, lts, oq6, ot6, t6⟩
        case measure => rw [hgk.out]; omega
    · have hc : cmpI ((j : Int) + 1) (F : Int) = 1 := cmpI_gt (by omega)
      obtain rfl : j = F := by omega
      have R1 := R.below t1
      rw [hc]
      clear hc
      have os1 := os.below k1 (Nat.le_refl _)
      have HN : Fits (binom (M + j) j) := by constructor; rw [← HV.out.2]; exact (can_len_pw cs 32).1 ls
      go_wp2_with fail
      refine (one_num _).mono ?_
      rintro e w2 ⟨ds, p7, q7, HD, rfl, od, k2⟩
      have t2 : Below v.heap.size v w2 := t1.trans (k2.mono t1.size)
      have ld : ds.length ≤ 32 := by rw [HD.out]; simp
      have os2 := os1.below k2 (Nat.le_refl _)
      have od2 : Own v.heap.size w2 (.slice p7 ds.length q7) ds := od.mono t1.size
      go_wp2_with fail
      refine (limited_ok false a p7 ss.length c ds.length q7 _ ls ld).mono ?_
      rintro e w3 ⟨rfl, k3⟩
      have t3 : Below v.heap.size v w3 := t2.trans (k3.mono t2.size)
      have hbb : (false && decide (0 < ss.length)) = false := rfl
      rw [hbb]
      clear hbb
      have os3 := os2.below k3 (Nat.le_refl _)
      have od3 := od2.below k3 (Nat.le_refl _)
      have R3 := R.below t3
      have q0 := R3.box.c0
      have q1' := R3.box.c1
      have q2' := R3.box.c2
      have p0 := R3.box.f0
      have p1' := R3.box.f1
      have p2' := R3.box.f2
      go_wp2
      have hR3 := R3.box.set (.bool false) (.slice a ss.length c) (.slice p7 ds.length q7)
      have r0 := hR3.c0
      have r1 := hR3.c1
      have r2 := hR3.c2
      try simp only [Exit.inBlock, Exit.then]
      refine bodyPost_ret (v := .tuple #[.agg #[.bool false, .slice a ss.length c, .slice p7 ds.length q7], .int .i64 0]) ?_ rfl ?_
      · simp [results, Tryz.results99, go_sem, r0, r1, r2]
      exact ⟨Below.set3 (g.trans (t3.mono g.size)) (Nat.le_refl _) _ _ _, Or.inr ⟨HN.is, ss, ds, a, c, p7, q7, cs, HV.out.2, HD, rfl, (Own.set3 os3 R.lt _ _ _).mono g.size, (Own.set3 od3 R.lt _ _ _).mono g.size⟩⟩
end Go.Proofs.YtidbebfendjnlaaGreatDoor

/- rat.isCount. -/
namespace Go.Proofs.YtidbebfendjnlaaGreatDoor
set_option linter.unusedVariables false
set_option linter.unusedSimpArgs false
open Go.RowKit

/-- Is a right number whole and not below 0? -/
def IsCount (b : Bool) (ds : List Int) : Prop := ds = [1] ∧ b = false

set_option maxRecDepth 100000 in
set_option maxHeartbeats 1600000 in
theorem isCount_any {w : World} {b : Bool} {a1 a2 : Option Addr} {c1 c2 : Nat} {ns ds : List Int} (h1 : Rd w.heap.size w (.slice a1 ns.length c1) ns) (h2 : Rd w.heap.size w (.slice a2 ds.length c2) ds) :
    Calls Tryz.prog 94 #[.agg #[.bool b, .slice a1 ns.length c1, .slice a2 ds.length c2]] w fun e w' => TellsP (IsCount b ds) e ∧ Below w.heap.size w w' := by
  have X := nvar_new (b := b) h1 h2
  have g := below_alloc w (.cells #[.bool b, .slice a1 ns.length c1, .slice a2 ds.length c2] 25)
  obtain ⟨x0, x1, x2⟩ := X.cells
  go_enter Tryz.func94, Tryz.ntmps94
  go_wp2_with fail
  generalize hA : w.alloc (.cells #[.bool b, .slice a1 ns.length c1, .slice a2 ds.length c2] 25) = v at *
  clear hA
  refine (isOne_any X.rd).mono ?_
  rintro e w' ⟨rfl, rfl⟩
  by_cases hone : ds = [1]
  · have HO : Hid (ds = [1]) := hone
    rw [decide_eq_true hone]
    clear hone
    cases b with
    | false =>
      go_wp2
      go_ret
      exact ⟨TellsP.yes ⟨HO.out, rfl⟩, g⟩
    | true =>
      go_wp2
      go_ret
      exact ⟨TellsP.no (fun h => by cases h.2), g⟩
  · have HO : Hid (¬ ds = [1]) := hone
    rw [decide_eq_false hone]
    clear hone
    go_wp2
    go_ret
    exact ⟨TellsP.no (fun h => HO.out h.1), g⟩
end Go.Proofs.YtidbebfendjnlaaGreatDoor

/- rat.Binomial of two right whole numbers that are not below 0. -/
namespace Go.Proofs.YtidbebfendjnlaaGreatDoor
set_option linter.unusedVariables false
set_option linter.unusedSimpArgs false
open Go.RowKit

section
variable {w : World} {a1 a2 a3 a4 : Option Addr} {c1 c2 c3 c4 : Nat} {xn xd yn yd : List Int}
set_option maxRecDepth 100000 in
set_option maxHeartbeats 8000000 in
theorem binomial_any (h1 : Rd w.heap.size w (.slice a1 xn.length c1) xn) (h2 : Rd w.heap.size w (.slice a2 xd.length c2) xd) (h3 : Rd w.heap.size w (.slice a3 yn.length c3) yn) (h4 : Rd w.heap.size w (.slice a4 yd.length c4) yd) (PX : Hid (RightP false xn xd ∧ xd = [1])) (PY : Hid (RightP false yn yd ∧ yd = [1])) (k n : Nat) (hk : Hid (val xn = (k : Int))) (hn : Hid (val yn = (n : Int))) :
    Calls Tryz.prog 51 #[.agg #[.bool false, .slice a1 xn.length c1, .slice a2 xd.length c2], .agg #[.bool false, .slice a3 yn.length c3, .slice a4 yd.length c4]] w fun e w' => Chooses w (binom n k) e w' := by
  have I := in2_new w (.bool false) (.slice a1 xn.length c1) (.slice a2 xd.length c2) (.bool false) (.slice a3 yn.length c3) (.slice a4 yd.length c4)
  have l1 := PX.out.1.1
  have l3 := PY.out.1.1
  go_enter Tryz.func51, Tryz.ntmps51
  go_wp2_with fail
  generalize hA : ((((w.alloc (.cells #[.bool false, .slice a1 xn.length c1, .slice a2 xd.length c2] 25)).alloc (.cells #[.bool false, .slice a3 yn.length c3, .slice a4 yd.length c4] 25)).alloc (.cells #[.bool false, .slice none 0 0, .slice none 0 0] 25)).alloc (.cells #[.bool false, .slice a1 xn.length c1, .slice a2 xd.length c2, .bool false, .slice a3 yn.length c3, .slice a4 yd.length c4] 25)) = v0 at *
  clear hA
  obtain ⟨hX, hY, hR, hT, g, s0⟩ := I
  have X : NVar v0 w.heap.size false a1 xn c1 a2 xd c2 := ⟨by omega, hX, (h1.below g).mono g.size, (h2.below g).mono g.size⟩
  have Y : NVar v0 (w.heap.size + 1) false a3 yn c3 a4 yd c4 := ⟨by omega, hY, (h3.below g).mono g.size, (h4.below g).mono g.size⟩
  have R : RVar v0 (w.heap.size + 1 + 1) := ⟨by omega, hR⟩
  have s1 : w.heap.size ≤ w.heap.size + 1 + 1 := by omega
  clear hX hY hR h1 h2 h3 h4 s0
  refine (allRight2 hT X.rn X.rd Y.rn Y.rd (Nat.le_refl _)).mono ?_
  rintro e w0 ⟨⟨r, rfl, hr⟩, k0⟩
  replace X := X.below k0
  replace Y := Y.below k0
  replace R := R.below k0
  replace g := g.trans (k0.mono g.size)
  obtain rfl : r = true := hr.2 ⟨PX.out.1, PY.out.1⟩
  clear hr hT k0
  obtain ⟨X0, X1, X2⟩ := X.cells
  obtain ⟨Y0, Y1, Y2⟩ := Y.cells
  go_wp2_with fail
  clear X0 X1 X2 Y0 Y1 Y2
  refine (isCount_any X.rn X.rd).mono ?_
  rintro e w1 ⟨⟨r, rfl, hr⟩, k1⟩
  replace X := X.below k1
  replace Y := Y.below k1
  replace R := R.below k1
  replace g := g.trans (k1.mono g.size)
  obtain rfl : r = true := hr.2 ⟨PX.out.2, rfl⟩
  clear hr k1
  obtain ⟨X0, X1, X2⟩ := X.cells
  obtain ⟨Y0, Y1, Y2⟩ := Y.cells
  go_wp2_with fail
  clear X0 X1 X2 Y0 Y1 Y2
  refine (isCount_any Y.rn Y.rd).mono ?_
  rintro e w2 ⟨⟨r, rfl, hr⟩, k2⟩
  replace X := X.below k2
  replace Y := Y.below k2
  replace R := R.below k2
  replace g := g.trans (k2.mono g.size)
  obtain rfl : r = true := hr.2 ⟨PY.out.2, rfl⟩
  clear hr k2
  obtain ⟨X0, X1, X2⟩ := X.cells
  obtain ⟨Y0, Y1, Y2⟩ := Y.cells
  go_wp2_with fail
  clear X0 X1 X2 Y0 Y1 Y2
  refine (minus_any Y.rn (Nat.le_refl _) X.rn (Nat.le_refl _) (by omega)).mono ?_
  rintro e w3 ⟨⟨k3, hmin⟩, hmin0⟩
  replace X := X.below k3
  replace Y := Y.below k3
  replace R := R.below k3
  replace g := g.trans (k3.mono g.size)
  by_cases hlt : n < k
  · rw [if_pos (by rw [hk.out, hn.out]; omega)] at hmin
    subst hmin
    clear hmin0
    have HB : Hid (binom n k = 0) := binom_lt hlt
    have gk := g
    have Rk := R
    go_wp2_with fail
    refine (ofInt_any 0 (by omega) (by omega) _).mono ?_
    rintro e w4 ⟨k4, b1, ns, ds, x1, y1, x2, y2, HW, rfl, on, od⟩
    replace X := X.below k4
    replace Y := Y.below k4
    replace R := R.below k4
    replace g := g.trans (k4.mono g.size)
    obtain rfl : b1 = false := HW.out.1
    have HZ : Hid (can ns ∧ val ns = 0 ∧ ds = [1]) := ⟨HW.out.2.1, HW.out.2.2.1, HW.out.2.2.2.2⟩
    have HF : Fits 0 := ⟨by have := pw_pos 32; exact this⟩
    have q0 := R.box.c0
    have q1 := R.box.c1
    have q2 := R.box.c2
    have p0 := R.box.f0
    have p1 := R.box.f1
    have p2 := R.box.f2
    go_wp2
    have hR3 := R.box.set (.bool false) (.slice x1 ns.length y1) (.slice x2 ds.length y2)
    have r0 := hR3.c0
    have r1 := hR3.c1
    have r2 := hR3.c2
    refine bodyPost_ret (v := .tuple #[.agg #[.bool false, .slice x1 ns.length y1, .slice x2 ds.length y2], .int .i64 0]) (by simp [results, Tryz.results51, go_sem, r0, r1, r2]) rfl ?_
    rw [HB.out]
    exact ⟨Below.set3 g s1 _ _ _, Or.inr ⟨HF.is, ns, ds, x1, y1, x2, y2, HZ.out.1, HZ.out.2.1, HZ.out.2.2, rfl, (Own.set3 on Rk.lt _ _ _).mono gk.size, (Own.set3 od Rk.lt _ _ _).mono gk.size⟩⟩
  · clear hmin
    obtain ⟨zs, z1, z2, lz, cz, vz, rfl, oz⟩ := hmin0 (by rw [hk.out, hn.out]; omega)
    clear hmin0
    have HZ : Hid (val zs = ((n - k : Nat) : Int)) := by unfold Hid; rw [vz, hk.out, hn.out]; omega
    clear vz
    obtain ⟨X0, X1, X2⟩ := X.cells
    go_wp2_with fail
    clear X0 X1 X2
    refine (compare_bl X.rn oz.rd).mono ?_
    rintro e w4 ⟨rfl, k4⟩
    have oz4 := oz.below k4 (Nat.le_refl _)
    rw [hk.out, HZ.out]
    replace X := X.below k4
    replace Y := Y.below k4
    replace R := R.below k4
    replace g := g.trans (k4.mono g.size)
    have gk := g
    have Rk := R
    by_cases hlt2 : k < n - k
    · have hc : cmpI ((k : Nat) : Int) ((n - k : Nat) : Int) = -1 := cmpI_lt (by omega)
      rw [hc]
      clear hc
      have HE : Hid (binom (n - k + k) k = binom n k) := by unfold Hid; congr 1; omega
      obtain ⟨X0, X1, X2⟩ := X.cells
      go_wp2_with fail
      clear X0 X1 X2
      refine (choose_any X.rn oz4.rd (by omega) (by omega) k (n - k) hk HZ).mono ?_
      intro e w5 hch
      rw [HE.out] at hch
      obtain ⟨k5, ⟨hb, he⟩ | ⟨hb, us, ds, u1, u2, u3, u4, cu, vu, HD, rfl, ou, od⟩⟩ := hch
      · replace X := X.below k5
        replace Y := Y.below k5
        replace R := R.below k5
        replace g := g.trans (k5.mono g.size)
        unfold errOf at he
        subst he
        have HG : Great (binom n k) := ⟨hb⟩
        clear hb
        have q0 := R.box.c0
        have q1 := R.box.c1
        have q2 := R.box.c2
        have p0 := R.box.f0
        have p1 := R.box.f1
        have p2 := R.box.f2
        go_wp2
        have hR3 := R.box.set (.bool false) (.slice none 0 0) (.slice none 0 0)
        have r0 := hR3.c0
        have r1 := hR3.c1
        have r2 := hR3.c2
        refine bodyPost_ret (v := .tuple #[.agg #[.bool false, .slice none 0 0, .slice none 0 0], .int .i64 8]) (by simp [results, Tryz.results51, go_sem, r0, r1, r2]) rfl ?_
        exact ⟨Below.set3 g s1 _ _ _, Or.inl ⟨HG.is, rfl⟩⟩
      · replace X := X.below k5
        replace Y := Y.below k5
        replace R := R.below k5
        replace g := g.trans (k5.mono g.size)
        have HG : Fits (binom n k) := ⟨hb⟩
        have HV : Hid (val us = (binom n k : Int)) := vu
        clear hb vu
        have q0 := R.box.c0
        have q1 := R.box.c1
        have q2 := R.box.c2
        have p0 := R.box.f0
        have p1 := R.box.f1
        have p2 := R.box.f2
        go_wp2
        have hR3 := R.box.set (.bool false) (.slice u1 us.length u2) (.slice u3 ds.length u4)
        have r0 := hR3.c0
        have r1 := hR3.c1
        have r2 := hR3.c2
        refine bodyPost_ret (v := .tuple #[.agg #[.bool false, .slice u1 us.length u2, .slice u3 ds.length u4], .int .i64 0]) (by simp [results, Tryz.results51, go_sem, r0, r1, r2]) rfl ?_
        exact ⟨Below.set3 g s1 _ _ _, Or.inr ⟨HG.is, us, ds, u1, u2, u3, u4, cu, HV.out, HD, rfl, (Own.set3 ou Rk.lt _ _ _).mono gk.size, (Own.set3 od Rk.lt _ _ _).mono gk.size⟩⟩
    · have hc : cmpI ((k : Nat) : Int) ((n - k : Nat) : Int) = 0 ∨ cmpI ((k : Nat) : Int) ((n - k : Nat) : Int) = 1 := by
        unfold cmpI
        split
        · omega
        · split
          · exact Or.inl rfl
          · exact Or.inr rfl
      have hc2 : ¬ cmpI ((k : Nat) : Int) ((n - k : Nat) : Int) < 0 := by omega
      clear hc
      generalize cmpI ((k : Nat) : Int) ((n - k : Nat) : Int) = cc at *
      have HE : Hid (binom (k + (n - k)) (n - k) = binom n k) := by unfold Hid; rw [show k + (n - k) = n by omega]; exact binom_sym n (n - k) k (by omega)
      obtain ⟨X0, X1, X2⟩ := X.cells
      go_wp2_with fail
      clear X0 X1 X2
      refine (choose_any oz4.rd X.rn (by omega) (by omega) (n - k) k HZ hk).mono ?_
      intro e w5 hch
      rw [HE.out] at hch
      obtain ⟨k5, ⟨hb, he⟩ | ⟨hb, us, ds, u1, u2, u3, u4, cu, vu, HD, rfl, ou, od⟩⟩ := hch
      · replace X := X.below k5
        replace Y := Y.below k5
        replace R := R.below k5
        replace g := g.trans (k5.mono g.size)
        unfold errOf at he
        subst he
        have HG : Great (binom n k) := ⟨hb⟩
        clear hb
        have q0 := R.box.c0
        have q1 := R.box.c1
        have q2 := R.box.c2
        have p0 := R.box.f0
        have p1 := R.box.f1
        have p2 := R.box.f2
        go_wp2
        have hR3 := R.box.set (.bool false) (.slice none 0 0) (.slice none 0 0)
        have r0 := hR3.c0
        have r1 := hR3.c1
        have r2 := hR3.c2
        refine bodyPost_ret (v := .tuple #[.agg #[.bool false, .slice none 0 0, .slice none 0 0], .int .i64 8]) (by simp [results, Tryz.results51, go_sem, r0, r1, r2]) rfl ?_
        exact ⟨Below.set3 g s1 _ _ _, Or.inl ⟨HG.is, rfl⟩⟩
      · replace X := X.below k5
        replace Y := Y.below k5
        replace R := R.below k5
        replace g := g.trans (k5.mono g.size)
        have HG : Fits (binom n k) := ⟨hb⟩
        have HV : Hid (val us = (binom n k : Int)) := vu
        clear hb vu
        have q0 := R.box.c0
        have q1 := R.box.c1
        have q2 := R.box.c2
        have p0 := R.box.f0
        have p1 := R.box.f1
        have p2 := R.box.f2
        go_wp2
        have hR3 := R.box.set (.bool false) (.slice u1 us.length u2) (.slice u3 ds.length u4)
        have r0 := hR3.c0
        have r1 := hR3.c1
        have r2 := hR3.c2
        refine bodyPost_ret (v := .tuple #[.agg #[.bool false, .slice u1 us.length u2, .slice u3 ds.length u4], .int .i64 0]) (by simp [results, Tryz.results51, go_sem, r0, r1, r2]) rfl ?_
        exact ⟨Below.set3 g s1 _ _ _, Or.inr ⟨HG.is, us, ds, u1, u2, u3, u4, cu, HV.out, HD, rfl, (Own.set3 ou Rk.lt _ _ _).mono gk.size, (Own.set3 od Rk.lt _ _ _).mono gk.size⟩⟩
end
end Go.Proofs.YtidbebfendjnlaaGreatDoor

/- The document's numbers copied, turned, and without their sign. -/
namespace Go.Proofs.YtidbebfendjnlaaGreatDoor
set_option linter.unusedVariables false
set_option linter.unusedSimpArgs false
open Go.RowKit

/-- A number that is answered, in memory of its own. -/
def NumAns (w : World) (b : Bool) (ns ds : List Int) (e : Ending) (w' : World) : Prop :=
  Below w.heap.size w w' ∧ ∃ x1 y1 x2 y2, e = .returned (.agg #[.bool b, .slice x1 ns.length y1, .slice x2 ds.length y2]) ∧ Own w.heap.size w' (.slice x1 ns.length y1) ns ∧ Own w.heap.size w' (.slice x2 ds.length y2) ds

section
variable {w : World} {b : Bool} {a1 a2 : Option Addr} {c1 c2 : Nat} {ns ds : List Int}
theorem in1_new (w : World) (h1 : Rd w.heap.size w (.slice a1 ns.length c1) ns) (h2 : Rd w.heap.size w (.slice a2 ds.length c2) ds) :
    NVar ((w.alloc (.cells #[.bool b, .slice a1 ns.length c1, .slice a2 ds.length c2] 25)).alloc (.cells #[.bool false, .slice none 0 0, .slice none 0 0] 25)) w.heap.size b a1 ns c1 a2 ds c2 ∧ RVar ((w.alloc (.cells #[.bool b, .slice a1 ns.length c1, .slice a2 ds.length c2] 25)).alloc (.cells #[.bool false, .slice none 0 0, .slice none 0 0] 25)) (w.heap.size + 1) ∧ Below w.heap.size w ((w.alloc (.cells #[.bool b, .slice a1 ns.length c1, .slice a2 ds.length c2] 25)).alloc (.cells #[.bool false, .slice none 0 0, .slice none 0 0] 25)) := by
  have X := nvar_new (b := b) h1 h2
  have R := rvar_new (w.alloc (.cells #[.bool b, .slice a1 ns.length c1, .slice a2 ds.length c2] 25))
  have ka := below_alloc (w.alloc (.cells #[.bool b, .slice a1 ns.length c1, .slice a2 ds.length c2] 25)) (.cells #[.bool false, .slice none 0 0, .slice none 0 0] 25)
  rw [World.size_alloc] at R
  exact ⟨X.below ka, R, (below_alloc w _).alloc (by simp) _⟩

set_option maxRecDepth 100000 in
set_option maxHeartbeats 8000000 in
theorem refCopied_any (h1 : Rd w.heap.size w (.slice a1 ns.length c1) ns) (h2 : Rd w.heap.size w (.slice a2 ds.length c2) ds) (l1 : ns.length ≤ 10000) (l2 : ds.length ≤ 10000) (C : Hid (can ns ∧ can ds)) :
    Calls Tryz.prog 86 #[.agg #[.bool b, .slice a1 ns.length c1, .slice a2 ds.length c2]] w fun e w' => NumAns w b ns ds e w' := by
  have t1 : Hid (tr ns = ns) := can_inj (tr_can h1.lim) C.out.1 (val_tr ns)
  have t2 : Hid (tr ds = ds) := can_inj (tr_can h2.lim) C.out.2 (val_tr ds)
  obtain ⟨X, R, g⟩ := in1_new (b := b) w h1 h2
  have s1 : w.heap.size ≤ w.heap.size + 1 := by omega
  go_enter Tryz.func86, Tryz.ntmps86
  go_wp2
  generalize hA : (w.alloc (.cells #[.bool b, .slice a1 ns.length c1, .slice a2 ds.length c2] 25)).alloc (.cells #[.bool false, .slice none 0 0, .slice none 0 0] 25) = v at *
  clear hA
  have hcells : ∀ {w' : World}, Below v.heap.size v w' → w'.cell? ⟨w.heap.size, 0, none⟩ = some (.bool b) ∧ w'.cell? ⟨w.heap.size, 1, none⟩ = some (.slice a1 ns.length c1) ∧ w'.cell? ⟨w.heap.size, 2, none⟩ = some (.slice a2 ds.length c2) := fun hb => (X.below hb).cells
  obtain ⟨X0, X1, X2⟩ := X.cells
  have d1 : Rd v.heap.size v.drew (.slice a1 ns.length c1) ns := X.rn
  have hn : w.heap.size ≠ w.heap.size + 1 := by omega
  go_region_held3 (fun w' => w'.cell? ⟨w.heap.size, 0, none⟩ = some (.bool b) ∧ w'.cell? ⟨w.heap.size, 1, none⟩ = some (.slice a1 ns.length c1) ∧ w'.cell? ⟨w.heap.size, 2, none⟩ = some (.slice a2 ds.length c2))
    (first | (go_keep; done) | exact tw | exact tw2 | exact tws)
    (first
      | (go_at_call_of 60 (Value.slice a1 ns.length c1); refine (refTrim_rd d1 (by omega)).mono ?_; intro e wa hm; rw [t1.out] at hm; obtain ⟨x1, y1, rfl, o1, ba⟩ := Makes.undrew hm; have tw := hcells ba; have e2 := (X.below ba).rd)
      | (have j := ba; go_at_call_of 60 (Value.slice a2 ds.length c2); refine (refTrim_rd e2 (by omega)).mono ?_; intro e wb hm; rw [t2.out] at hm; obtain ⟨x2, y2, rfl, o2, bb⟩ := hm; have bPb := ba.trans (bb.mono ba.size); have tw2 := hcells bPb; have XB := (X.below bPb).box; have RB := R.below bPb; have tws := And.intro (XB.other hn (.bool b) (.slice x1 ns.length y1) (.slice x2 ds.length y2)).c0 (And.intro (XB.other hn (.bool b) (.slice x1 ns.length y1) (.slice x2 ds.length y2)).c1 (XB.other hn (.bool b) (.slice x1 ns.length y1) (.slice x2 ds.length y2)).c2); have q0 := RB.box.c0; have q1 := RB.box.c1; have q2 := RB.box.c2; have p0 := RB.box.f0; have p1 := RB.box.f1; have p2 := RB.box.f2))
  all_goals
    have o1c : Own v.heap.size wb (.slice x1 ns.length y1) ns := o1.below bb (Nat.le_refl _)
    have o2c : Own v.heap.size wb (.slice x2 ds.length y2) ds := o2.mono ba.size
    go_wp2
    have hR3 := RB.box.set (.bool b) (.slice x1 ns.length y1) (.slice x2 ds.length y2)
    have r0 := hR3.c0
    have r1 := hR3.c1
    have r2 := hR3.c2
    refine bodyPost_ret (v := .agg #[.bool b, .slice x1 ns.length y1, .slice x2 ds.length y2]) (by simp [results, Tryz.results86, go_sem, r0, r1, r2]) rfl ?_
    exact ⟨Below.set3 (g.trans (bPb.mono g.size)) s1 _ _ _, x1, y1, x2, y2, rfl, (Own.set3 o1c R.lt _ _ _).mono g.size, (Own.set3 o2c R.lt _ _ _).mono g.size⟩
end
end Go.Proofs.YtidbebfendjnlaaGreatDoor

/- Answers in one form; a variable of a number is given another number. -/
namespace Go.Proofs.YtidbebfendjnlaaGreatDoor
set_option linter.unusedVariables false
set_option linter.unusedSimpArgs false
open Go.RowKit

/-- What is told of N by D, where P is asked: an error, or the number. -/
def OutSpec (P : Prop) (N D : Int) (b : Bool) (ns ds : List Int) (err : Int) : Prop :=
  (¬ P ∧ err = 22 ∧ b = false ∧ ns = [] ∧ ds = []) ∨ (P ∧ err = 8 ∧ b = false ∧ ns = [] ∧ ds = [] ∧ Big N D) ∨ (P ∧ err = 0 ∧ RightP b ns ds ∧ sg b (val ns) * D = N * val ds)
theorem OutSpec.unique {P : Prop} {N D : Int} {b c : Bool} {ns ds ms es : List Int} {e f : Int} (hD : P → 0 < D) (h : OutSpec P N D b ns ds e) (k : OutSpec P N D c ms es f) : c = b ∧ ms = ns ∧ es = ds ∧ f = e := by
  rcases h with ⟨hp, rfl, rfl, rfl, rfl⟩ | ⟨hp, rfl, rfl, rfl, rfl, hb⟩ | ⟨hp, rfl, hr, hv⟩ <;> rcases k with ⟨kp, rfl, rfl, rfl, rfl⟩ | ⟨kp, rfl, rfl, rfl, rfl, kb⟩ | ⟨kp, rfl, kr, kv⟩
  · exact ⟨rfl, rfl, rfl, rfl⟩
  · exact absurd kp hp
  · exact absurd kp hp
  · exact absurd hp kp
  · exact ⟨rfl, rfl, rfl, rfl⟩
  · exact absurd hb (not_big kr kv (hD hp))
  · exact absurd hp kp
  · exact absurd kb (not_big hr hv (hD hp))
  · obtain ⟨rfl, rfl, rfl⟩ := right_is hr hv (hD hp) kr kv
    exact ⟨rfl, rfl, rfl, rfl⟩
theorem Gives.spec {w w' : World} {P : Prop} {N D : Int} {e : Ending} (h : Gives w P N D e w') : ∃ b ns ds err, Hid (OutSpec P N D b ns ds err) ∧ RAns w b ns ds err e w' := by
  obtain ⟨hb, b, x1, n, y1, x2, m, y2, err, rfl, hO⟩ := h
  rcases hO.out with ⟨hp, rfl, rfl, rfl, rfl, rfl, rfl, rfl, rfl⟩ | ⟨hp, rfl, rfl, rfl, rfl, rfl, rfl, rfl, rfl, hbig⟩ | ⟨hp, rfl, ns, ds, rfl, rfl, on, od, hr, hv⟩
  · exact ⟨false, [], [], 22, Or.inl ⟨hp, rfl, rfl, rfl, rfl⟩, hb, none, 0, none, 0, rfl, nil_rd _, nil_rd _⟩
  · exact ⟨false, [], [], 8, Or.inr (Or.inl ⟨hp, rfl, rfl, rfl, rfl, hbig⟩), hb, none, 0, none, 0, rfl, nil_rd _, nil_rd _⟩
  · exact ⟨b, ns, ds, 0, Or.inr (Or.inr ⟨hp, rfl, hr, hv⟩), hb, x1, y1, x2, y2, rfl, on.rd, od.rd⟩
/-- Two answers of the same: the second one has the first one's numbers. -/
theorem Gives.same {w w' : World} {P : Prop} {N D : Int} {e : Ending} {b : Bool} {ns ds : List Int} {err : Int} (hD : P → 0 < D) (HS : Hid (OutSpec P N D b ns ds err)) (h : Gives w P N D e w') : RAns w b ns ds err e w' := by
  obtain ⟨c, ms, es, f, HK, hr⟩ := h.spec
  obtain ⟨rfl, rfl, rfl, rfl⟩ := OutSpec.unique hD HS.out HK.out
  exact hr
theorem Gives.of {w w' : World} {P : Prop} {N D M E : Int} {e : Ending} (h : Gives w P N D e w') (hE : P → M = N ∧ E = D) : Gives w P M E e w' := by
  obtain ⟨k1, c, z1, n, z2, z3, m, z4, er, he, hO⟩ := h
  refine ⟨k1, c, z1, n, z2, z3, m, z4, er, he, ?_⟩
  rcases hO.out with h | ⟨h, h2⟩ | ⟨h, h2⟩
  · exact Or.inl h
  · obtain ⟨rfl, rfl⟩ := hE h; exact Or.inr (Or.inl ⟨h, h2⟩)
  · obtain ⟨rfl, rfl⟩ := hE h; exact Or.inr (Or.inr ⟨h, h2⟩)

section
variable {w : World} {b c : Bool} {a1 a2 a3 a4 : Option Addr} {c1 c2 c3 c4 : Nat} {ns ds ms es : List Int} {j k ty : Nat} {x1 x2 : Option Addr} {n1 n2 m1 m2 : Nat}
theorem cell_set3 (h : j ≠ k) (o : Nat) (x y z : Value) : (((w.setCell ⟨k, 0, none⟩ x).setCell ⟨k, 1, none⟩ y).setCell ⟨k, 2, none⟩ z).cell? ⟨j, o, none⟩ = w.cell? ⟨j, o, none⟩ := by
  have hne : ¬ k = j := fun e => h e.symm
  simp [World.setCell, World.cell?, Array.getElem?_modify, hne]
theorem Rd.put {B : Nat} {v : Value} {xs : List Int} (h : Rd B w v xs) (hk : Box3 w k ty (.bool b) (.slice x1 n1 m1) (.slice x2 n2 m2)) (x y z : Value) : Rd B (((w.setCell ⟨k, 0, none⟩ x).setCell ⟨k, 1, none⟩ y).setCell ⟨k, 2, none⟩ z) v xs := by
  obtain ⟨hl, a, cap, hv, h1, h2, h3, h4⟩ := h
  refine ⟨hl, a, cap, hv, h1, h2, h3, ?_⟩
  rcases h4 with h4 | ⟨b', off, ha, hb, hc⟩
  · exact Or.inl h4
  · by_cases h0 : xs.length = 0
    · exact Or.inl h0
    · refine Or.inr ⟨b', off, ha, hb, fun i hi => ?_⟩
      rw [cell_set3 ?_]
      · exact hc i hi
      · rintro rfl
        have h5 := hc 0 (by omega)
        unfold Box3 at hk
        rw [Nat.add_zero] at h5
        match off, h5 with
        | 0, h5 => simp [World.cell?, hk] at h5
        | 1, h5 => simp [World.cell?, hk] at h5
        | 2, h5 => simp [World.cell?, hk] at h5
        | o + 3, h5 => simp [World.cell?, hk] at h5
theorem NVar.put (P : NVar w k b a1 ns c1 a2 ds c2) (h1 : Rd w.heap.size w (.slice a3 ms.length c3) ms) (h2 : Rd w.heap.size w (.slice a4 es.length c4) es) :
    NVar (((w.setCell ⟨k, 0, none⟩ (.bool c)).setCell ⟨k, 1, none⟩ (.slice a3 ms.length c3)).setCell ⟨k, 2, none⟩ (.slice a4 es.length c4)) k c a3 ms c3 a4 es c4 := by
  have szz : (((w.setCell ⟨k, 0, none⟩ (.bool c)).setCell ⟨k, 1, none⟩ (.slice a3 ms.length c3)).setCell ⟨k, 2, none⟩ (.slice a4 es.length c4)).heap.size = w.heap.size := by simp [World.setCell]
  refine ⟨by rw [szz]; exact P.lt, P.box.set _ _ _, ?_, ?_⟩
  · rw [szz]; exact h1.put P.box _ _ _
  · rw [szz]; exact h2.put P.box _ _ _
theorem NVar.by' (X : NVar w j b a1 ns c1 a2 ds c2) (P : NVar w k c a3 ms c3 a4 es c4) (h : j ≠ k) (x y z : Value) : NVar (((w.setCell ⟨k, 0, none⟩ x).setCell ⟨k, 1, none⟩ y).setCell ⟨k, 2, none⟩ z) j b a1 ns c1 a2 ds c2 := by
  have szz : (((w.setCell ⟨k, 0, none⟩ x).setCell ⟨k, 1, none⟩ y).setCell ⟨k, 2, none⟩ z).heap.size = w.heap.size := by simp [World.setCell]
  refine ⟨by rw [szz]; exact X.lt, X.box.other h _ _ _, ?_, ?_⟩
  · rw [szz]; exact X.rn.put P.box _ _ _
  · rw [szz]; exact X.rd.put P.box _ _ _
end
end Go.Proofs.YtidbebfendjnlaaGreatDoor

/- rat.Neg, Abs, Ceil. -/
namespace Go.Proofs.YtidbebfendjnlaaGreatDoor
set_option linter.unusedVariables false
set_option linter.unusedSimpArgs false
open Go.RowKit

/-- A right number with another sign is right. -/
theorem right_with {b : Bool} {ns ds : List Int} (c : Bool) (h : RightP b ns ds) : RightP (c && decide (0 < ns.length)) ns ds ∧ sg (c && decide (0 < ns.length)) (val ns) = sg c (val ns) := by
  obtain ⟨l1, l2, c1, c2, hb, hd, hg⟩ := h
  by_cases h0 : ns.length = 0
  · have hv := (can_zero c1).1 h0
    have hf : (c && decide (0 < ns.length)) = false := by rw [h0]; simp
    rw [hf]
    refine ⟨⟨l1, l2, c1, c2, ?_, hd, hg⟩, ?_⟩
    · rintro ⟨h, _⟩; cases h
    · rw [hv, sg_zero, sg_zero]
  · have hf : (c && decide (0 < ns.length)) = c := by rw [decide_eq_true (by omega)]; simp
    rw [hf]
    exact ⟨⟨l1, l2, c1, c2, fun h => h0 h.2, hd, hg⟩, rfl⟩
theorem sg_neg (b : Bool) (x : Int) : sg b (-x) = -(sg b x) := by unfold sg; cases b <;> simp
theorem ceil_whole (b : Bool) (n d : Int) (hn : 0 ≤ n) (hd : 0 < d) : sg b (wholeM (!b) n d) = -((-(sg b n)) / d) := by
  have h := floor_whole (!b) n d hn hd
  rw [sg_not, sg_not] at h
  omega
theorem big_neg {N D : Int} (h : Big N D) : Big (-N) D := by
  obtain ⟨b, ns, ds, h1, h2, h3, h4, h5, h6⟩ := h
  exact ⟨!b, ns, ds, h1, h2, h3, h4, by rw [sg_not, Int.neg_mul, Int.neg_mul, h5], h6⟩
/-- A right number is told. -/
theorem gives_num {w wF : World} {P : Prop} {N D : Int} {b : Bool} {ns ds : List Int} {x1 x2 : Option Addr} {y1 y2 : Nat} (hP : P) (hb : Below w.heap.size w wF) (on : Own w.heap.size wF (.slice x1 ns.length y1) ns) (od : Own w.heap.size wF (.slice x2 ds.length y2) ds) (hr : RightP b ns ds) (hv : sg b (val ns) * D = N * val ds) :
    Gives w P N D (.returned (.tuple #[.agg #[.bool b, .slice x1 ns.length y1, .slice x2 ds.length y2], .int .i64 0])) wF :=
  ⟨hb, b, x1, ns.length, y1, x2, ds.length, y2, 0, rfl, Or.inr (Or.inr ⟨hP, rfl, ns, ds, rfl, rfl, on, od, hr, hv⟩)⟩

section
variable {w : World} {b : Bool} {a1 a2 : Option Addr} {c1 c2 : Nat} {ns ds : List Int}
set_option maxRecDepth 100000 in
set_option maxHeartbeats 8000000 in
theorem neg_rat (h1 : Rd w.heap.size w (.slice a1 ns.length c1) ns) (h2 : Rd w.heap.size w (.slice a2 ds.length c2) ds) :
    Calls Tryz.prog 33 #[.agg #[.bool b, .slice a1 ns.length c1, .slice a2 ds.length c2]] w fun e w' => Gives w (RightP b ns ds) (-(sg b (val ns))) (val ds) e w' := by
  obtain ⟨X, R, g⟩ := in1_new (b := b) w h1 h2
  have s0 : w.heap.size ≤ w.heap.size + 1 := by omega
  clear h1 h2
  obtain ⟨x0, x1, x2⟩ := X.cells
  go_enter Tryz.func33, Tryz.ntmps33
  go_wp2_with fail
  clear x0 x1 x2
  generalize hA : (w.alloc (.cells #[.bool b, .slice a1 ns.length c1, .slice a2 ds.length c2] 25)).alloc (.cells #[.bool false, .slice none 0 0, .slice none 0 0] 25) = v at *
  clear hA
  refine (right_rat X.rn X.rd (Nat.le_refl _)).mono ?_
  rintro e wa ⟨⟨r, rfl, hr⟩, ka⟩
  replace X := X.below ka
  replace R := R.below ka
  replace g := g.trans (ka.mono g.size)
  clear ka
  cases r with
  | false =>
    have HP : Hid (¬ RightP b ns ds) := fun h => by have := hr.2 h; cases this
    clear hr
    have q0 := R.box.c0
    have q1 := R.box.c1
    have q2 := R.box.c2
    have p0 := R.box.f0
    have p1 := R.box.f1
    have p2 := R.box.f2
    go_wp2
    have hR3 := R.box.set (.bool false) (.slice none 0 0) (.slice none 0 0)
    have r0 := hR3.c0
    have r1 := hR3.c1
    have r2 := hR3.c2
    refine bodyPost_ret (v := .tuple #[.agg #[.bool false, .slice none 0 0, .slice none 0 0], .int .i64 22]) (by simp [results, Tryz.results33, go_sem, r0, r1, r2]) rfl ?_
    exact gives_err HP.out (Below.set3 g s0 _ _ _)
  | true =>
    have HP : Hid (RightP b ns ds) := hr.1 rfl
    clear hr
    obtain ⟨x0, x1, x2⟩ := X.cells
    go_wp2_with fail
    clear x0 x1 x2
    refine (withSign_rat (b := (!b)) X.rn X.rd (Nat.le_refl _) HP.out).mono ?_
    rintro e wb ⟨kb, z1, y1, z2, y2, he, on, od⟩
    have HB := right_with (!b) HP.out
    skip
    subst he
    have R' := R
    replace R := R.below kb
    replace g := g.trans (kb.mono g.size)
    have q0 := R.box.c0
    have q1 := R.box.c1
    have q2 := R.box.c2
    have p0 := R.box.f0
    have p1 := R.box.f1
    have p2 := R.box.f2
    go_wp2
    have hR3 := R.box.set (.bool ((!b) && decide (0 < ns.length))) (.slice z1 ns.length y1) (.slice z2 ds.length y2)
    have r0 := hR3.c0
    have r1 := hR3.c1
    have r2 := hR3.c2
    refine bodyPost_ret (v := .tuple #[.agg #[.bool ((!b) && decide (0 < ns.length)), .slice z1 ns.length y1, .slice z2 ds.length y2], .int .i64 0]) (by simp [results, Tryz.results33, go_sem, r0, r1, r2]) rfl ?_
    exact gives_num HP.out (Below.set3 g s0 _ _ _) ((Own.set3 on R'.lt _ _ _).mono (Nat.le_trans s0 (Nat.le_of_lt R'.lt))) ((Own.set3 od R'.lt _ _ _).mono (Nat.le_trans s0 (Nat.le_of_lt R'.lt))) HB.1 (by rw [HB.2, sg_not])
set_option maxRecDepth 100000 in
set_option maxHeartbeats 8000000 in
theorem abs_rat (h1 : Rd w.heap.size w (.slice a1 ns.length c1) ns) (h2 : Rd w.heap.size w (.slice a2 ds.length c2) ds) :
    Calls Tryz.prog 35 #[.agg #[.bool b, .slice a1 ns.length c1, .slice a2 ds.length c2]] w fun e w' => Gives w (RightP b ns ds) (val ns) (val ds) e w' := by
  obtain ⟨X, R, g⟩ := in1_new (b := b) w h1 h2
  have s0 : w.heap.size ≤ w.heap.size + 1 := by omega
  clear h1 h2
  obtain ⟨x0, x1, x2⟩ := X.cells
  go_enter Tryz.func35, Tryz.ntmps35
  go_wp2_with fail
  clear x0 x1 x2
  generalize hA : (w.alloc (.cells #[.bool b, .slice a1 ns.length c1, .slice a2 ds.length c2] 25)).alloc (.cells #[.bool false, .slice none 0 0, .slice none 0 0] 25) = v at *
  clear hA
  refine (right_rat X.rn X.rd (Nat.le_refl _)).mono ?_
  rintro e wa ⟨⟨r, rfl, hr⟩, ka⟩
  replace X := X.below ka
  replace R := R.below ka
  replace g := g.trans (ka.mono g.size)
  clear ka
  cases r with
  | false =>
    have HP : Hid (¬ RightP b ns ds) := fun h => by have := hr.2 h; cases this
    clear hr
    have q0 := R.box.c0
    have q1 := R.box.c1
    have q2 := R.box.c2
    have p0 := R.box.f0
    have p1 := R.box.f1
    have p2 := R.box.f2
    go_wp2
    have hR3 := R.box.set (.bool false) (.slice none 0 0) (.slice none 0 0)
    have r0 := hR3.c0
    have r1 := hR3.c1
    have r2 := hR3.c2
    refine bodyPost_ret (v := .tuple #[.agg #[.bool false, .slice none 0 0, .slice none 0 0], .int .i64 22]) (by simp [results, Tryz.results35, go_sem, r0, r1, r2]) rfl ?_
    exact gives_err HP.out (Below.set3 g s0 _ _ _)
  | true =>
    have HP : Hid (RightP b ns ds) := hr.1 rfl
    clear hr
    obtain ⟨x0, x1, x2⟩ := X.cells
    go_wp2_with fail
    clear x0 x1 x2
    refine (withSign_rat (b := false) X.rn X.rd (Nat.le_refl _) HP.out).mono ?_
    rintro e wb ⟨kb, z1, y1, z2, y2, he, on, od⟩
    have HB := right_with false HP.out
    rw [Bool.false_and] at he HB
    subst he
    have R' := R
    replace R := R.below kb
    replace g := g.trans (kb.mono g.size)
    have q0 := R.box.c0
    have q1 := R.box.c1
    have q2 := R.box.c2
    have p0 := R.box.f0
    have p1 := R.box.f1
    have p2 := R.box.f2
    go_wp2
    have hR3 := R.box.set (.bool false) (.slice z1 ns.length y1) (.slice z2 ds.length y2)
    have r0 := hR3.c0
    have r1 := hR3.c1
    have r2 := hR3.c2
    refine bodyPost_ret (v := .tuple #[.agg #[.bool false, .slice z1 ns.length y1, .slice z2 ds.length y2], .int .i64 0]) (by simp [results, Tryz.results35, go_sem, r0, r1, r2]) rfl ?_
    exact gives_num HP.out (Below.set3 g s0 _ _ _) ((Own.set3 on R'.lt _ _ _).mono (Nat.le_trans s0 (Nat.le_of_lt R'.lt))) ((Own.set3 od R'.lt _ _ _).mono (Nat.le_trans s0 (Nat.le_of_lt R'.lt))) HB.1 (by rw [sg_false])
set_option maxRecDepth 100000 in
set_option maxHeartbeats 8000000 in
theorem ceil_rat (h1 : Rd w.heap.size w (.slice a1 ns.length c1) ns) (h2 : Rd w.heap.size w (.slice a2 ds.length c2) ds) :
    Calls Tryz.prog 37 #[.agg #[.bool b, .slice a1 ns.length c1, .slice a2 ds.length c2]] w fun e w' => Gives w (RightP b ns ds) (-((-(sg b (val ns))) / val ds)) 1 e w' := by
  obtain ⟨X, R, g⟩ := in1_new (b := b) w h1 h2
  have s0 : w.heap.size ≤ w.heap.size + 1 := by omega
  clear h1 h2
  obtain ⟨x0, x1, x2⟩ := X.cells
  go_enter Tryz.func37, Tryz.ntmps37
  go_wp2_with fail
  clear x0 x1 x2
  generalize hA : (w.alloc (.cells #[.bool b, .slice a1 ns.length c1, .slice a2 ds.length c2] 25)).alloc (.cells #[.bool false, .slice none 0 0, .slice none 0 0] 25) = v at *
  clear hA
  refine (whole_rat (!b) X.rn X.rd).mono ?_
  rintro e wa ⟨ka, b6, x5, n5, y5, x6, n6, y6, err, rfl, ho⟩
  have Ra := R.below ka
  have q0 := Ra.box.c0
  have q1 := Ra.box.c1
  have q2 := Ra.box.c2
  have p0 := Ra.box.f0
  have p1 := Ra.box.f1
  have p2 := Ra.box.f2
  go_wp2
  have hR3 := Ra.box.set (.bool b6) (.slice x5 n5 y5) (.slice x6 n6 y6)
  have r0 := hR3.c0
  have r1 := hR3.c1
  have r2 := hR3.c2
  refine bodyPost_ret (v := .tuple #[.agg #[.bool b6, .slice x5 n5 y5, .slice x6 n6 y6], .int .i64 err]) (by simp [results, Tryz.results37, go_sem, r0, r1, r2]) rfl ?_
  have hd := gives_done g s0 R.lt ka (Nat.le_refl _) ho
  exact hd.of (fun hP => ⟨(ceil_whole b _ _ (right_pos hP).2 (right_pos hP).1).symm, rfl⟩)
end
end Go.Proofs.YtidbebfendjnlaaGreatDoor

/- rat.IsInt, ToInt. -/
namespace Go.Proofs.YtidbebfendjnlaaGreatDoor
set_option linter.unusedVariables false
set_option linter.unusedSimpArgs false
open Go.RowKit

/-- Is a number right and whole? -/
def IsWhole (b : Bool) (ns ds : List Int) : Prop := RightP b ns ds ∧ ds = [1]
/-- What is told of a whole number as an int. -/
def IntTold (P : Prop) (z n : Int) (ok : Bool) : Prop := (ok = true ∧ P ∧ -9223372036854775808 ≤ z ∧ z < 9223372036854775808 ∧ n = z) ∨ (ok = false ∧ n = 0 ∧ ¬ (P ∧ -9223372036854775808 ≤ z ∧ z < 9223372036854775808))
theorem IntTold.unique {P : Prop} {z n m : Int} {ok fine : Bool} (h : IntTold P z n ok) (k : IntTold P z m fine) : m = n ∧ fine = ok := by
  rcases h with ⟨rfl, hp, h1, h2, rfl⟩ | ⟨rfl, rfl, h⟩ <;> rcases k with ⟨rfl, kp, k1, k2, rfl⟩ | ⟨rfl, rfl, k⟩
  · exact ⟨rfl, rfl⟩
  · exact absurd ⟨hp, h1, h2⟩ k
  · exact absurd ⟨kp, k1, k2⟩ h
  · exact ⟨rfl, rfl⟩

section
variable {w : World} {b : Bool} {a1 a2 : Option Addr} {c1 c2 : Nat} {ns ds : List Int}
set_option maxRecDepth 100000 in
set_option maxHeartbeats 1600000 in
theorem isInt_rat (h1 : Rd w.heap.size w (.slice a1 ns.length c1) ns) (h2 : Rd w.heap.size w (.slice a2 ds.length c2) ds) :
    Calls Tryz.prog 22 #[.agg #[.bool b, .slice a1 ns.length c1, .slice a2 ds.length c2]] w fun e w' => TellsP (IsWhole b ns ds) e ∧ Below w.heap.size w w' := by
  have X := nvar_new (b := b) h1 h2
  have g := below_alloc w (.cells #[.bool b, .slice a1 ns.length c1, .slice a2 ds.length c2] 25)
  obtain ⟨x0, x1, x2⟩ := X.cells
  go_enter Tryz.func22, Tryz.ntmps22
  go_wp2_with fail
  clear x0 x1 x2
  generalize hA : w.alloc (.cells #[.bool b, .slice a1 ns.length c1, .slice a2 ds.length c2] 25) = v at *
  clear hA
  refine (right_rat X.rn X.rd (Nat.le_refl _)).mono ?_
  rintro e wa ⟨⟨r, rfl, hr⟩, ka⟩
  replace X := X.below ka
  replace g := g.trans (ka.mono g.size)
  clear ka
  obtain ⟨x0, x1, x2⟩ := X.cells
  cases r with
  | false =>
    have HP : Hid (¬ RightP b ns ds) := fun h => by have := hr.2 h; cases this
    clear hr
    go_wp2
    go_ret
    exact ⟨TellsP.no (fun h => HP.out h.1), g⟩
  | true =>
    have HP : Hid (RightP b ns ds) := hr.1 rfl
    clear hr
    go_wp2_with fail
    refine (isOne_any X.rd).mono ?_
    rintro e w' ⟨rfl, rfl⟩
    by_cases hone : ds = [1]
    · have HO : Hid (ds = [1]) := hone
      rw [decide_eq_true hone]
      clear hone
      go_wp2
      go_ret
      exact ⟨TellsP.yes ⟨HP.out, HO.out⟩, g⟩
    · have HO : Hid (¬ ds = [1]) := hone
      rw [decide_eq_false hone]
      clear hone
      go_wp2
      go_ret
      exact ⟨TellsP.no (fun h => HO.out h.2), g⟩

set_option maxRecDepth 100000 in
set_option maxHeartbeats 8000000 in
theorem toInt_rat (h1 : Rd w.heap.size w (.slice a1 ns.length c1) ns) (h2 : Rd w.heap.size w (.slice a2 ds.length c2) ds) :
    Calls Tryz.prog 15 #[.agg #[.bool b, .slice a1 ns.length c1, .slice a2 ds.length c2]] w fun e w' => ∃ n ok, e = .returned (.tuple #[.int .i64 n, .bool ok]) ∧ Hid (IntTold (IsWhole b ns ds) (sg b (val ns)) n ok) ∧ Below w.heap.size w w' := by
  have X := nvar_new (b := b) h1 h2
  have g := below_alloc w (.cells #[.bool b, .slice a1 ns.length c1, .slice a2 ds.length c2] 25)
  obtain ⟨x0, x1, x2⟩ := X.cells
  go_enter Tryz.func15, Tryz.ntmps15
  go_wp2_with fail
  clear x0 x1 x2
  generalize hA : w.alloc (.cells #[.bool b, .slice a1 ns.length c1, .slice a2 ds.length c2] 25) = v at *
  clear hA
  refine (isInt_rat X.rn X.rd).mono ?_
  rintro e wa ⟨⟨r, rfl, hr⟩, ka⟩
  replace X := X.below ka
  replace g := g.trans (ka.mono g.size)
  clear ka
  obtain ⟨x0, x1, x2⟩ := X.cells
  cases r with
  | false =>
    have HP : Hid (¬ IsWhole b ns ds) := fun h => by have := hr.2 h; cases this
    clear hr
    go_wp2
    refine bodyPost_ret (v := .tuple #[.int .i64 0, .bool false]) (by simp [results, Tryz.results15, go_sem]) rfl ?_
    exact ⟨0, false, rfl, Or.inr ⟨rfl, rfl, fun h => HP.out h.1⟩, g⟩
  | true =>
    have HP : Hid (IsWhole b ns ds) := hr.1 rfl
    clear hr
    have l1 := HP.out.1.1
    have HN : Hid (0 ≤ val ns) := (right_pos HP.out.1).2
    cases b with
    | false =>
      go_wp2_with fail
      refine (small_any X.rn (by omega)).mono ?_
      rintro e w' ⟨rfl, rfl⟩
      by_cases hs : val ns < 9223372036854775808
      · rw [smallV_lt hs]
        have HS : Hid (val ns < 9223372036854775808) := hs
        clear hs
        go_wp2
        refine bodyPost_ret (v := .tuple #[.int .i64 (val ns), .bool true]) (by simp [results, Tryz.results15, go_sem]) rfl ?_
        exact ⟨_, _, rfl, Or.inl ⟨rfl, HP.out, by rw [sg_false]; have := HN.out; omega, by rw [sg_false]; exact HS.out, rfl⟩, g⟩
      · rw [smallV_ge (by omega)]
        have HS : Hid (¬ val ns < 9223372036854775808) := hs
        clear hs
        go_wp2
        refine bodyPost_ret (v := .tuple #[.int .i64 0, .bool false]) (by simp [results, Tryz.results15, go_sem]) rfl ?_
        exact ⟨_, _, rfl, Or.inr ⟨rfl, rfl, fun h => by have h5 := HS.out; have h6 := h.2.2; rw [sg_false] at h6; omega⟩, g⟩
    | true =>
      have HV : Hid (1 ≤ val ns) := by
        have h5 := HP.out.1.2.2.2.2.1
        have h6 := can_zero HP.out.1.2.2.1
        have h7 := HN.out
        have h8 : ¬ val ns = 0 := fun h => h5 ⟨rfl, h6.2 h⟩
        unfold Hid; omega
      have hcells : ∀ {w' : World}, Below wa.heap.size wa w' → w'.cell? ⟨w.heap.size, 1, none⟩ = some (.slice a1 ns.length c1) := fun hb => (X.below hb).k1
      go_wp2
      go_region_held3 (fun w' => w'.cell? ⟨w.heap.size, 1, none⟩ = some (.slice a1 ns.length c1))
        (first | (go_keep; done) | exact tw | exact tw2)
        (first
          | (go_at_call 69; refine (one_num _).mono ?_; rintro e we ⟨es, x5, y5, HE, rfl, o3, bf'⟩; have bf : Below wa.heap.size wa we := below_undrew (w := wa) (B := wa.heap.size) bf'; have tw := hcells bf)
          | (have j := tw; go_at_call 68; refine (minus_any (X.below bf).rn (Nat.le_refl _) o3.rd (Nat.le_refl _) (by omega)).mono ?_; rintro e wf ⟨⟨bg, -⟩, hm⟩; obtain ⟨zs, x6, y6, lz, cz, vz, rfl, oz⟩ := hm (by rw [HE.out, one_val]; exact HV.out); have hz : Hid (val zs = val ns - 1) := (by rw [HE.out, one_val] at vz; exact vz); have tg := bf.trans (bg.mono bf.size); have tw2 := hcells tg))
      have tt := g.trans (tg.mono g.size)
      have hz0 := (val_bound oz.lim).1
      have lz2 : zs.length ≤ 17592186044415 := by omega
      go_wp2_with fail
      refine (small_any oz.rd lz2).mono ?_
      rintro e w' ⟨rfl, rfl⟩
      by_cases hs : val zs < 9223372036854775808
      · rw [smallV_lt hs]
        have hw1 : IntKind.i64.wrap (-(val zs)) = -(val zs) := by rw [IntKind.wrap_i64]; omega
        have hw2 : IntKind.i64.wrap (-(val zs) - 1) = -(val zs) - 1 := by rw [IntKind.wrap_i64]; omega
        have HS : Hid (0 ≤ val zs ∧ val zs < 9223372036854775808) := ⟨hz0, hs⟩
        clear hs hz0 vz
        go_wp2
        refine bodyPost_ret (v := .tuple #[.int .i64 (-(val zs) - 1), .bool true]) (by simp [results, Tryz.results15, go_sem]) rfl ?_
        have h5 := HS.out
        have h6 := hz.out
        have h7 : sg true (val ns) = -(val ns) := by simp [sg]
        exact ⟨_, _, rfl, Or.inl ⟨rfl, HP.out, by rw [h7]; omega, by rw [h7]; omega, by rw [h7]; omega⟩, tt⟩
      · rw [smallV_ge (by omega)]
        have HS : Hid (¬ val zs < 9223372036854775808) := hs
        clear hs hz0 vz
        go_wp2
        refine bodyPost_ret (v := .tuple #[.int .i64 0, .bool false]) (by simp [results, Tryz.results15, go_sem]) rfl ?_
        have h5 := HS.out
        have h6 := hz.out
        have h7 : sg true (val ns) = -(val ns) := by simp [sg]
        exact ⟨_, _, rfl, Or.inr ⟨rfl, rfl, fun h => by rw [h7] at h; omega⟩, tt⟩
end
end Go.Proofs.YtidbebfendjnlaaGreatDoor

/- The document's Sign, OfInt, IsInt. -/
namespace Go.Proofs.YtidbebfendjnlaaGreatDoor
set_option linter.unusedVariables false
set_option linter.unusedSimpArgs false
open Go.RowKit

theorem refOf_num (n : Int) (h0 : 0 ≤ n) (h1 : n < 18446744073709551616) (w : World) : Calls Tryz.prog 73 #[.int .u64 n] w fun e w' => ∃ ns, can ns ∧ Hid (val ns = n) ∧ ns.length ≤ 2 ∧ Makes w e w' ns := by
  refine (refOf_any n h0 h1 w).mono ?_
  intro e w' h
  have hc := of_can n h0 h1
  exact ⟨_, hc.1, hc.2.1, hc.2.2, h⟩

section
variable {w : World} {bx : Bool} {a1 a2 : Option Addr} {c1 c2 : Nat} {xn xd : List Int}
set_option maxRecDepth 100000 in
set_option maxHeartbeats 1600000 in
theorem refSign_rat (h1 : Rd w.heap.size w (.slice a1 xn.length c1) xn) (h2 : Rd w.heap.size w (.slice a2 xd.length c2) xd) :
    Calls Tryz.prog 21 #[.agg #[.bool bx, .slice a1 xn.length c1, .slice a2 xd.length c2]] w fun e w' => Below w.heap.size w w' ∧ Signs (RightP bx xn xd) bx xn e := by
  have X := nvar_new (b := bx) h1 h2
  have b0 := below_alloc w (.cells #[.bool bx, .slice a1 xn.length c1, .slice a2 xd.length c2] 25)
  obtain ⟨k0, k1, k2⟩ := X.cells
  go_enter Tryz.func21, Tryz.ntmps21
  go_wp2_with fail
  clear k0 k1 k2
  generalize hA : w.alloc (.cells #[.bool bx, .slice a1 xn.length c1, .slice a2 xd.length c2] 25) = v at *
  clear hA
  refine (refRight_rat X.rn X.rd).mono ?_
  rintro e wa ⟨⟨r, rfl, hr⟩, ba⟩
  replace X := X.below ba
  have g1 : Below w.heap.size w wa := b0.trans (ba.mono b0.size)
  obtain ⟨k0, k1, k2⟩ := X.cells
  cases r with
  | false =>
    have HP : Hid (¬ RightP bx xn xd) := fun h => by have := hr.2 h; cases this
    clear hr
    go_wp2
    go_ret
    exact ⟨g1, 0, rfl, fun _ => rfl, fun h => absurd h HP.out⟩
  | true =>
    have HP : Hid (RightP bx xn xd) := hr.1 rfl
    clear hr
    by_cases h0 : 0 < xn.length
    · have hb : ((xn.length : Int) == 0) = false := by rw [beq_eq_false_iff_ne]; omega
      have HV : Hid (0 < val xn) := by
        have h5 := can_low HP.out.2.2.1 h0
        have h6 := pw_pos (xn.length - 1)
        unfold Hid; omega
      cases bx with
      | false =>
        go_wp2
        go_ret
        exact ⟨g1, 1, rfl, fun h => absurd HP.out h, fun _ => (cmpI_gt (by have := HV.out; simpa [sg] using this)).symm⟩
      | true =>
        go_wp2
        go_ret
        exact ⟨g1, -1, rfl, fun h => absurd HP.out h, fun _ => (cmpI_lt (by have := HV.out; simp [sg]; omega)).symm⟩
    · have hb : ((xn.length : Int) == 0) = true := by rw [beq_iff_eq]; omega
      have HV : Hid (val xn = 0) := (can_zero HP.out.2.2.1).1 (by omega)
      go_wp2
      go_ret
      exact ⟨g1, 0, rfl, fun h => absurd HP.out h, fun _ => (cmpI_eq (by rw [HV.out, sg_zero])).symm⟩
end

set_option maxRecDepth 100000 in
set_option maxHeartbeats 3200000 in
theorem refOfInt_any (k : Int) (h0 : -9223372036854775808 ≤ k) (h1 : k < 9223372036854775808) (w : World) : Calls Tryz.prog 19 #[.int .i64 k] w fun e w' => WholeNum w k e w' := by
  have R := rvar_new w
  have g := below_alloc w (.cells #[.bool false, .slice none 0 0, .slice none 0 0] 25)
  go_enter Tryz.func19, Tryz.ntmps19
  by_cases hk : k < 0
  · have hkb : decide (k < 0) = true := decide_eq_true hk
    have hw : IntKind.u64.wrap (-IntKind.u64.wrap k) = -k := by rw [IntKind.wrap_u64, IntKind.wrap_u64]; omega
    go_wp2_with fail
    generalize hA : w.alloc (.cells #[.bool false, .slice none 0 0, .slice none 0 0] 25) = v at *
    clear hA
    refine (refOf_num (-k) (by omega) (by omega) _).mono ?_
    rintro e wa ⟨ns, cn, vn, ln, x1, y1, rfl, o1, ka⟩
    go_wp2_with fail
    refine (refOne_any _).mono ?_
    rintro e wb ⟨ds, x2, y2, HD, rfl, o2, kb⟩
    have t : Below v.heap.size v wb := ka.trans (kb.mono ka.size)
    have Rb := R.below t
    have q0 := Rb.box.c0
    have q1 := Rb.box.c1
    have q2 := Rb.box.c2
    have p0 := Rb.box.f0
    have p1 := Rb.box.f1
    have p2 := Rb.box.f2
    go_wp2
    have hR3 := Rb.box.set (.bool true) (.slice x1 ns.length y1) (.slice x2 ds.length y2)
    have r0 := hR3.c0
    have r1 := hR3.c1
    have r2 := hR3.c2
    refine bodyPost_ret (v := .agg #[.bool true, .slice x1 ns.length y1, .slice x2 ds.length y2]) (by simp [results, Tryz.results19, go_sem, r0, r1, r2]) rfl ?_
    exact ⟨Below.set3 (g.trans (t.mono g.size)) (Nat.le_refl _) _ _ _, true, ns, ds, x1, y1, x2, y2, ⟨hkb.symm, cn, by rw [vn.out, if_pos hk], ln, HD.out⟩, rfl, (Own.set3 (o1.below kb (Nat.le_refl _)) R.lt _ _ _).mono g.size, (Own.set3 (o2.mono ka.size) R.lt _ _ _).mono g.size⟩
  · have hkb : decide (k < 0) = false := decide_eq_false hk
    go_wp2_with fail
    generalize hA : w.alloc (.cells #[.bool false, .slice none 0 0, .slice none 0 0] 25) = v at *
    clear hA
    refine (refOf_num k (by omega) (by omega) _).mono ?_
    rintro e wa ⟨ns, cn, vn, ln, x1, y1, rfl, o1, ka⟩
    go_wp2_with fail
    refine (refOne_any _).mono ?_
    rintro e wb ⟨ds, x2, y2, HD, rfl, o2, kb⟩
    have t : Below v.heap.size v wb := ka.trans (kb.mono ka.size)
    have Rb := R.below t
    have q0 := Rb.box.c0
    have q1 := Rb.box.c1
    have q2 := Rb.box.c2
    have p0 := Rb.box.f0
    have p1 := Rb.box.f1
    have p2 := Rb.box.f2
    go_wp2
    have hR3 := Rb.box.set (.bool false) (.slice x1 ns.length y1) (.slice x2 ds.length y2)
    have r0 := hR3.c0
    have r1 := hR3.c1
    have r2 := hR3.c2
    refine bodyPost_ret (v := .agg #[.bool false, .slice x1 ns.length y1, .slice x2 ds.length y2]) (by simp [results, Tryz.results19, go_sem, r0, r1, r2]) rfl ?_
    exact ⟨Below.set3 (g.trans (t.mono g.size)) (Nat.le_refl _) _ _ _, false, ns, ds, x1, y1, x2, y2, ⟨hkb.symm, cn, by rw [vn.out, if_neg (by omega)], ln, HD.out⟩, rfl, (Own.set3 (o1.below kb (Nat.le_refl _)) R.lt _ _ _).mono g.size, (Own.set3 (o2.mono ka.size) R.lt _ _ _).mono g.size⟩

theorem one_cmp {ds os : List Int} (ho : os = [1]) (cd : can ds) : cmpI (val ds) (val os) = 0 ↔ ds = [1] := by
  subst ho
  rw [cmpI_zero', one_val]
  constructor
  · intro h
    exact can_inj cd can_one (by rw [h, one_val])
  · rintro rfl
    exact one_val
section
variable {w : World} {b : Bool} {a1 a2 : Option Addr} {c1 c2 : Nat} {ns ds : List Int}
set_option maxRecDepth 100000 in
set_option maxHeartbeats 3200000 in
theorem refIsInt_rat (h1 : Rd w.heap.size w (.slice a1 ns.length c1) ns) (h2 : Rd w.heap.size w (.slice a2 ds.length c2) ds) :
    Calls Tryz.prog 23 #[.agg #[.bool b, .slice a1 ns.length c1, .slice a2 ds.length c2]] w fun e w' => TellsP (IsWhole b ns ds) e ∧ Below w.heap.size w w' := by
  have X := nvar_new (b := b) h1 h2
  have g := below_alloc w (.cells #[.bool b, .slice a1 ns.length c1, .slice a2 ds.length c2] 25)
  obtain ⟨x0, x1, x2⟩ := X.cells
  go_enter Tryz.func23, Tryz.ntmps23
  go_wp2_with fail
  clear x0 x1 x2
  generalize hA : w.alloc (.cells #[.bool b, .slice a1 ns.length c1, .slice a2 ds.length c2] 25) = v at *
  clear hA
  obtain ⟨x0, x1, x2⟩ := X.cells
  have hcells : ∀ {w' : World}, Below v.heap.size v w' → w'.cell? ⟨w.heap.size, 0, none⟩ = some (.bool b) ∧ w'.cell? ⟨w.heap.size, 1, none⟩ = some (.slice a1 ns.length c1) ∧ w'.cell? ⟨w.heap.size, 2, none⟩ = some (.slice a2 ds.length c2) := fun hb => (X.below hb).cells
  by_cases hP : RightP b ns ds
  · have HP : Hid (RightP b ns ds) := hP
    clear hP
    have l2 : ds.length * 4 ≤ 140737488355328 := by have := HP.out.2.1; omega
    go_region_held3 (fun w' => w'.cell? ⟨w.heap.size, 0, none⟩ = some (.bool b) ∧ w'.cell? ⟨w.heap.size, 1, none⟩ = some (.slice a1 ns.length c1) ∧ w'.cell? ⟨w.heap.size, 2, none⟩ = some (.slice a2 ds.length c2))
      (first | (go_keep; done) | exact tw | exact tw2 | exact tw3)
      (first
        | (go_at_call 14; refine (refRight_rat (w := v.drew) X.rn X.rd).mono ?_; rintro e wa ⟨⟨r, rfl, hr⟩, ka'⟩; obtain rfl : r = true := hr.2 HP.out; have ka : Below v.heap.size v wa := below_undrew (w := v) (B := v.heap.size) ka'; have tw := hcells ka; clear hr)
        | (have j := tw; go_at_call 66; refine (refOne_any _).mono ?_; rintro e wb ⟨os, x5, y5, HO, rfl, o5, kb⟩; have tb : Below v.heap.size v wb := ka.trans (kb.mono ka.size); have tw2 := hcells tb; have lo : os.length * 4 ≤ 140737488355328 := (by rw [HO.out]; decide))
        | (have j := tw2; go_at_call 65; refine (refCompare_rd (X.below tb).rd o5.rd (Nat.le_refl _) l2 lo).mono ?_; rintro e wc ⟨rfl, kc⟩; have tc : Below v.heap.size v wc := tb.trans (kc.mono tb.size); have tw3 := hcells tc; have hq : Hid (cmpI (val ds) (val os) = 0 ↔ ds = [1]) := (one_cmp HO.out HP.out.2.2.2.1)))
    by_cases hone : ds = [1]
    · have HD : Hid (ds = [1]) := hone
      have hqb : (cmpI (val ds) (val os) == 0) = true := by rw [beq_iff_eq]; exact hq.out.2 hone
      clear hone
      go_wp2
      go_ret
      exact ⟨⟨_, rfl, ⟨fun _ => ⟨HP.out, HD.out⟩, fun _ => hqb⟩⟩, g.trans (tc.mono g.size)⟩
    · have HD : Hid (¬ ds = [1]) := hone
      have hqb : (cmpI (val ds) (val os) == 0) = false := by rw [beq_eq_false_iff_ne]; exact fun h => hone (hq.out.1 h)
      clear hone
      go_wp2
      go_ret
      exact ⟨⟨_, rfl, ⟨fun h => absurd (h.symm.trans hqb) (by decide), fun h => absurd h.2 HD.out⟩⟩, g.trans (tc.mono g.size)⟩
  · have HP : Hid (¬ RightP b ns ds) := hP
    clear hP
    first
    | go_region_with (first
        | (go_at_call 14; refine (refRight_rat (w := v.drew) X.rn X.rd).mono ?_; rintro e wa ⟨⟨r, rfl, hr⟩, ka'⟩; have hrf : r = false := (by cases r with | false => rfl | true => exact absurd (hr.1 rfl) HP.out); subst hrf; have ka : Below v.heap.size v wa := below_undrew (w := v) (B := v.heap.size) ka'; have tw := hcells ka; clear hr))
    | fail
    all_goals
      go_wp2
      go_ret
      exact ⟨TellsP.no (fun h => HP.out h.1), g.trans (ka.mono g.size)⟩
end
end Go.Proofs.YtidbebfendjnlaaGreatDoor

/- ref01.Same of any two lists. -/
namespace Go.Proofs.YtidbebfendjnlaaGreatDoor
set_option linter.unusedVariables false
set_option linter.unusedSimpArgs false
open Go.RowKit

set_option maxHeartbeats 1600000 in
theorem same_no (b1 o1 c1 b2 o2 c2 n : Nat) (xs ys : List Int) (w : World) (hb : n ≤ 9223372036854775807)
    (k1 : ∀ j, j < n → w.cell? ⟨b1, o1 + j, none⟩ = some (.int .u32 (xs.getD j 0)))
    (k2 : ∀ j, j < n → w.cell? ⟨b2, o2 + j, none⟩ = some (.int .u32 (ys.getD j 0))) (hne : ¬ ∀ j, j < n → xs.getD j 0 = ys.getD j 0) :
    Calls Tryz.prog 70 #[.slice (some ⟨b1, o1, none⟩) n c1, .slice (some ⟨b2, o2, none⟩) n c2] w fun e w' => e = .returned (.bool false) ∧ Below w.heap.size w w' := by
  have K1 : Hid (∀ j, j < n → w.cell? ⟨b1, o1 + j, none⟩ = some (.int .u32 (xs.getD j 0))) := k1
  have K2 : Hid (∀ j, j < n → w.cell? ⟨b2, o2 + j, none⟩ = some (.int .u32 (ys.getD j 0))) := k2
  have HN : Hid (¬ ∀ j, j < n → xs.getD j 0 = ys.getD j 0) := hne
  clear k1 k2 hne
  go_enter Tryz.func70, Tryz.ntmps70
  go_wp2
  go_loopw [5] (fun s wr => (∃ q, wr = w.drewN q) ∧ ∃ j : Nat, j ≤ n ∧ s = .int .i64 j ∧ Hid (∀ i, i < j → xs.getD i 0 = ys.getD i 0)) (fun s _ => n - (intOf s).toNat)
  case atStart => exact ⟨⟨0, rfl⟩, 0, Nat.zero_le _, rfl, fun i hi => by omega⟩
  case round =>
    obtain ⟨⟨q, rfl⟩, j, hj, rfl, HE⟩ := hrel
    by_cases hlt : j < n
    · have g1 := K1.out j hlt
      have g2 := K2.out j hlt
      by_cases hpp : xs.getD j 0 = ys.getD j 0
      · have HE2 : Hid (∀ i, i < j + 1 → xs.getD i 0 = ys.getD i 0) := by
          intro i hi
          by_cases h : i = j
          · subst h; exact hpp
          · exact HE.out i (by omega)
        rw [← hpp] at g2
        clear hpp
        generalize xs.getD j 0 = p at *
        go_wp2
        go_quiet (fail)
        go_wp2
        go_roundw
        case rel => exact ⟨⟨_, rfl⟩, j + 1, by omega, by go_num, HE2⟩
        case measure => simp [intOf]; omega
      · generalize xs.getD j 0 = p at *
        generalize ys.getD j 0 = p' at *
        have hpb : (p != p') = true := by rw [bne_iff_ne]; exact hpp
        have hpc : (p == p') = false := by rw [beq_eq_false_iff_ne]; exact hpp
        go_wp2
        go_quiet (fail)
        go_wp2
        go_ret
        exact ⟨rfl, below_drewN' (below_drewN' (Below.refl _ _) _) _⟩
    · exact absurd (fun i hi => HE.out i (by omega)) HN.out

set_option maxHeartbeats 800000 in
theorem same_len (a1 a2 : Option Addr) (n m c1 c2 : Nat) (w : World) (h : ¬ n = m) :
    Calls Tryz.prog 70 #[.slice a1 n c1, .slice a2 m c2] w fun e w' => e = .returned (.bool false) ∧ w = w' := by
  have hb : ((n : Int) != (m : Int)) = true := by rw [bne_iff_ne]; omega
  have hc : ((n : Int) == (m : Int)) = false := by rw [beq_eq_false_iff_ne]; omega
  go_enter Tryz.func70, Tryz.ntmps70
  go_wp2
  go_ret
  exact ⟨rfl, rfl⟩

theorem refSame_any {B B' : Nat} {w : World} {v1 v2 : Value} {xs ys : List Int} (h1 : Rd B w v1 xs) (h2 : Rd B' w v2 ys) :
    Calls Tryz.prog 70 #[v1, v2] w fun e w' => e = .returned (.bool (decide (xs = ys))) ∧ Below w.heap.size w w' := by
  by_cases hxy : xs = ys
  · subst hxy
    rw [decide_eq_true rfl]
    exact same_rd h1 h2
  · rw [decide_eq_false hxy]
    obtain ⟨_, a1, c1, rfl, i1, j1, _, f1⟩ := h1
    obtain ⟨_, a2, c2, rfl, i2, j2, _, f2⟩ := h2
    by_cases hl : xs.length = ys.length
    · by_cases h0 : xs.length = 0
      · exact absurd ((List.length_eq_zero_iff.1 h0).trans (List.length_eq_zero_iff.1 (hl ▸ h0)).symm) hxy
      · rcases f1 with f1 | ⟨b1, o1, rfl, _, k1⟩
        · exact absurd f1 h0
        rcases f2 with f2 | ⟨b2, o2, rfl, _, k2⟩
        · exact absurd (hl.trans f2) h0
        rw [← hl]
        refine (same_no b1 o1 c1 b2 o2 c2 xs.length xs ys w (by omega) k1 (fun j hj => k2 j (by omega)) ?_).mono ?_
        · intro h
          refine hxy (List.ext_getElem hl fun i h1 h2 => ?_)
          have := h i h1
          simpa [List.getD, h1, h2] using this
        · exact fun e w' h => h
    · refine (same_len a1 a2 xs.length ys.length c1 c2 w hl).mono ?_
      rintro e w' ⟨rfl, rfl⟩
      exact ⟨rfl, Below.refl _ _⟩
end Go.Proofs.YtidbebfendjnlaaGreatDoor

/- The document's ToInt. -/
namespace Go.Proofs.YtidbebfendjnlaaGreatDoor
set_option linter.unusedVariables false
set_option linter.unusedSimpArgs false
open Go.RowKit

theorem least_can : can [0, 2147483648] := by
  refine ⟨?_, Or.inr (by decide)⟩
  intro x hx
  rcases List.mem_cons.1 hx with rfl | hx
  · omega
  · rcases List.mem_cons.1 hx with rfl | hx
    · omega
    · cases hx
theorem least_rd (w : World) : Rd (w.alloc (.cells #[.int .u32 0, .int .u32 2147483648] 62)).heap.size (w.alloc (.cells #[.int .u32 0, .int .u32 2147483648] 62)) (.slice (some ⟨w.heap.size, 0, none⟩) 2 2) [0, 2147483648] := by
  refine ⟨least_can.1, some ⟨w.heap.size, 0, none⟩, 2, rfl, by simp, by omega, (fun h => by cases h), Or.inr ⟨w.heap.size, 0, rfl, by simp, fun j hj => ?_⟩⟩
  have hh := heap_alloc_new w (.cells #[.int .u32 0, .int .u32 2147483648] 62)
  match j, hj with
  | 0, _ => unfold World.cell?; dsimp only; rw [hh]; rfl
  | 1, _ => unfold World.cell?; dsimp only; rw [hh]; rfl
section
variable {w : World} {b : Bool} {a1 a2 : Option Addr} {c1 c2 : Nat} {ns ds : List Int}
set_option maxRecDepth 100000 in
set_option maxHeartbeats 8000000 in
theorem refToInt_rat (h1 : Rd w.heap.size w (.slice a1 ns.length c1) ns) (h2 : Rd w.heap.size w (.slice a2 ds.length c2) ds) :
    Calls Tryz.prog 16 #[.agg #[.bool b, .slice a1 ns.length c1, .slice a2 ds.length c2]] w fun e w' => ∃ n ok, e = .returned (.tuple #[.int .i64 n, .bool ok]) ∧ Hid (IntTold (IsWhole b ns ds) (sg b (val ns)) n ok) ∧ Below w.heap.size w w' := by
  have X := nvar_new (b := b) h1 h2
  have g := below_alloc w (.cells #[.bool b, .slice a1 ns.length c1, .slice a2 ds.length c2] 25)
  obtain ⟨x0, x1, x2⟩ := X.cells
  go_enter Tryz.func16, Tryz.ntmps16
  go_wp2_with fail
  clear x0 x1 x2
  generalize hA : w.alloc (.cells #[.bool b, .slice a1 ns.length c1, .slice a2 ds.length c2] 25) = v at *
  clear hA
  refine (refIsInt_rat X.rn X.rd).mono ?_
  rintro e wa ⟨⟨r, rfl, hr⟩, ka⟩
  replace X := X.below ka
  replace g := g.trans (ka.mono g.size)
  clear ka
  obtain ⟨x0, x1, x2⟩ := X.cells
  cases r with
  | false =>
    have HP : Hid (¬ IsWhole b ns ds) := fun h => by have := hr.2 h; cases this
    clear hr
    go_wp2
    refine bodyPost_ret (v := .tuple #[.int .i64 0, .bool false]) (by simp [results, Tryz.results16, go_sem]) rfl ?_
    exact ⟨0, false, rfl, Or.inr ⟨rfl, rfl, fun h => HP.out h.1⟩, g⟩
  | true =>
    have HP : Hid (IsWhole b ns ds) := hr.1 rfl
    clear hr
    have l1 : ns.length ≤ 17592186044415 := Nat.le_trans HP.out.1.1 (by decide)
    have HN : Hid (0 ≤ val ns) := (right_pos HP.out.1).2
    cases b with
    | false =>
      go_wp2_with fail
      refine (refSmall_any X.rn l1).mono ?_
      rintro e wb ⟨rfl, kb⟩
      replace X := X.below kb
      replace g := g.trans (kb.mono g.size)
      obtain ⟨x0, x1, x2⟩ := X.cells
      by_cases hs : val ns < 9223372036854775808
      · rw [smallV_lt hs]
        have HS : Hid (val ns < 9223372036854775808) := hs
        clear hs
        go_wp2
        refine bodyPost_ret (v := .tuple #[.int .i64 (val ns), .bool true]) (by simp [results, Tryz.results16, go_sem]) rfl ?_
        exact ⟨_, _, rfl, Or.inl ⟨rfl, HP.out, by rw [sg_false]; have := HN.out; omega, by rw [sg_false]; exact HS.out, rfl⟩, g⟩
      · rw [smallV_ge (by omega)]
        have HS : Hid (¬ val ns < 9223372036854775808) := hs
        clear hs
        go_wp2
        refine bodyPost_ret (v := .tuple #[.int .i64 0, .bool false]) (by simp [results, Tryz.results16, go_sem]) rfl ?_
        exact ⟨_, _, rfl, Or.inr ⟨rfl, rfl, fun h => by have h5 := HS.out; have h6 := h.2.2; rw [sg_false] at h6; omega⟩, g⟩
    | true =>
      have hy : Rd (wa.alloc (.cells #[.int .u32 0, .int .u32 2147483648] 62)).heap.size (wa.alloc (.cells #[.int .u32 0, .int .u32 2147483648] 62)) (.slice (some ⟨wa.heap.size, 0, none⟩) 2 2) [0, 2147483648] := least_rd wa
      have hk := below_alloc wa (.cells #[.int .u32 0, .int .u32 2147483648] 62)
      have X' := X.below hk
      go_wp2_with fail
      refine (refSame_any X'.rn hy).mono ?_
      rintro e wb ⟨rfl, kb⟩
      replace kb := hk.trans (kb.mono hk.size)
      replace X := X.below kb
      replace g := g.trans (kb.mono g.size)
      clear X' hy hk kb
      have h7 : sg true (val ns) = -(val ns) := by simp [sg]
      by_cases hq : ns = [0, 2147483648]
      · have HQ : Hid (val ns = 9223372036854775808) := by unfold Hid; rw [hq]; decide
        rw [decide_eq_true hq]
        clear hq
        go_wp2
        refine bodyPost_ret (v := .tuple #[.int .i64 (-9223372036854775808), .bool true]) (by simp [results, Tryz.results16, go_sem]) rfl ?_
        have h8 := HQ.out
        exact ⟨_, _, rfl, Or.inl ⟨rfl, HP.out, by rw [h7]; omega, by rw [h7]; omega, by rw [h7]; omega⟩, g⟩
      · have HQ : Hid (¬ val ns = 9223372036854775808) := fun h => hq (can_inj HP.out.1.2.2.1 least_can (by rw [h]; decide))
        rw [decide_eq_false hq]
        clear hq
        obtain ⟨x0, x1, x2⟩ := X.cells
        go_wp2_with fail
        clear x0 x1 x2
        refine (refSmall_any X.rn l1).mono ?_
        rintro e wc ⟨rfl, kc⟩
        replace X := X.below kc
        replace g := g.trans (kc.mono g.size)
        obtain ⟨x0, x1, x2⟩ := X.cells
        by_cases hs : val ns < 9223372036854775808
        · rw [smallV_lt hs]
          have HS : Hid (val ns < 9223372036854775808) := hs
          have hw1 : IntKind.i64.wrap (-(val ns)) = -(val ns) := by rw [IntKind.wrap_i64]; have := HN.out; omega
          clear hs
          go_wp2
          refine bodyPost_ret (v := .tuple #[.int .i64 (-(val ns)), .bool true]) (by simp [results, Tryz.results16, go_sem]) rfl ?_
          have h8 := HS.out
          have h9 := HN.out
          exact ⟨_, _, rfl, Or.inl ⟨rfl, HP.out, by rw [h7]; omega, by rw [h7]; omega, by rw [h7]⟩, g⟩
        · rw [smallV_ge (by omega)]
          have HS : Hid (¬ val ns < 9223372036854775808) := hs
          clear hs
          go_wp2
          refine bodyPost_ret (v := .tuple #[.int .i64 0, .bool false]) (by simp [results, Tryz.results16, go_sem]) rfl ?_
          have h8 := HS.out
          have h9 := HQ.out
          exact ⟨_, _, rfl, Or.inr ⟨rfl, rfl, fun h => by have h6 := h.2.1; rw [h7] at h6; omega⟩, g⟩
end
end Go.Proofs.YtidbebfendjnlaaGreatDoor

/- The walk over RatInts: whole numbers are told as ints. -/
namespace Go.Proofs.YtidbebfendjnlaaGreatDoor
set_option linter.unusedVariables false
set_option linter.unusedSimpArgs false
open Go.RowKit

theorem WholeIs.unique {k : Int} {b c : Bool} {ns ds ms es : List Int} (h : WholeIs k b ns ds) (h' : WholeIs k c ms es) : c = b ∧ ms = ns ∧ es = ds := by
  obtain ⟨hb, cn, vn, _, hd⟩ := h
  obtain ⟨hb', cn', vn', _, hd'⟩ := h'
  exact ⟨by rw [hb, hb'], can_inj cn' cn (by rw [vn, vn']), by rw [hd, hd']⟩
theorem told_whole {k n : Int} {ok b : Bool} {ns ds : List Int} (h : WholeIs k b ns ds) (h0 : -9223372036854775808 ≤ k) (h1 : k < 9223372036854775808) (ht : IntTold (IsWhole b ns ds) (sg b (val ns)) n ok) : n = k ∧ ok = true := by
  have hs := h.sg
  rw [hs.1] at ht
  rcases ht with ⟨hk, _, _, _, hn⟩ | ⟨_, _, hno⟩
  · exact ⟨hn, hk⟩
  · exact absurd ⟨⟨h.right, h.2.2.2.2⟩, h0, h1⟩ hno
theorem signs_same {P : Prop} {b : Bool} {ns : List Int} {r s : Int} (h : Hid ((¬ P → r = 0) ∧ (P → r = cmpI (sg b (val ns)) 0))) (k : Hid ((¬ P → s = 0) ∧ (P → s = cmpI (sg b (val ns)) 0))) : s = r := by
  by_cases hP : P
  · rw [h.out.2 hP, k.out.2 hP]
  · rw [h.out.1 hP, k.out.1 hP]

theorem tabIs_drew' {w v : World} (h : Lib.TabIs Tryz.prog w "internal/strconv.uint64pow10" .u64 Lib.pow10Tab) (g : Below w.heap.size w v) : Lib.TabIs Tryz.prog v.drew "internal/strconv.uint64pow10" .u64 Lib.pow10Tab := tabIs_below (tabIs_below h g) (⟨rfl, rfl, rfl, Nat.le_refl _, fun _ _ => rfl⟩ : Below v.heap.size v v.drew)

set_option maxRecDepth 100000 in
set_option maxHeartbeats 32000000 in
theorem ratInts_walk {w : World} {n : Int} {bx : Bool} {a1 a2 : Option Addr} {c1 c2 : Nat} {xn xd : List Int} (n0 : -9223372036854775808 ≤ n ∧ n < 9223372036854775808) (h1 : Rd w.heap.size w (.slice a1 xn.length c1) xn) (h2 : Rd w.heap.size w (.slice a2 xd.length c2) xd) (htab : Lib.TabIs Tryz.prog w "internal/strconv.uint64pow10" .u64 Lib.pow10Tab) :
    Calls Tryz.prog 4 #[.int .i64 n, .agg #[.bool bx, .slice a1 xn.length c1, .slice a2 xd.length c2]] w fun e w' => e = .returned (.bool true) ∧ Below w.heap.size w w' := by
  have X := nvar_new (b := bx) h1 h2
  have g := below_alloc w (.cells #[.bool bx, .slice a1 xn.length c1, .slice a2 xd.length c2] 25)
  obtain ⟨m0, m1⟩ := n0
  clear h1 h2
  obtain ⟨X0, X1, X2⟩ := X.cells
  go_enter Tryz.func4, Tryz.ntmps4
  go_wp2_with fail
  clear X0 X1 X2
  generalize hA : (w.alloc (.cells #[.bool bx, .slice a1 xn.length c1, .slice a2 xd.length c2] 25)) = v1 at *
  clear hA
  refine (toInt_rat X.rn X.rd).mono ?_
  rintro e w1 ⟨p, ok, rfl, HT, k1⟩
  replace X := X.below k1
  replace g := g.trans (k1.mono g.size)
  obtain ⟨X0, X1, X2⟩ := X.cells
  go_wp2_with fail
  clear X0 X1 X2
  refine (refToInt_rat X.rn X.rd).mono ?_
  rintro e w2 ⟨q, fine, rfl, HT2, k2⟩
  obtain ⟨rfl, rfl⟩ := HT.out.unique HT2.out
  clear HT HT2
  replace X := X.below k2
  replace g := g.trans (k2.mono g.size)
  go_wp2_with fail
  refine (ofInt_any n m0 m1 _).mono ?_
  rintro e w3 ⟨k3, bo, on, od, o1, o2, o3, o4, HO, rfl, oo, oe⟩
  replace X := X.below k3
  replace g := g.trans (k3.mono g.size)
  go_wp2_with fail
  refine (toInt_rat oo.rd oe.rd).mono ?_
  rintro e w4 ⟨t, good, rfl, HT, k4⟩
  obtain ⟨rfl, rfl⟩ := told_whole HO.out m0 m1 HT.out
  clear HT HO oo oe
  replace X := X.below k4
  replace g := g.trans (k4.mono g.size)
  clear k1 k2 k3 k4
  have hcells : ∀ {w' : World}, Below w4.heap.size w4 w' → w'.cell? ⟨w.heap.size, 0, none⟩ = some (.bool bx) ∧ w'.cell? ⟨w.heap.size, 1, none⟩ = some (.slice a1 xn.length c1) ∧ w'.cell? ⟨w.heap.size, 2, none⟩ = some (.slice a2 xd.length c2) := fun hb => (X.below hb).cells
  obtain ⟨X0, X1, X2⟩ := X.cells
  have he1 : (q == q) = true := by simp
  have he2 : (fine == fine) = true := by simp
  have he3 : (t == t) = true := by simp
  go_wp2
  go_region_held3 (fun w' => w'.cell? ⟨w.heap.size, 0, none⟩ = some (.bool bx) ∧ w'.cell? ⟨w.heap.size, 1, none⟩ = some (.slice a1 xn.length c1) ∧ w'.cell? ⟨w.heap.size, 2, none⟩ = some (.slice a2 xd.length c2))
    (first | (go_keep; done) | exact tw1 | exact tw2 | exact tw3 | exact tw4 | exact tw5 | exact tw6 | exact tw7 | exact tw8)
    (first
      | (go_at_call 9; refine (live_rat _ (tabIs_drew' htab g)).mono ?_; rintro e u1 ⟨rfl, j1⟩; have t1 : Below w4.heap.size w4 u1 := below_undrew j1; have tw1 := hcells t1)
      | (have j := tw1; go_at_call 17; refine (ofInt_any t m0 m1 _).mono ?_; rintro e u2 ⟨j2, bp, pn, pd, p1, p2, p3, p4, HA, rfl, op, oq⟩; have t2 : Below w4.heap.size w4 u2 := t1.trans (j2.mono t1.size); have tw2 := hcells t2)
      | (have j := tw2; go_at_call 19; refine (refOfInt_any t m0 m1 _).mono ?_; rintro e u3 ⟨j3, br, rn, rd, r1, r2, r3, r4, HB, rfl, or, os⟩; obtain ⟨rfl, rfl, rfl⟩ := HA.out.unique HB.out; clear HB; have t3 : Below w4.heap.size w4 u3 := t2.trans (j3.mono t2.size); have tw3 := hcells t3; have P1 := (op.rd.below j3).mono j3.size; have P2 := (oq.rd.below j3).mono j3.size)
      | (have j := tw3; go_at_call 18; refine (same_rat P1 P2 or.rd os.rd).mono ?_; rintro e u4 ⟨rfl, j4⟩; have t4 : Below w4.heap.size w4 u4 := t3.trans (j4.mono t3.size); have tw4 := hcells t4)
      | (have j := tw4; go_at_call 20; refine (sign_rat (X.below t4).rn (X.below t4).rd).mono ?_; rintro e u5 ⟨j5, s1, rfl, HS1⟩; have t5 : Below w4.heap.size w4 u5 := t4.trans (j5.mono t4.size); have tw5 := hcells t5)
      | (have j := tw5; go_at_call 21; refine (refSign_rat (X.below t5).rn (X.below t5).rd).mono ?_; rintro e u6 ⟨j6, s2, rfl, HS2⟩; obtain rfl := signs_same HS1 HS2; clear HS1 HS2; have hss : (s2 == s2) = true := (by simp); have t6 : Below w4.heap.size w4 u6 := t5.trans (j6.mono t5.size); have tw6 := hcells t6)
      | (have j := tw6; go_at_call 22; refine (isInt_rat (X.below t6).rn (X.below t6).rd).mono ?_; rintro e u7 ⟨⟨i1, rfl, hi1⟩, j7⟩; have HI : Hid (i1 = true ↔ IsWhole bx xn xd) := hi1; clear hi1; have t7 : Below w4.heap.size w4 u7 := t6.trans (j7.mono t6.size); have tw7 := hcells t7)
      | (have j := tw7; go_at_call 23; refine (refIsInt_rat (X.below t7).rn (X.below t7).rd).mono ?_; rintro e u8 ⟨⟨i2, rfl, hi2⟩, j8⟩; have hii : i1 = i2 := Bool.eq_iff_iff.2 (HI.out.trans hi2.symm); subst hii; clear hi2 HI; have hib : (i1 == i1) = true := (by simp); have t8 : Below w4.heap.size w4 u8 := t7.trans (j8.mono t7.size); have tw8 := hcells t8))
  all_goals
    go_wp2
    go_ret
    exact ⟨rfl, g.trans (t8.mono g.size)⟩
end Go.Proofs.YtidbebfendjnlaaGreatDoor

/- The document's signed: a below or not, and b, together. -/
namespace Go.Proofs.YtidbebfendjnlaaGreatDoor
set_option linter.unusedVariables false
set_option linter.unusedSimpArgs false
open Go.RowKit

/-- Limbs and a sign are answered: together they are N. -/
def Signed (w : World) (N : Int) (L : Nat) (e : Ending) (w' : World) : Prop :=
  Below w.heap.size w w' ∧ ∃ zs a c b, e = .returned (.tuple #[.slice a zs.length c, .bool b]) ∧ can zs ∧ zs.length ≤ L ∧ Hid (sg b (val zs) = N) ∧ Own w.heap.size w' (.slice a zs.length c) zs

theorem cmp_ge {a b : Int} (h : b ≤ a) : decide (cmpI a b ≥ 0) = true := by
  rw [decide_eq_true_iff]; unfold cmpI; split
  · omega
  · split <;> omega
theorem cmp_nge {a b : Int} (h : a < b) : decide (cmpI a b ≥ 0) = false := by
  rw [decide_eq_false_iff_not, cmpI_lt h]; omega

section
variable {w : World} {b u : Bool} {a1 a2 : Option Addr} {c1 c2 : Nat} {xs ys : List Int}
set_option maxRecDepth 100000 in
set_option maxHeartbeats 3200000 in
theorem refSigned_any (h1 : Rd w.heap.size w (.slice a1 xs.length c1) xs) (h2 : Rd w.heap.size w (.slice a2 ys.length c2) ys) (L : Nat) (l1 : xs.length ≤ L) (l2 : ys.length ≤ L) (hL : L ≤ 1000000) (cx : can xs) (cy : can ys) :
    Calls Tryz.prog 90 #[.slice a1 xs.length c1, .bool b, .slice a2 ys.length c2, .bool u] w fun e w' => Signed w (sg b (val xs) + sg u (val ys)) (L + 1) e w' := by
  have HC : Hid (can xs ∧ can ys ∧ 0 ≤ val xs ∧ 0 ≤ val ys) := ⟨cx, cy, (val_bound cx.1).1, (val_bound cy.1).1⟩
  clear cx cy
  go_enter Tryz.func90, Tryz.ntmps90
  by_cases hbu : b = u
  · subst hbu
    have hbb : (b == b) = true := by simp
    go_wp2_with fail
    refine (refAdd_any h1 (Nat.le_refl _) h2 (Nat.le_refl _) (by omega) (by omega)).mono ?_
    rintro e wa ⟨zs, cz, vz, lz, a, c, rfl, o, k⟩
    have HV : Hid (sg b (val zs) = sg b (val xs) + sg b (val ys)) := by
      unfold Hid; rw [vz]; unfold sg; split <;> omega
    clear vz
    go_wp2
    refine bodyPost_ret (v := .tuple #[.slice a zs.length c, .bool b]) (by simp [results, Tryz.results90, go_sem]) rfl ?_
    exact ⟨k, zs, a, c, b, rfl, cz, by omega, HV, o⟩
  · have hbb : (b == u) = false := by rw [beq_eq_false_iff_ne]; exact hbu
    have HS : Hid (sg b (val xs) + sg u (val ys) = sg b (val xs - val ys) ∧ sg b (val xs) + sg u (val ys) = sg u (val ys - val xs)) := by
      unfold Hid sg
      cases b <;> cases u <;> simp at hbu ⊢ <;> omega
    clear hbu
    go_wp2_with fail
    refine (refCompare_rd h1 h2 (Nat.le_refl _) (by omega) (by omega)).mono ?_
    rintro e wa ⟨rfl, ka⟩
    replace h1 := (h1.below ka).mono ka.size
    replace h2 := (h2.below ka).mono ka.size
    by_cases hle : val ys ≤ val xs
    · have HL : Hid (val ys ≤ val xs) := hle
      have hcm := cmp_ge hle
      clear hle
      generalize hq : cmpI (val xs) (val ys) = q at *
      clear hq
      go_wp2_with fail
      refine (refMinus_any h1 (Nat.le_refl _) h2 (Nat.le_refl _) (by omega) (by omega)).mono ?_
      rintro e wb ⟨kb, hm⟩
      rw [if_neg (by have := HL.out; omega)] at hm
      obtain ⟨zs, a, c, cz, vz, rfl, oz⟩ := hm
      have lz : zs.length ≤ L := by
        have h5 := (can_len_pw HC.out.1 L).1 l1
        rw [can_len_pw cz, vz]
        have := HC.out
        omega
      have HV : Hid (sg b (val zs) = sg b (val xs) + sg u (val ys)) := by unfold Hid; rw [HS.out.1, vz]
      clear vz
      go_wp2
      refine bodyPost_ret (v := .tuple #[.slice a zs.length c, .bool b]) (by simp [results, Tryz.results90, go_sem]) rfl ?_
      exact ⟨ka.trans (kb.mono ka.size), zs, a, c, b, rfl, cz, by omega, HV, oz.mono ka.size⟩
    · have HL : Hid (val xs < val ys) := by unfold Hid; omega
      have hcm := cmp_nge HL.out
      clear hle
      generalize hq : cmpI (val xs) (val ys) = q at *
      clear hq
      go_wp2_with fail
      refine (refMinus_any h2 (Nat.le_refl _) h1 (Nat.le_refl _) (by omega) (by omega)).mono ?_
      rintro e wb ⟨kb, hm⟩
      rw [if_neg (by have := HL.out; omega)] at hm
      obtain ⟨zs, a, c, cz, vz, rfl, oz⟩ := hm
      have lz : zs.length ≤ L := by
        have h5 := (can_len_pw HC.out.2.1 L).1 l2
        rw [can_len_pw cz, vz]
        have := HC.out
        omega
      have HV : Hid (sg u (val zs) = sg b (val xs) + sg u (val ys)) := by unfold Hid; rw [HS.out.2, vz]
      clear vz
      go_wp2
      refine bodyPost_ret (v := .tuple #[.slice a zs.length c, .bool u]) (by simp [results, Tryz.results90, go_sem]) rfl ?_
      exact ⟨ka.trans (kb.mono ka.size), zs, a, c, u, rfl, cz, by omega, HV, oz.mono ka.size⟩
end
end Go.Proofs.YtidbebfendjnlaaGreatDoor

/- The document's Compare. -/
namespace Go.Proofs.YtidbebfendjnlaaGreatDoor
set_option linter.unusedVariables false
set_option linter.unusedSimpArgs false
open Go.RowKit

theorem signed_cmp {b : Bool} {zs : List Int} {A B : Int} (cz : can zs) (h : sg b (val zs) = A - B) : (zs.length = 0 → cmpI A B = 0) ∧ (¬ zs.length = 0 → b = true → cmpI A B = -1) ∧ (¬ zs.length = 0 → b = false → cmpI A B = 1) := by
  have hz := can_zero cz
  have hp := (val_bound cz.1).1
  refine ⟨fun h0 => ?_, fun h0 hb => ?_, fun h0 hb => ?_⟩
  · rw [hz.1 h0, sg_zero] at h; exact cmpI_eq (by omega)
  · subst hb
    have h1 : ¬ val zs = 0 := fun e => h0 (hz.2 e)
    have h2 : sg true (val zs) = -(val zs) := by simp [sg]
    exact cmpI_lt (by omega)
  · subst hb
    have h1 : ¬ val zs = 0 := fun e => h0 (hz.2 e)
    rw [sg_false] at h
    exact cmpI_gt (by omega)

section
variable {w : World} {bx cy : Bool} {a1 a2 a3 a4 : Option Addr} {c1 c2 c3 c4 : Nat} {xn xd yn yd : List Int}
set_option maxRecDepth 100000 in
set_option maxHeartbeats 16000000 in
theorem refCompare_rat (h1 : Rd w.heap.size w (.slice a1 xn.length c1) xn) (h2 : Rd w.heap.size w (.slice a2 xd.length c2) xd) (h3 : Rd w.heap.size w (.slice a3 yn.length c3) yn) (h4 : Rd w.heap.size w (.slice a4 yd.length c4) yd) :
    Calls Tryz.prog 42 #[.agg #[.bool bx, .slice a1 xn.length c1, .slice a2 xd.length c2], .agg #[.bool cy, .slice a3 yn.length c3, .slice a4 yd.length c4]] w fun e w' => Below w.heap.size w w' ∧ Compares (RightP bx xn xd ∧ RightP cy yn yd) (sg bx (val xn) * val yd) (sg cy (val yn) * val xd) e := by
  obtain ⟨X, Y, g⟩ := nvar_in2 (bx := bx) (cy := cy) h1 h2 h3 h4
  clear h1 h2 h3 h4
  obtain ⟨X0, X1, X2⟩ := X.cells
  go_enter Tryz.func42, Tryz.ntmps42
  go_wp2_with fail
  clear X0 X1 X2
  generalize hA : (w.alloc (.cells #[.bool bx, .slice a1 xn.length c1, .slice a2 xd.length c2] 25)).alloc (.cells #[.bool cy, .slice a3 yn.length c3, .slice a4 yd.length c4] 25) = v at *
  clear hA
  refine (refRight_rat X.rn X.rd).mono ?_
  rintro e wa ⟨⟨r, rfl, hr⟩, ka⟩
  replace X := X.below ka
  replace Y := Y.below ka
  replace g := g.trans (ka.mono g.size)
  clear ka
  cases r with
  | false =>
    have HP : Hid (¬ RightP bx xn xd) := fun h => by have := hr.2 h; cases this
    clear hr
    go_wp2
    go_ret
    exact ⟨g, 0, rfl, fun _ => rfl, fun h => absurd h.1 HP.out⟩
  | true =>
    have HX : Hid (RightP bx xn xd) := hr.1 rfl
    clear hr
    obtain ⟨Y0, Y1, Y2⟩ := Y.cells
    go_wp2_with fail
    clear Y0 Y1 Y2
    refine (refRight_rat Y.rn Y.rd).mono ?_
    rintro e wb ⟨⟨r, rfl, hr⟩, kb⟩
    replace X := X.below kb
    replace Y := Y.below kb
    replace g := g.trans (kb.mono g.size)
    clear kb
    cases r with
    | false =>
      have HP : Hid (¬ RightP cy yn yd) := fun h => by have := hr.2 h; cases this
      clear hr
      go_wp2
      go_ret
      exact ⟨g, 0, rfl, fun _ => rfl, fun h => absurd h.2 HP.out⟩
    | true =>
      have HY : Hid (RightP cy yn yd) := hr.1 rfl
      clear hr
      have l1 := HX.out.1
      have l2 := HX.out.2.1
      have l3 := HY.out.1
      have l4 := HY.out.2.1
      go_wp2
      have hcells : ∀ {w' : World}, Below wb.heap.size wb w' → w'.cell? ⟨w.heap.size, 0, none⟩ = some (.bool bx) ∧ w'.cell? ⟨w.heap.size, 1, none⟩ = some (.slice a1 xn.length c1) ∧ w'.cell? ⟨w.heap.size, 2, none⟩ = some (.slice a2 xd.length c2) ∧ w'.cell? ⟨(w.heap.size + 1), 0, none⟩ = some (.bool cy) ∧ w'.cell? ⟨(w.heap.size + 1), 1, none⟩ = some (.slice a3 yn.length c3) ∧ w'.cell? ⟨(w.heap.size + 1), 2, none⟩ = some (.slice a4 yd.length c4) := fun hb => ⟨(X.below hb).k0, (X.below hb).k1, (X.below hb).k2, (Y.below hb).k0, (Y.below hb).k1, (Y.below hb).k2⟩
      obtain ⟨s0, s1, s2, s3, s4, s5⟩ := hcells (Below.refl _ _)
      go_region_held3 (fun w' => w'.cell? ⟨w.heap.size, 0, none⟩ = some (.bool bx) ∧ w'.cell? ⟨w.heap.size, 1, none⟩ = some (.slice a1 xn.length c1) ∧ w'.cell? ⟨w.heap.size, 2, none⟩ = some (.slice a2 xd.length c2) ∧ w'.cell? ⟨(w.heap.size + 1), 0, none⟩ = some (.bool cy) ∧ w'.cell? ⟨(w.heap.size + 1), 1, none⟩ = some (.slice a3 yn.length c3) ∧ w'.cell? ⟨(w.heap.size + 1), 2, none⟩ = some (.slice a4 yd.length c4))
        (first | (go_keep; done) | exact tw1 | exact tw2 | exact tw3)
        (first
          | (go_at_call_of 84 (Value.slice a1 xn.length c1); refine (refMul_any (w := wb.drew) X.rn (Nat.le_refl _) Y.rd (Nat.le_refl _) (by omega) (by omega)).mono ?_; rintro e u1 ⟨zs, cz, vz, lz, z1, z2, rfl, oz, j1⟩; have t1 : Below wb.heap.size wb u1 := below_undrew (w := wb) (B := wb.heap.size) j1; have tw1 := hcells t1; have HZ : Hid (can zs ∧ val zs = val xn * val yd) := ⟨cz, vz⟩; clear vz cz; have lz2 : zs.length ≤ 65 := (by omega); clear lz)
          | (have j := tw1; go_at_call_of 84 (Value.slice a3 yn.length c3); refine (refMul_any (Y.below t1).rn (Nat.le_refl _) (X.below t1).rd (Nat.le_refl _) (by omega) (by omega)).mono ?_; rintro e u2 ⟨ts, ct, vt, lt, z3, z4, rfl, ot, j2⟩; have t2 : Below wb.heap.size wb u2 := t1.trans (j2.mono t1.size); have tw2 := hcells t2; have HT : Hid (can ts ∧ val ts = val yn * val xd) := ⟨ct, vt⟩; clear vt ct; have lt2 : ts.length ≤ 65 := (by omega); clear lt; have Z := (oz.rd.below j2).mono j2.size)
          | (have j := tw2; go_at_call 90; refine (refSigned_any Z ot.rd 65 lz2 lt2 (by decide) HZ.out.1 HT.out.1).mono ?_; rintro e u3 ⟨j3, ss, z5, z6, bs, rfl, cs, ls, hs, os⟩; have t3 : Below wb.heap.size wb u3 := t2.trans (j3.mono t2.size); have tw3 := hcells t3; have HS : Hid ((ss.length = 0 → cmpI (sg bx (val xn) * val yd) (sg cy (val yn) * val xd) = 0) ∧ (¬ ss.length = 0 → bs = true → cmpI (sg bx (val xn) * val yd) (sg cy (val yn) * val xd) = -1) ∧ (¬ ss.length = 0 → bs = false → cmpI (sg bx (val xn) * val yd) (sg cy (val yn) * val xd) = 1)) := (signed_cmp cs (by rw [hs.out, HZ.out.2, HT.out.2, sg_not, sg_mul, sg_mul]; omega)); clear hs))
      all_goals
        have gg := g.trans (t3.mono g.size)
        by_cases h0 : ss.length = 0
        · have hb0 : ((ss.length : Int) == 0) = true := by rw [beq_iff_eq]; omega
          go_wp2
          go_ret
          exact ⟨gg, 0, rfl, fun _ => rfl, fun _ => (HS.out.1 h0).symm⟩
        · have hb0 : ((ss.length : Int) == 0) = false := by rw [beq_eq_false_iff_ne]; omega
          cases bs with
          | true =>
            go_wp2
            go_ret
            exact ⟨gg, -1, rfl, fun h => absurd ⟨HX.out, HY.out⟩ h, fun _ => (HS.out.2.1 h0 (by trivial)).symm⟩
          | false =>
            go_wp2
            go_ret
            exact ⟨gg, 1, rfl, fun h => absurd ⟨HX.out, HY.out⟩ h, fun _ => (HS.out.2.2 h0 (by trivial)).symm⟩
end
end Go.Proofs.YtidbebfendjnlaaGreatDoor

/- The document's neg, Neg, Abs. -/
namespace Go.Proofs.YtidbebfendjnlaaGreatDoor
set_option linter.unusedVariables false
set_option linter.unusedSimpArgs false
open Go.RowKit
section
variable {w : World} {b : Bool} {a1 a2 : Option Addr} {c1 c2 : Nat} {ns ds : List Int}
set_option maxRecDepth 100000 in
set_option maxHeartbeats 8000000 in
theorem refNeg_num (h1 : Rd w.heap.size w (.slice a1 ns.length c1) ns) (h2 : Rd w.heap.size w (.slice a2 ds.length c2) ds) (l1 : ns.length ≤ 10000) (l2 : ds.length ≤ 10000) (C : Hid (can ns ∧ can ds)) :
    Calls Tryz.prog 82 #[.agg #[.bool b, .slice a1 ns.length c1, .slice a2 ds.length c2]] w fun e w' => NumAns w (!b && decide (0 < ns.length)) ns ds e w' := by
  obtain ⟨X, R, g⟩ := in1_new (b := b) w h1 h2
  have s0 : w.heap.size ≤ w.heap.size + 1 := by omega
  clear h1 h2
  obtain ⟨x0, x1, x2⟩ := X.cells
  go_enter Tryz.func82, Tryz.ntmps82
  go_wp2_with fail
  clear x0 x1 x2
  generalize hA : (w.alloc (.cells #[.bool b, .slice a1 ns.length c1, .slice a2 ds.length c2] 25)).alloc (.cells #[.bool false, .slice none 0 0, .slice none 0 0] 25) = v at *
  clear hA
  refine (refCopied_any X.rn X.rd l1 l2 C).mono ?_
  rintro e wb ⟨kb, z1, y1, z2, y2, rfl, on, od⟩
  have g0 := g
  have s1 : w.heap.size ≤ v.heap.size := g.size
  cases b with
  | true =>
    have kc := below_alloc wb (.cells #[.bool false, .slice z1 ns.length y1, .slice z2 ds.length y2] 25)
    have R2 := (R.below kb).below kc
    have q0 := R2.box.c0
    have q1 := R2.box.c1
    have q2 := R2.box.c2
    have p0 := R2.box.f0
    have p1 := R2.box.f1
    have p2 := R2.box.f2
    go_wp2
    have hR3 := R2.box.set (.bool false) (.slice z1 ns.length y1) (.slice z2 ds.length y2)
    have r0 := hR3.c0
    have r1 := hR3.c1
    have r2 := hR3.c2
    refine bodyPost_ret (v := .agg #[.bool false, .slice z1 ns.length y1, .slice z2 ds.length y2]) (by simp [results, Tryz.results82, go_sem, r0, r1, r2]) rfl ?_
    have hbb : (!true && decide (0 < ns.length)) = false := by simp
    rw [hbb]
    exact ⟨Below.set3 (g0.trans ((kb.trans (kc.mono kb.size)).mono s1)) s0 _ _ _, z1, y1, z2, y2, rfl, (Own.set3 (on.alloc _) R.lt _ _ _).mono s1, (Own.set3 (od.alloc _) R.lt _ _ _).mono s1⟩
  | false =>
    by_cases hl : 0 < ns.length
    · have hlb : decide (0 < (ns.length : Int)) = true := decide_eq_true (by omega)
      have hln : decide (0 < ns.length) = true := decide_eq_true hl
      have kc := below_alloc wb (.cells #[.bool true, .slice z1 ns.length y1, .slice z2 ds.length y2] 25)
      have R2 := (R.below kb).below kc
      have q0 := R2.box.c0
      have q1 := R2.box.c1
      have q2 := R2.box.c2
      have p0 := R2.box.f0
      have p1 := R2.box.f1
      have p2 := R2.box.f2
      go_wp2
      have hR3 := R2.box.set (.bool true) (.slice z1 ns.length y1) (.slice z2 ds.length y2)
      have r0 := hR3.c0
      have r1 := hR3.c1
      have r2 := hR3.c2
      refine bodyPost_ret (v := .agg #[.bool true, .slice z1 ns.length y1, .slice z2 ds.length y2]) (by simp [results, Tryz.results82, go_sem, r0, r1, r2]) rfl ?_
      have hbb : (!false && decide (0 < ns.length)) = true := by rw [hln]; rfl
      rw [hbb]
      exact ⟨Below.set3 (g0.trans ((kb.trans (kc.mono kb.size)).mono s1)) s0 _ _ _, z1, y1, z2, y2, rfl, (Own.set3 (on.alloc _) R.lt _ _ _).mono s1, (Own.set3 (od.alloc _) R.lt _ _ _).mono s1⟩
    · have hlb : decide (0 < (ns.length : Int)) = false := decide_eq_false (by omega)
      have hln : decide (0 < ns.length) = false := decide_eq_false hl
      have kc := below_alloc wb (.cells #[.bool false, .slice z1 ns.length y1, .slice z2 ds.length y2] 25)
      have R2 := (R.below kb).below kc
      have q0 := R2.box.c0
      have q1 := R2.box.c1
      have q2 := R2.box.c2
      have p0 := R2.box.f0
      have p1 := R2.box.f1
      have p2 := R2.box.f2
      go_wp2
      have hR3 := R2.box.set (.bool false) (.slice z1 ns.length y1) (.slice z2 ds.length y2)
      have r0 := hR3.c0
      have r1 := hR3.c1
      have r2 := hR3.c2
      refine bodyPost_ret (v := .agg #[.bool false, .slice z1 ns.length y1, .slice z2 ds.length y2]) (by simp [results, Tryz.results82, go_sem, r0, r1, r2]) rfl ?_
      have hbb : (!false && decide (0 < ns.length)) = false := by rw [hln]; rfl
      rw [hbb]
      exact ⟨Below.set3 (g0.trans ((kb.trans (kc.mono kb.size)).mono s1)) s0 _ _ _, z1, y1, z2, y2, rfl, (Own.set3 (on.alloc _) R.lt _ _ _).mono s1, (Own.set3 (od.alloc _) R.lt _ _ _).mono s1⟩
set_option maxRecDepth 100000 in
set_option maxHeartbeats 8000000 in
theorem refNeg_rat (h1 : Rd w.heap.size w (.slice a1 ns.length c1) ns) (h2 : Rd w.heap.size w (.slice a2 ds.length c2) ds) :
    Calls Tryz.prog 34 #[.agg #[.bool b, .slice a1 ns.length c1, .slice a2 ds.length c2]] w fun e w' => Gives w (RightP b ns ds) (-(sg b (val ns))) (val ds) e w' := by
  obtain ⟨X, R, g⟩ := in1_new (b := b) w h1 h2
  have s0 : w.heap.size ≤ w.heap.size + 1 := by omega
  clear h1 h2
  obtain ⟨x0, x1, x2⟩ := X.cells
  go_enter Tryz.func34, Tryz.ntmps34
  go_wp2_with fail
  clear x0 x1 x2
  generalize hA : (w.alloc (.cells #[.bool b, .slice a1 ns.length c1, .slice a2 ds.length c2] 25)).alloc (.cells #[.bool false, .slice none 0 0, .slice none 0 0] 25) = v at *
  clear hA
  refine (refRight_rat X.rn X.rd).mono ?_
  rintro e wa ⟨⟨r, rfl, hr⟩, ka⟩
  replace X := X.below ka
  replace R := R.below ka
  replace g := g.trans (ka.mono g.size)
  clear ka
  cases r with
  | false =>
    have HP : Hid (¬ RightP b ns ds) := fun h => by have := hr.2 h; cases this
    clear hr
    have q0 := R.box.c0
    have q1 := R.box.c1
    have q2 := R.box.c2
    have p0 := R.box.f0
    have p1 := R.box.f1
    have p2 := R.box.f2
    go_wp2
    have hR3 := R.box.set (.bool false) (.slice none 0 0) (.slice none 0 0)
    have r0 := hR3.c0
    have r1 := hR3.c1
    have r2 := hR3.c2
    refine bodyPost_ret (v := .tuple #[.agg #[.bool false, .slice none 0 0, .slice none 0 0], .int .i64 22]) (by simp [results, Tryz.results34, go_sem, r0, r1, r2]) rfl ?_
    exact gives_err HP.out (Below.set3 g s0 _ _ _)
  | true =>
    have HP : Hid (RightP b ns ds) := hr.1 rfl
    clear hr
    have l1 : ns.length ≤ 10000 := Nat.le_trans HP.out.1 (by decide)
    have l2 : ds.length ≤ 10000 := Nat.le_trans HP.out.2.1 (by decide)
    have C : Hid (can ns ∧ can ds) := ⟨HP.out.2.2.1, HP.out.2.2.2.1⟩
    obtain ⟨x0, x1, x2⟩ := X.cells
    go_wp2_with fail
    clear x0 x1 x2
    refine (refNeg_num X.rn X.rd l1 l2 C).mono ?_
    rintro e wb ⟨kb, z1, y1, z2, y2, rfl, on, od⟩
    have HB := right_with (!b) HP.out
    have R' := R
    replace R := R.below kb
    replace g := g.trans (kb.mono g.size)
    have q0 := R.box.c0
    have q1 := R.box.c1
    have q2 := R.box.c2
    have p0 := R.box.f0
    have p1 := R.box.f1
    have p2 := R.box.f2
    go_wp2
    have hR3 := R.box.set (.bool (!b && decide (0 < ns.length))) (.slice z1 ns.length y1) (.slice z2 ds.length y2)
    have r0 := hR3.c0
    have r1 := hR3.c1
    have r2 := hR3.c2
    refine bodyPost_ret (v := .tuple #[.agg #[.bool (!b && decide (0 < ns.length)), .slice z1 ns.length y1, .slice z2 ds.length y2], .int .i64 0]) (by simp [results, Tryz.results34, go_sem, r0, r1, r2]) rfl ?_
    exact gives_num HP.out (Below.set3 g s0 _ _ _) ((Own.set3 on R'.lt _ _ _).mono (Nat.le_trans s0 (Nat.le_of_lt R'.lt))) ((Own.set3 od R'.lt _ _ _).mono (Nat.le_trans s0 (Nat.le_of_lt R'.lt))) HB.1 (by rw [HB.2, sg_not])
set_option maxRecDepth 100000 in
set_option maxHeartbeats 8000000 in
theorem refAbs_rat (h1 : Rd w.heap.size w (.slice a1 ns.length c1) ns) (h2 : Rd w.heap.size w (.slice a2 ds.length c2) ds) :
    Calls Tryz.prog 36 #[.agg #[.bool b, .slice a1 ns.length c1, .slice a2 ds.length c2]] w fun e w' => Gives w (RightP b ns ds) (val ns) (val ds) e w' := by
  obtain ⟨X, R, g⟩ := in1_new (b := b) w h1 h2
  have s0 : w.heap.size ≤ w.heap.size + 1 := by omega
  clear h1 h2
  obtain ⟨x0, x1, x2⟩ := X.cells
  go_enter Tryz.func36, Tryz.ntmps36
  go_wp2_with fail
  clear x0 x1 x2
  generalize hA : (w.alloc (.cells #[.bool b, .slice a1 ns.length c1, .slice a2 ds.length c2] 25)).alloc (.cells #[.bool false, .slice none 0 0, .slice none 0 0] 25) = v at *
  clear hA
  refine (refRight_rat X.rn X.rd).mono ?_
  rintro e wa ⟨⟨r, rfl, hr⟩, ka⟩
  replace X := X.below ka
  replace R := R.below ka
  replace g := g.trans (ka.mono g.size)
  clear ka
  cases r with
  | false =>
    have HP : Hid (¬ RightP b ns ds) := fun h => by have := hr.2 h; cases this
    clear hr
    have q0 := R.box.c0
    have q1 := R.box.c1
    have q2 := R.box.c2
    have p0 := R.box.f0
    have p1 := R.box.f1
    have p2 := R.box.f2
    go_wp2
    have hR3 := R.box.set (.bool false) (.slice none 0 0) (.slice none 0 0)
    have r0 := hR3.c0
    have r1 := hR3.c1
    have r2 := hR3.c2
    refine bodyPost_ret (v := .tuple #[.agg #[.bool false, .slice none 0 0, .slice none 0 0], .int .i64 22]) (by simp [results, Tryz.results36, go_sem, r0, r1, r2]) rfl ?_
    exact gives_err HP.out (Below.set3 g s0 _ _ _)
  | true =>
    have HP : Hid (RightP b ns ds) := hr.1 rfl
    clear hr
    have l1 : ns.length ≤ 10000 := Nat.le_trans HP.out.1 (by decide)
    have l2 : ds.length ≤ 10000 := Nat.le_trans HP.out.2.1 (by decide)
    have C : Hid (can ns ∧ can ds) := ⟨HP.out.2.2.1, HP.out.2.2.2.1⟩
    obtain ⟨x0, x1, x2⟩ := X.cells
    go_wp2_with fail
    clear x0 x1 x2
    refine (refCopied_any X.rn X.rd l1 l2 C).mono ?_
    rintro e wb ⟨kb, z1, y1, z2, y2, rfl, on, od⟩
    have HB : RightP false ns ds := by have h := (right_with false HP.out).1; rw [Bool.false_and] at h; exact h
    have s1 : w.heap.size ≤ wa.heap.size := g.size
    have g0 := g
    have kc := below_alloc wb (.cells #[.bool false, .slice z1 ns.length y1, .slice z2 ds.length y2] 25)
    have R2 := (R.below kb).below kc
    have q0 := R2.box.c0
    have q1 := R2.box.c1
    have q2 := R2.box.c2
    have p0 := R2.box.f0
    have p1 := R2.box.f1
    have p2 := R2.box.f2
    go_wp2
    have hR3 := R2.box.set (.bool false) (.slice z1 ns.length y1) (.slice z2 ds.length y2)
    have r0 := hR3.c0
    have r1 := hR3.c1
    have r2 := hR3.c2
    refine bodyPost_ret (v := .tuple #[.agg #[.bool false, .slice z1 ns.length y1, .slice z2 ds.length y2], .int .i64 0]) (by simp [results, Tryz.results36, go_sem, r0, r1, r2]) rfl ?_
    exact gives_num HP.out (Below.set3 (g0.trans ((kb.trans (kc.mono kb.size)).mono s1)) s0 _ _ _) ((Own.set3 (on.alloc _) R.lt _ _ _).mono s1) ((Own.set3 (od.alloc _) R.lt _ _ _).mono s1) HB (by rw [sg_false])
end
end Go.Proofs.YtidbebfendjnlaaGreatDoor

/- The document's Floor: the whole number next to it. -/
namespace Go.Proofs.YtidbebfendjnlaaGreatDoor
set_option linter.unusedVariables false
set_option linter.unusedSimpArgs false
open Go.RowKit

theorem RMakes.from' {w0 w w' : World} {N D : Int} {e : Ending} (t : Below w0.heap.size w0 w) (h : RMakes w N D e w') : RMakes w0 N D e w' := by
  obtain ⟨hb, h⟩ := h
  refine ⟨t.trans (hb.mono t.size), ?_⟩
  rcases h with h | ⟨b, ns, ds, a1, c1, a2, c2, he, on, od, hr, hv⟩
  · exact Or.inl h
  · exact Or.inr ⟨b, ns, ds, a1, c1, a2, c2, he, on.mono t.size, od.mono t.size, hr, hv⟩

section
variable {w : World} {bx : Bool} {a1 a2 : Option Addr} {c1 c2 : Nat} {xn xd : List Int}
theorem in1_new' (w : World) (h1 : Rd w.heap.size w (.slice a1 xn.length c1) xn) (h2 : Rd w.heap.size w (.slice a2 xd.length c2) xd) :
    NVar ((w.alloc (.cells #[.bool bx, .slice a1 xn.length c1, .slice a2 xd.length c2] 25)).alloc (.cells #[.bool false, .slice none 0 0, .slice none 0 0] 25)) w.heap.size bx a1 xn c1 a2 xd c2 ∧ RVar ((w.alloc (.cells #[.bool bx, .slice a1 xn.length c1, .slice a2 xd.length c2] 25)).alloc (.cells #[.bool false, .slice none 0 0, .slice none 0 0] 25)) (w.heap.size + 1) ∧ Below w.heap.size w ((w.alloc (.cells #[.bool bx, .slice a1 xn.length c1, .slice a2 xd.length c2] 25)).alloc (.cells #[.bool false, .slice none 0 0, .slice none 0 0] 25)) := in1_new (b := bx) w h1 h2

set_option maxRecDepth 100000 in
set_option maxHeartbeats 8000000 in
theorem refFloor_whole (h1 : Rd w.heap.size w (.slice a1 xn.length c1) xn) (h2 : Rd w.heap.size w (.slice a2 xd.length c2) xd) :
    Calls Tryz.prog 40 #[.agg #[.bool bx, .slice a1 xn.length c1, .slice a2 xd.length c2]] w fun e w' => Gives w (RightP bx xn xd) (sg bx (wholeM bx (val xn) (val xd))) 1 e w' := by
  obtain ⟨X, R, g⟩ := in1_new' (bx := bx) w h1 h2
  have s0 : w.heap.size ≤ w.heap.size + 1 := by omega
  clear h1 h2
  obtain ⟨x0, x1, x2⟩ := X.cells
  go_enter Tryz.func40, Tryz.ntmps40
  go_wp2_with fail
  clear x0 x1 x2
  generalize hA : (w.alloc (.cells #[.bool bx, .slice a1 xn.length c1, .slice a2 xd.length c2] 25)).alloc (.cells #[.bool false, .slice none 0 0, .slice none 0 0] 25) = v at *
  clear hA
  refine (refRight_rat X.rn X.rd).mono ?_
  rintro e wa ⟨⟨r, rfl, hr⟩, ka⟩
  replace X := X.below ka
  replace R := R.below ka
  replace g := g.trans (ka.mono g.size)
  clear ka
  cases r with
  | false =>
    have HP : Hid (¬ RightP bx xn xd) := fun h => by have := hr.2 h; cases this
    clear hr
    have q0 := R.box.c0
    have q1 := R.box.c1
    have q2 := R.box.c2
    have p0 := R.box.f0
    have p1 := R.box.f1
    have p2 := R.box.f2
    go_wp2
    have hR3 := R.box.set (.bool false) (.slice none 0 0) (.slice none 0 0)
    have r0 := hR3.c0
    have r1 := hR3.c1
    have r2 := hR3.c2
    refine bodyPost_ret (v := .tuple #[.agg #[.bool false, .slice none 0 0, .slice none 0 0], .int .i64 22]) (by simp [results, Tryz.results40, go_sem, r0, r1, r2]) rfl ?_
    exact gives_err HP.out (Below.set3 g s0 _ _ _)
  | true =>
    have HP : Hid (RightP bx xn xd) := hr.1 rfl
    clear hr
    have l1 := HP.out.1
    have l2 := HP.out.2.1
    have ga := g
    have Ra := R
    have s1 : w.heap.size ≤ wa.heap.size := g.size
    have hcells2 : ∀ {w' : World}, Below wa.heap.size wa w' → w'.cell? ⟨w.heap.size, 0, none⟩ = some (.bool bx) := fun hb => (X.below hb).k0
    have X2 : ∀ {w' : World}, Below wa.heap.size wa w' → NVar w' w.heap.size bx a1 xn c1 a2 xd c2 := fun hb => X.below hb
    obtain ⟨x0, x1, x2⟩ := X.cells
    go_wp2_with fail
    clear x0 x1 x2
    refine (refDivMod_form X.rn (Nat.le_refl _) X.rd (Nat.le_refl _) (by omega) (by omega)).mono ?_
    rintro e wb ⟨qs, rs, a5, c5, a6, c6, bq, rfl, oq, or, HQ0, kb⟩
    have HQ : Hid (bq = true ∧ can qs ∧ can rs ∧ val qs = val xn / val xd ∧ val rs = val xn % val xd) := by
      rcases HQ0.out with ⟨h5, _⟩ | ⟨_, hb5, cq, cr, hv5, hl5⟩
      · have := (right_pos HP.out).1; omega
      · have h6 := div_unique hv5 (val_bound cr.1).1 hl5
        exact ⟨hb5, cq, cr, h6.1, h6.2⟩
    clear HQ0
    have lq : qs.length ≤ 32 := by
      rw [can_len_pw HQ.out.2.1, HQ.out.2.2.2.1]
      exact Int.lt_of_le_of_lt (Int.ediv_le_self _ (right_pos HP.out).2) ((can_len_pw HP.out.2.2.1 32).1 HP.out.1)
    replace X := X.below kb
    have t1 : Below wa.heap.size wa wb := kb
    clear kb R g
    have HRS : Hid (0 < rs.length ↔ ¬ val rs = 0) := can_add_one (q := qs) HQ.out.2.2.1
    by_cases hcs : bx = true ∧ 0 < rs.length
    · obtain ⟨rfl, hrl⟩ := hcs
      have HM : Hid (wholeM true (val xn) (val xd) = val qs + 1) := by
        unfold Hid wholeM
        rw [if_pos ⟨rfl, by rw [← HQ.out.2.2.2.2]; exact HRS.out.1 hrl⟩, HQ.out.2.2.2.1]
      go_wp2_with fail
      refine (refOne_any _).mono ?_
      rintro e wc ⟨os, a7, c7, HO, rfl, o7, kc⟩
      have lo : os.length ≤ 1 := by rw [HO.out]; simp
      replace X := X.below kc
      have t3 : Below wa.heap.size wa wc := t1.trans (kc.mono t1.size)
      have oqc := oq.below kc (Nat.le_refl _)
      go_wp2_with fail
      refine (refAdd_any oqc.rd (Nat.le_refl _) o7.rd (Nat.le_refl _) (by omega) (by omega)).mono ?_
      rintro e wd ⟨zs, cz, vz, lz, a8, c8, rfl, o8, kd⟩
      have HZ : Hid (val zs = wholeM true (val xn) (val xd)) := by
        unfold Hid; rw [vz, HM.out, HO.out, one_val]
      clear vz
      replace X := X.below kd
      have t4 : Below wa.heap.size wa wd := t3.trans (kd.mono t3.size)
      have x0 := X.k0
      have hcells : ∀ {w' : World}, Below wd.heap.size wd w' → w'.cell? ⟨w.heap.size, 0, none⟩ = some (.bool true) := fun hb => (X.below hb).k0
      have hne : w.heap.size + 1 ≠ w.heap.size := by omega
      have lz2 : zs.length ≤ 10000 := by omega
      go_wp2
      go_region_held3 (fun w' => w'.cell? ⟨w.heap.size, 0, none⟩ = some (.bool true))
        (first | (go_keep; done) | exact tw | exact tw2 | exact tws)
        (first
          | (go_at_call 66; refine (refOne_any _).mono ?_; rintro e we ⟨es, x2, y2, HE, rfl, o3, bf'⟩; have bf : Below wd.heap.size wd we := below_undrew (w := wd) (B := wd.heap.size) bf'; have tw := hcells bf; have t2 : Below wa.heap.size wa we := t4.trans (bf.mono t4.size); have le1 : es.length ≤ 10000 := (by rw [HE.out]; simp))
          | (have j := tw; go_at_call 11; refine (refMake_rat (b := true) ((o8.rd.below bf).mono bf.size) o3.rd (by exact lz2) (by exact le1) (by rw [HE.out, one_val]; decide)).mono ?_; intro e wf hm6; rw [HE.out, one_val, HZ.out] at hm6; obtain ⟨bm6, b6, x5, n5, y5, x6, n6, y6, err, rfl, hform⟩ := (RMakes.from' t2 hm6).form; have tw2 := hcells2 bm6; have Xf := X2 bm6; have Rf := Ra.below bm6; have tws := (((Xf.box.apart (p := ⟨w.heap.size + 1, 0, none⟩) hne (.bool b6)).apart (p := ⟨w.heap.size + 1, 1, none⟩) hne (.slice x5 n5 y5)).apart (p := ⟨w.heap.size + 1, 2, none⟩) hne (.slice x6 n6 y6)).c0; have q0 := Rf.box.c0; have q1 := Rf.box.c1; have q2 := Rf.box.c2; have p0 := Rf.box.f0; have p1 := Rf.box.f1; have p2 := Rf.box.f2))
      all_goals
        go_wp2
        have hR3 := Rf.box.set (.bool b6) (.slice x5 n5 y5) (.slice x6 n6 y6)
        have r0 := hR3.c0
        have r1 := hR3.c1
        have r2 := hR3.c2
        refine bodyPost_ret (v := .tuple #[.agg #[.bool b6, .slice x5 n5 y5, .slice x6 n6 y6], .int .i64 err]) (by simp [results, Tryz.results40, go_sem, r0, r1, r2]) rfl ?_
        exact (rform_done ga s0 Ra.lt bm6 hform).gives HP.out
    · have HM : Hid (val qs = wholeM bx (val xn) (val xd)) := by
        unfold Hid wholeM
        rw [if_neg, Int.add_zero]
        · exact HQ.out.2.2.2.1
        · rintro ⟨hf, h0⟩
          exact hcs ⟨hf, HRS.out.2 (by rw [HQ.out.2.2.2.2]; exact h0)⟩
      have hcs2 : bx = false ∨ (bx = true ∧ ¬ 0 < rs.length) := by
        cases bx with
        | false => exact Or.inl rfl
        | true => exact Or.inr ⟨rfl, fun h => hcs ⟨rfl, h⟩⟩
      clear hcs
      rcases hcs2 with rfl | ⟨rfl, hr0⟩
      · have x0 := X.k0
        have hcells : ∀ {w' : World}, Below wb.heap.size wb w' → w'.cell? ⟨w.heap.size, 0, none⟩ = some (.bool false) := fun hb => (X.below hb).k0
        have hne : w.heap.size + 1 ≠ w.heap.size := by omega
        have lz2 : qs.length ≤ 10000 := by omega
        go_wp2
        go_region_held3 (fun w' => w'.cell? ⟨w.heap.size, 0, none⟩ = some (.bool false))
          (first | (go_keep; done) | exact tw | exact tw2 | exact tws)
          (first
            | (go_at_call 66; refine (refOne_any _).mono ?_; rintro e we ⟨es, x2, y2, HE, rfl, o3, bf'⟩; have bf : Below wb.heap.size wb we := below_undrew (w := wb) (B := wb.heap.size) bf'; have tw := hcells bf; have t2 : Below wa.heap.size wa we := t1.trans (bf.mono t1.size); have le1 : es.length ≤ 10000 := (by rw [HE.out]; simp))
            | (have j := tw; go_at_call 11; refine (refMake_rat (b := false) ((oq.rd.below bf).mono bf.size) o3.rd (by exact lz2) (by exact le1) (by rw [HE.out, one_val]; decide)).mono ?_; intro e wf hm6; rw [HE.out, one_val, HM.out] at hm6; obtain ⟨bm6, b6, x5, n5, y5, x6, n6, y6, err, rfl, hform⟩ := (RMakes.from' t2 hm6).form; have tw2 := hcells2 bm6; have Xf := X2 bm6; have Rf := Ra.below bm6; have tws := (((Xf.box.apart (p := ⟨w.heap.size + 1, 0, none⟩) hne (.bool b6)).apart (p := ⟨w.heap.size + 1, 1, none⟩) hne (.slice x5 n5 y5)).apart (p := ⟨w.heap.size + 1, 2, none⟩) hne (.slice x6 n6 y6)).c0; have q0 := Rf.box.c0; have q1 := Rf.box.c1; have q2 := Rf.box.c2; have p0 := Rf.box.f0; have p1 := Rf.box.f1; have p2 := Rf.box.f2))
        all_goals
          go_wp2
          have hR3 := Rf.box.set (.bool b6) (.slice x5 n5 y5) (.slice x6 n6 y6)
          have r0 := hR3.c0
          have r1 := hR3.c1
          have r2 := hR3.c2
          refine bodyPost_ret (v := .tuple #[.agg #[.bool b6, .slice x5 n5 y5, .slice x6 n6 y6], .int .i64 err]) (by simp [results, Tryz.results40, go_sem, r0, r1, r2]) rfl ?_
          exact (rform_done ga s0 Ra.lt bm6 hform).gives HP.out
      · have x0 := X.k0
        have hcells : ∀ {w' : World}, Below wb.heap.size wb w' → w'.cell? ⟨w.heap.size, 0, none⟩ = some (.bool true) := fun hb => (X.below hb).k0
        have hne : w.heap.size + 1 ≠ w.heap.size := by omega
        have lz2 : qs.length ≤ 10000 := by omega
        go_wp2
        go_region_held3 (fun w' => w'.cell? ⟨w.heap.size, 0, none⟩ = some (.bool true))
          (first | (go_keep; done) | exact tw | exact tw2 | exact tws)
          (first
            | (go_at_call 66; refine (refOne_any _).mono ?_; rintro e we ⟨es, x2, y2, HE, rfl, o3, bf'⟩; have bf : Below wb.heap.size wb we := below_undrew (w := wb) (B := wb.heap.size) bf'; have tw := hcells bf; have t2 : Below wa.heap.size wa we := t1.trans (bf.mono t1.size); have le1 : es.length ≤ 10000 := (by rw [HE.out]; simp))
            | (have j := tw; go_at_call 11; refine (refMake_rat (b := true) ((oq.rd.below bf).mono bf.size) o3.rd (by exact lz2) (by exact le1) (by rw [HE.out, one_val]; decide)).mono ?_; intro e wf hm6; rw [HE.out, one_val, HM.out] at hm6; obtain ⟨bm6, b6, x5, n5, y5, x6, n6, y6, err, rfl, hform⟩ := (RMakes.from' t2 hm6).form; have tw2 := hcells2 bm6; have Xf := X2 bm6; have Rf := Ra.below bm6; have tws := (((Xf.box.apart (p := ⟨w.heap.size + 1, 0, none⟩) hne (.bool b6)).apart (p := ⟨w.heap.size + 1, 1, none⟩) hne (.slice x5 n5 y5)).apart (p := ⟨w.heap.size + 1, 2, none⟩) hne (.slice x6 n6 y6)).c0; have q0 := Rf.box.c0; have q1 := Rf.box.c1; have q2 := Rf.box.c2; have p0 := Rf.box.f0; have p1 := Rf.box.f1; have p2 := Rf.box.f2))
        all_goals
          go_wp2
          have hR3 := Rf.box.set (.bool b6) (.slice x5 n5 y5) (.slice x6 n6 y6)
          have r0 := hR3.c0
          have r1 := hR3.c1
          have r2 := hR3.c2
          refine bodyPost_ret (v := .tuple #[.agg #[.bool b6, .slice x5 n5 y5, .slice x6 n6 y6], .int .i64 err]) (by simp [results, Tryz.results40, go_sem, r0, r1, r2]) rfl ?_
          exact (rform_done ga s0 Ra.lt bm6 hform).gives HP.out

theorem refFloor_rat (h1 : Rd w.heap.size w (.slice a1 xn.length c1) xn) (h2 : Rd w.heap.size w (.slice a2 xd.length c2) xd) :
    Calls Tryz.prog 40 #[.agg #[.bool bx, .slice a1 xn.length c1, .slice a2 xd.length c2]] w fun e w' => Gives w (RightP bx xn xd) (sg bx (val xn) / val xd) 1 e w' := by
  refine (refFloor_whole h1 h2).mono ?_
  intro e w' hd
  by_cases hP : RightP bx xn xd
  · rw [floor_whole bx _ _ (right_pos hP).2 (right_pos hP).1] at hd
    exact hd
  · obtain ⟨k1, c, z1, n, z2, z3, m, z4, er, he, hO⟩ := hd
    refine ⟨k1, c, z1, n, z2, z3, m, z4, er, he, ?_⟩
    rcases hO.out with h | ⟨h, _⟩ | ⟨h, _⟩
    · exact Or.inl h
    · exact absurd h hP
    · exact absurd h hP
end
end Go.Proofs.YtidbebfendjnlaaGreatDoor

/- The document's Ceil. -/
namespace Go.Proofs.YtidbebfendjnlaaGreatDoor
set_option linter.unusedVariables false
set_option linter.unusedSimpArgs false
open Go.RowKit
section
variable {w : World} {b : Bool} {a1 a2 : Option Addr} {c1 c2 : Nat} {ns ds : List Int}
set_option maxRecDepth 100000 in
set_option maxHeartbeats 8000000 in
theorem refCeil_rat (h1 : Rd w.heap.size w (.slice a1 ns.length c1) ns) (h2 : Rd w.heap.size w (.slice a2 ds.length c2) ds) :
    Calls Tryz.prog 38 #[.agg #[.bool b, .slice a1 ns.length c1, .slice a2 ds.length c2]] w fun e w' => Gives w (RightP b ns ds) (-((-(sg b (val ns))) / val ds)) 1 e w' := by
  obtain ⟨X, R, g⟩ := in1_new (b := b) w h1 h2
  have s0 : w.heap.size ≤ w.heap.size + 1 := by omega
  clear h1 h2
  obtain ⟨x0, x1, x2⟩ := X.cells
  go_enter Tryz.func38, Tryz.ntmps38
  go_wp2_with fail
  clear x0 x1 x2
  generalize hA : (w.alloc (.cells #[.bool b, .slice a1 ns.length c1, .slice a2 ds.length c2] 25)).alloc (.cells #[.bool false, .slice none 0 0, .slice none 0 0] 25) = v at *
  clear hA
  refine (refRight_rat X.rn X.rd).mono ?_
  rintro e wa ⟨⟨r, rfl, hr⟩, ka⟩
  replace X := X.below ka
  replace R := R.below ka
  replace g := g.trans (ka.mono g.size)
  clear ka
  cases r with
  | false =>
    have HP : Hid (¬ RightP b ns ds) := fun h => by have := hr.2 h; cases this
    clear hr
    have q0 := R.box.c0
    have q1 := R.box.c1
    have q2 := R.box.c2
    have p0 := R.box.f0
    have p1 := R.box.f1
    have p2 := R.box.f2
    go_wp2
    have hR3 := R.box.set (.bool false) (.slice none 0 0) (.slice none 0 0)
    have r0 := hR3.c0
    have r1 := hR3.c1
    have r2 := hR3.c2
    refine bodyPost_ret (v := .tuple #[.agg #[.bool false, .slice none 0 0, .slice none 0 0], .int .i64 22]) (by simp [results, Tryz.results38, go_sem, r0, r1, r2]) rfl ?_
    exact gives_err HP.out (Below.set3 g s0 _ _ _)
  | true =>
    have HP : Hid (RightP b ns ds) := hr.1 rfl
    clear hr
    have l1 : ns.length ≤ 10000 := Nat.le_trans HP.out.1 (by decide)
    have l2 : ds.length ≤ 10000 := Nat.le_trans HP.out.2.1 (by decide)
    have C : Hid (can ns ∧ can ds) := ⟨HP.out.2.2.1, HP.out.2.2.2.1⟩
    have HB := right_with (!b) HP.out
    rw [sg_not] at HB
    obtain ⟨x0, x1, x2⟩ := X.cells
    go_wp2_with fail
    clear x0 x1 x2
    refine (refNeg_num X.rn X.rd l1 l2 C).mono ?_
    rintro e wb ⟨kb, z1, y1, z2, y2, rfl, on, od⟩
    replace R := R.below kb
    replace g := g.trans (kb.mono g.size)
    generalize (!b && decide (0 < ns.length)) = c at *
    go_wp2_with fail
    refine (refFloor_rat on.rd od.rd).mono ?_
    intro e wc hm
    rcases gives_or hm HB.1 with ⟨kc, ⟨rfl, hbig⟩ | ⟨c2, ms, es, z5, z6, z7, z8, rfl, om, oe, hr, hv⟩⟩
    · replace R := R.below kc
      replace g := g.trans (kc.mono g.size)
      have HG : Hid (Big (-((-(sg b (val ns))) / val ds)) 1) := (by rw [HB.2] at hbig; exact big_neg hbig)
      have kd := below_alloc wc (.cells #[.bool false, .slice none 0 0, .slice none 0 0] 25)
      replace R := R.below kd
      replace g := g.trans (kd.mono g.size)
      have q0 := R.box.c0
      have q1 := R.box.c1
      have q2 := R.box.c2
      have p0 := R.box.f0
      have p1 := R.box.f1
      have p2 := R.box.f2
      go_wp2
      have hR3 := R.box.set (.bool false) (.slice none 0 0) (.slice none 0 0)
      have r0 := hR3.c0
      have r1 := hR3.c1
      have r2 := hR3.c2
      refine bodyPost_ret (v := .tuple #[.agg #[.bool false, .slice none 0 0, .slice none 0 0], .int .i64 8]) (by simp [results, Tryz.results38, go_sem, r0, r1, r2]) rfl ?_
      exact RMakes.gives (show RMakes w _ _ _ _ from ⟨Below.set3 g s0 _ _ _, Or.inl ⟨rfl, HG.out⟩⟩) HP.out
    · replace R := R.below kc
      replace g := g.trans (kc.mono g.size)
      have HR : Hid (RightP c2 ms es ∧ sg c2 (val ms) * 1 = (-(sg b (val ns))) / val ds * val es) := ⟨hr, by rw [HB.2] at hv; exact hv⟩
      clear hr hv hm
      have F := nvar_new (b := c2) om.rd oe.rd
      have kd := below_alloc wc (.cells #[.bool c2, .slice z5 ms.length z6, .slice z7 es.length z8] 25)
      replace R := R.below kd
      replace g := g.trans (kd.mono g.size)
      clear kd
      have m1 : ms.length ≤ 10000 := Nat.le_trans HR.out.1.1 (by decide)
      have m2 : es.length ≤ 10000 := Nat.le_trans HR.out.1.2.1 (by decide)
      have M : Hid (can ms ∧ can es) := ⟨HR.out.1.2.2.1, HR.out.1.2.2.2.1⟩
      obtain ⟨x0, x1, x2⟩ := F.cells
      go_wp2_with fail
      clear x0 x1 x2
      generalize hA : wc.alloc (.cells #[.bool c2, .slice z5 ms.length z6, .slice z7 es.length z8] 25) = wd at *
      clear hA
      refine (refNeg_num F.rn F.rd m1 m2 M).mono ?_
      rintro e we ⟨ke, t1, u1, t2, u2, rfl, ot, ou⟩
      have HC := right_with (!c2) HR.out.1
      have R' := R
      replace R := R.below ke
      replace g := g.trans (ke.mono g.size)
      have q0 := R.box.c0
      have q1 := R.box.c1
      have q2 := R.box.c2
      have p0 := R.box.f0
      have p1 := R.box.f1
      have p2 := R.box.f2
      go_wp2
      have hR3 := R.box.set (.bool (!c2 && decide (0 < ms.length))) (.slice t1 ms.length u1) (.slice t2 es.length u2)
      have r0 := hR3.c0
      have r1 := hR3.c1
      have r2 := hR3.c2
      refine bodyPost_ret (v := .tuple #[.agg #[.bool (!c2 && decide (0 < ms.length)), .slice t1 ms.length u1, .slice t2 es.length u2], .int .i64 0]) (by simp [results, Tryz.results38, go_sem, r0, r1, r2]) rfl ?_
      exact gives_num HP.out (Below.set3 g s0 _ _ _) ((Own.set3 ot R'.lt _ _ _).mono (Nat.le_trans s0 (Nat.le_of_lt R'.lt))) ((Own.set3 ou R'.lt _ _ _).mono (Nat.le_trans s0 (Nat.le_of_lt R'.lt))) HC.1 (by rw [HC.2, sg_not, Int.neg_mul, HR.out.2, Int.neg_mul])
end
end Go.Proofs.YtidbebfendjnlaaGreatDoor

/- The document's Times. -/
namespace Go.Proofs.YtidbebfendjnlaaGreatDoor
set_option linter.unusedVariables false
set_option linter.unusedSimpArgs false
open Go.RowKit
section
variable {w : World} {bx cy : Bool} {a1 a2 a3 a4 : Option Addr} {c1 c2 c3 c4 : Nat} {xn xd yn yd : List Int}
theorem in2_r (w : World) (h1 : Rd w.heap.size w (.slice a1 xn.length c1) xn) (h2 : Rd w.heap.size w (.slice a2 xd.length c2) xd) (h3 : Rd w.heap.size w (.slice a3 yn.length c3) yn) (h4 : Rd w.heap.size w (.slice a4 yd.length c4) yd) :
    NVar (((w.alloc (.cells #[.bool bx, .slice a1 xn.length c1, .slice a2 xd.length c2] 25)).alloc (.cells #[.bool cy, .slice a3 yn.length c3, .slice a4 yd.length c4] 25)).alloc (.cells #[.bool false, .slice none 0 0, .slice none 0 0] 25)) w.heap.size bx a1 xn c1 a2 xd c2 ∧ NVar (((w.alloc (.cells #[.bool bx, .slice a1 xn.length c1, .slice a2 xd.length c2] 25)).alloc (.cells #[.bool cy, .slice a3 yn.length c3, .slice a4 yd.length c4] 25)).alloc (.cells #[.bool false, .slice none 0 0, .slice none 0 0] 25)) (w.heap.size + 1) cy a3 yn c3 a4 yd c4 ∧ RVar (((w.alloc (.cells #[.bool bx, .slice a1 xn.length c1, .slice a2 xd.length c2] 25)).alloc (.cells #[.bool cy, .slice a3 yn.length c3, .slice a4 yd.length c4] 25)).alloc (.cells #[.bool false, .slice none 0 0, .slice none 0 0] 25)) (w.heap.size + 1 + 1) ∧ Below w.heap.size w (((w.alloc (.cells #[.bool bx, .slice a1 xn.length c1, .slice a2 xd.length c2] 25)).alloc (.cells #[.bool cy, .slice a3 yn.length c3, .slice a4 yd.length c4] 25)).alloc (.cells #[.bool false, .slice none 0 0, .slice none 0 0] 25)) := by
  obtain ⟨X, Y, g⟩ := nvar_in2 (bx := bx) (cy := cy) h1 h2 h3 h4
  have kz := below_alloc ((w.alloc (.cells #[.bool bx, .slice a1 xn.length c1, .slice a2 xd.length c2] 25)).alloc (.cells #[.bool cy, .slice a3 yn.length c3, .slice a4 yd.length c4] 25)) (.cells #[.bool false, .slice none 0 0, .slice none 0 0] 25)
  have R := rvar_new ((w.alloc (.cells #[.bool bx, .slice a1 xn.length c1, .slice a2 xd.length c2] 25)).alloc (.cells #[.bool cy, .slice a3 yn.length c3, .slice a4 yd.length c4] 25))
  rw [World.size_alloc, World.size_alloc] at R
  exact ⟨X.below kz, Y.below kz, R, g.trans (kz.mono g.size)⟩
theorem sg_bne (b c : Bool) (x y : Int) : sg (!(b == c)) (x * y) = sg b x * sg c y := by
  unfold sg
  cases b <;> cases c <;> simp [Int.neg_mul, Int.mul_neg]

set_option maxRecDepth 100000 in
set_option maxHeartbeats 16000000 in
theorem refTimes_rat (h1 : Rd w.heap.size w (.slice a1 xn.length c1) xn) (h2 : Rd w.heap.size w (.slice a2 xd.length c2) xd) (h3 : Rd w.heap.size w (.slice a3 yn.length c3) yn) (h4 : Rd w.heap.size w (.slice a4 yd.length c4) yd) (hx : Hid (RightP bx xn xd)) (hy : Hid (RightP cy yn yd)) :
    Calls Tryz.prog 80 #[.agg #[.bool bx, .slice a1 xn.length c1, .slice a2 xd.length c2], .agg #[.bool cy, .slice a3 yn.length c3, .slice a4 yd.length c4]] w fun e w' => RMakes w (sg bx (val xn) * sg cy (val yn)) (val xd * val yd) e w' := by
  obtain ⟨X, Y, R, g⟩ := in2_r (bx := bx) (cy := cy) w h1 h2 h3 h4
  have sr : w.heap.size ≤ w.heap.size + 1 + 1 := by omega
  have nx : w.heap.size ≠ w.heap.size + 1 + 1 := by omega
  have ny : w.heap.size + 1 ≠ w.heap.size + 1 + 1 := by omega
  clear h1 h2 h3 h4
  go_enter Tryz.func80, Tryz.ntmps80
  have l1 := hx.out.1
  have l2 := hx.out.2.1
  have l3 := hy.out.1
  have l4 := hy.out.2.1
  go_wp2
  generalize hA : ((w.alloc (.cells #[.bool bx, .slice a1 xn.length c1, .slice a2 xd.length c2] 25)).alloc (.cells #[.bool cy, .slice a3 yn.length c3, .slice a4 yd.length c4] 25)).alloc (.cells #[.bool false, .slice none 0 0, .slice none 0 0] 25) = v at *
  clear hA
  have hcells : ∀ {w' : World}, Below v.heap.size v w' → w'.cell? ⟨w.heap.size, 0, none⟩ = some (.bool bx) ∧ w'.cell? ⟨w.heap.size, 1, none⟩ = some (.slice a1 xn.length c1) ∧ w'.cell? ⟨w.heap.size, 2, none⟩ = some (.slice a2 xd.length c2) ∧ w'.cell? ⟨(w.heap.size + 1), 0, none⟩ = some (.bool cy) ∧ w'.cell? ⟨(w.heap.size + 1), 1, none⟩ = some (.slice a3 yn.length c3) ∧ w'.cell? ⟨(w.heap.size + 1), 2, none⟩ = some (.slice a4 yd.length c4) := fun hb => ⟨(X.below hb).k0, (X.below hb).k1, (X.below hb).k2, (Y.below hb).k0, (Y.below hb).k1, (Y.below hb).k2⟩
  obtain ⟨s0, s1, s2, s3, s4, s5⟩ := hcells (Below.refl _ _)
  go_region_held3 (fun w' => w'.cell? ⟨w.heap.size, 0, none⟩ = some (.bool bx) ∧ w'.cell? ⟨w.heap.size, 1, none⟩ = some (.slice a1 xn.length c1) ∧ w'.cell? ⟨w.heap.size, 2, none⟩ = some (.slice a2 xd.length c2) ∧ w'.cell? ⟨(w.heap.size + 1), 0, none⟩ = some (.bool cy) ∧ w'.cell? ⟨(w.heap.size + 1), 1, none⟩ = some (.slice a3 yn.length c3) ∧ w'.cell? ⟨(w.heap.size + 1), 2, none⟩ = some (.slice a4 yd.length c4))
    (first | (go_keep; done) | exact tw1 | exact tw2 | exact tw3 | exact tws)
    (first
      | (have j := tw2; go_at_call 11; refine (refMake_rat Z ot.rd lz2 lt2 (by rw [HT.out.2]; exact Int.mul_pos (right_pos hx.out).1 (right_pos hy.out).1)).mono ?_; intro e u3 hm6; rw [HZ.out.2, HT.out.2] at hm6; obtain ⟨bm6, b6, x5, n5, y5, x6, n6, y6, err, rfl, hform⟩ := (RMakes.from' t2 hm6).form; have tw3 := hcells bm6; have XF := X.below bm6; have YF := Y.below bm6; have RF := R.below bm6; have tws := And.intro (XF.box.other nx (.bool b6) (.slice x5 n5 y5) (.slice x6 n6 y6)).c0 (And.intro (XF.box.other nx (.bool b6) (.slice x5 n5 y5) (.slice x6 n6 y6)).c1 (And.intro (XF.box.other nx (.bool b6) (.slice x5 n5 y5) (.slice x6 n6 y6)).c2 (And.intro (YF.box.other ny (.bool b6) (.slice x5 n5 y5) (.slice x6 n6 y6)).c0 (And.intro (YF.box.other ny (.bool b6) (.slice x5 n5 y5) (.slice x6 n6 y6)).c1 (YF.box.other ny (.bool b6) (.slice x5 n5 y5) (.slice x6 n6 y6)).c2)))); have q0 := RF.box.c0; have q1 := RF.box.c1; have q2 := RF.box.c2; have p0 := RF.box.f0; have p1 := RF.box.f1; have p2 := RF.box.f2)
      | (have j := tw1; go_at_call_of 84 (Value.slice a2 xd.length c2); refine (refMul_any (X.below t1).rd (Nat.le_refl _) (Y.below t1).rd (Nat.le_refl _) (by omega) (by omega)).mono ?_; rintro e u2 ⟨ts, ct, vt, lt, z3, z4, rfl, ot, j2⟩; have t2 : Below v.heap.size v u2 := t1.trans (j2.mono t1.size); have tw2 := hcells t2; have HT : Hid (can ts ∧ val ts = val xd * val yd) := ⟨ct, vt⟩; clear vt ct; have lt2 : ts.length ≤ 10000 := (by omega); clear lt; have Z := (oz.rd.below j2).mono j2.size)
      | (go_at_call_of 84 (Value.slice a1 xn.length c1); refine (refMul_any (w := v.drew) X.rn (Nat.le_refl _) Y.rn (Nat.le_refl _) (by omega) (by omega)).mono ?_; rintro e u1 ⟨zs, cz, vz, lz, z1, z2, rfl, oz, j1⟩; have t1 : Below v.heap.size v u1 := below_undrew (w := v) (B := v.heap.size) j1; have tw1 := hcells t1; have HZ : Hid (can zs ∧ val zs = val xn * val yn) := ⟨cz, vz⟩; clear vz cz; have lz2 : zs.length ≤ 10000 := (by omega); clear lz))
  all_goals
    go_wp2
    have hR3 := RF.box.set (.bool b6) (.slice x5 n5 y5) (.slice x6 n6 y6)
    have r0 := hR3.c0
    have r1 := hR3.c1
    have r2 := hR3.c2
    refine bodyPost_ret (v := .tuple #[.agg #[.bool b6, .slice x5 n5 y5, .slice x6 n6 y6], .int .i64 err]) (by simp [results, Tryz.results80, go_sem, r0, r1, r2]) rfl ?_
    have hd := rform_done g sr R.lt bm6 hform
    rw [sg_bne] at hd
    exact hd
end
end Go.Proofs.YtidbebfendjnlaaGreatDoor

/- The document's Two: the sum of two. -/
namespace Go.Proofs.YtidbebfendjnlaaGreatDoor
set_option linter.unusedVariables false
set_option linter.unusedSimpArgs false
open Go.RowKit
section
variable {w : World} {bx cy : Bool} {a1 a2 a3 a4 : Option Addr} {c1 c2 c3 c4 : Nat} {xn xd yn yd : List Int}
set_option maxRecDepth 100000 in
set_option maxHeartbeats 16000000 in
theorem refTwo_rat (h1 : Rd w.heap.size w (.slice a1 xn.length c1) xn) (h2 : Rd w.heap.size w (.slice a2 xd.length c2) xd) (h3 : Rd w.heap.size w (.slice a3 yn.length c3) yn) (h4 : Rd w.heap.size w (.slice a4 yd.length c4) yd) (hx : Hid (RightP bx xn xd)) (hy : Hid (RightP cy yn yd)) :
    Calls Tryz.prog 78 #[.agg #[.bool bx, .slice a1 xn.length c1, .slice a2 xd.length c2], .agg #[.bool cy, .slice a3 yn.length c3, .slice a4 yd.length c4]] w fun e w' => RMakes w (sg bx (val xn) * val yd + sg cy (val yn) * val xd) (val xd * val yd) e w' := by
  obtain ⟨X, Y, R, g⟩ := in2_r (bx := bx) (cy := cy) w h1 h2 h3 h4
  have sr : w.heap.size ≤ w.heap.size + 1 + 1 := by omega
  have nx : w.heap.size ≠ w.heap.size + 1 + 1 := by omega
  have ny : w.heap.size + 1 ≠ w.heap.size + 1 + 1 := by omega
  clear h1 h2 h3 h4
  go_enter Tryz.func78, Tryz.ntmps78
  have l1 := hx.out.1
  have l2 := hx.out.2.1
  have l3 := hy.out.1
  have l4 := hy.out.2.1
  go_wp2
  generalize hA : ((w.alloc (.cells #[.bool bx, .slice a1 xn.length c1, .slice a2 xd.length c2] 25)).alloc (.cells #[.bool cy, .slice a3 yn.length c3, .slice a4 yd.length c4] 25)).alloc (.cells #[.bool false, .slice none 0 0, .slice none 0 0] 25) = v at *
  clear hA
  have hcells : ∀ {w' : World}, Below v.heap.size v w' → w'.cell? ⟨w.heap.size, 0, none⟩ = some (.bool bx) ∧ w'.cell? ⟨w.heap.size, 1, none⟩ = some (.slice a1 xn.length c1) ∧ w'.cell? ⟨w.heap.size, 2, none⟩ = some (.slice a2 xd.length c2) ∧ w'.cell? ⟨(w.heap.size + 1), 0, none⟩ = some (.bool cy) ∧ w'.cell? ⟨(w.heap.size + 1), 1, none⟩ = some (.slice a3 yn.length c3) ∧ w'.cell? ⟨(w.heap.size + 1), 2, none⟩ = some (.slice a4 yd.length c4) := fun hb => ⟨(X.below hb).k0, (X.below hb).k1, (X.below hb).k2, (Y.below hb).k0, (Y.below hb).k1, (Y.below hb).k2⟩
  obtain ⟨s0, s1, s2, s3, s4, s5⟩ := hcells (Below.refl _ _)
  go_region_held3 (fun w' => w'.cell? ⟨w.heap.size, 0, none⟩ = some (.bool bx) ∧ w'.cell? ⟨w.heap.size, 1, none⟩ = some (.slice a1 xn.length c1) ∧ w'.cell? ⟨w.heap.size, 2, none⟩ = some (.slice a2 xd.length c2) ∧ w'.cell? ⟨(w.heap.size + 1), 0, none⟩ = some (.bool cy) ∧ w'.cell? ⟨(w.heap.size + 1), 1, none⟩ = some (.slice a3 yn.length c3) ∧ w'.cell? ⟨(w.heap.size + 1), 2, none⟩ = some (.slice a4 yd.length c4))
    (first | (go_keep; done) | exact tw1 | exact tw2 | exact tw3)
    (first
      | (have j := tw2; go_at_call 90; refine (refSigned_any Z ot.rd 65 lz2 lt2 (by decide) HZ.out.1 HT.out.1).mono ?_; rintro e u3 ⟨j3, ss, z5, z6, bs, rfl, cs, ls, hs, os⟩; have t3 : Below v.heap.size v u3 := t2.trans (j3.mono t2.size); have tw3 := hcells t3; have HS : Hid (sg bs (val ss) = sg bx (val xn) * val yd + sg cy (val yn) * val xd) := (by unfold Hid; rw [hs.out, HZ.out.2, HT.out.2, sg_mul, sg_mul]); clear hs cs)
      | (have j := tw1; go_at_call_of 84 (Value.slice a3 yn.length c3); refine (refMul_any (Y.below t1).rn (Nat.le_refl _) (X.below t1).rd (Nat.le_refl _) (by omega) (by omega)).mono ?_; rintro e u2 ⟨ts, ct, vt, lt, z3, z4, rfl, ot, j2⟩; have t2 : Below v.heap.size v u2 := t1.trans (j2.mono t1.size); have tw2 := hcells t2; have HT : Hid (can ts ∧ val ts = val yn * val xd) := ⟨ct, vt⟩; clear vt ct; have lt2 : ts.length ≤ 65 := (by omega); clear lt; have Z := (oz.rd.below j2).mono j2.size)
      | (go_at_call_of 84 (Value.slice a1 xn.length c1); refine (refMul_any (w := v.drew) X.rn (Nat.le_refl _) Y.rd (Nat.le_refl _) (by omega) (by omega)).mono ?_; rintro e u1 ⟨zs, cz, vz, lz, z1, z2, rfl, oz, j1⟩; have t1 : Below v.heap.size v u1 := below_undrew (w := v) (B := v.heap.size) j1; have tw1 := hcells t1; have HZ : Hid (can zs ∧ val zs = val xn * val yd) := ⟨cz, vz⟩; clear vz cz; have lz2 : zs.length ≤ 65 := (by omega); clear lz))
  have NS := os.rd
  clear hcells s0 s1 s2 s3 s4 s5 tw1 tw2 tw3 Z os oz ot HZ HT j1 j2 j3 t1 t2 lz2 lt2
  replace X := X.below t3
  replace Y := Y.below t3
  replace R := R.below t3
  replace g := g.trans (t3.mono g.size)
  obtain ⟨X0, X1, X2⟩ := X.cells
  obtain ⟨Y0, Y1, Y2⟩ := Y.cells
  clear t3
  go_wp2_with fail
  clear X0 X1 X2 Y0 Y1 Y2
  refine (refMul_any X.rd (Nat.le_refl _) Y.rd (Nat.le_refl _) (by omega) (by omega)).mono ?_
  rintro e u4 ⟨ds, cd, vd, ld, d1, d2, rfl, od, k4⟩
  replace NS := (NS.below k4).mono k4.size
  replace X := X.below k4
  replace Y := Y.below k4
  replace R := R.below k4
  replace g := g.trans (k4.mono g.size)
  clear k4
  have HD : Hid (val ds = val xd * val yd ∧ 0 < val xd * val yd) := ⟨vd, Int.mul_pos (right_pos hx.out).1 (right_pos hy.out).1⟩
  clear vd cd
  go_wp2_with fail
  refine (refMake_rat NS od.rd (by omega) (by omega) (by rw [HD.out.1]; exact HD.out.2)).mono ?_
  intro e u5 hm6
  rw [HS.out, HD.out.1] at hm6
  obtain ⟨bm6, b6, x5, n5, y5, x6, n6, y6, err, rfl, hform⟩ := hm6.form
  have RF := R.below bm6
  have q0 := RF.box.c0
  have q1 := RF.box.c1
  have q2 := RF.box.c2
  have p0 := RF.box.f0
  have p1 := RF.box.f1
  have p2 := RF.box.f2
  go_wp2
  have hR3 := RF.box.set (.bool b6) (.slice x5 n5 y5) (.slice x6 n6 y6)
  have r0 := hR3.c0
  have r1 := hR3.c1
  have r2 := hR3.c2
  refine bodyPost_ret (v := .tuple #[.agg #[.bool b6, .slice x5 n5 y5, .slice x6 n6 y6], .int .i64 err]) (by simp [results, Tryz.results78, go_sem, r0, r1, r2]) rfl ?_
  exact rform_done g sr R.lt bm6 hform
end
end Go.Proofs.YtidbebfendjnlaaGreatDoor

/- The document's Sub. -/
namespace Go.Proofs.YtidbebfendjnlaaGreatDoor
set_option linter.unusedVariables false
set_option linter.unusedSimpArgs false
open Go.RowKit
section
variable {w : World} {bx cy : Bool} {a1 a2 a3 a4 : Option Addr} {c1 c2 c3 c4 : Nat} {xn xd yn yd : List Int}
set_option maxRecDepth 100000 in
set_option maxHeartbeats 16000000 in
theorem refSub_rat (h1 : Rd w.heap.size w (.slice a1 xn.length c1) xn) (h2 : Rd w.heap.size w (.slice a2 xd.length c2) xd) (h3 : Rd w.heap.size w (.slice a3 yn.length c3) yn) (h4 : Rd w.heap.size w (.slice a4 yd.length c4) yd) :
    Calls Tryz.prog 30 #[.agg #[.bool bx, .slice a1 xn.length c1, .slice a2 xd.length c2], .agg #[.bool cy, .slice a3 yn.length c3, .slice a4 yd.length c4]] w fun e w' => Gives w (RightP bx xn xd ∧ RightP cy yn yd) (sg bx (val xn) * val yd + sg (!cy) (val yn) * val xd) (val xd * val yd) e w' := by
  obtain ⟨X, Y, R, g⟩ := in2_r (bx := bx) (cy := cy) w h1 h2 h3 h4
  have sr : w.heap.size ≤ w.heap.size + 1 + 1 := by omega
  have nx : w.heap.size ≠ w.heap.size + 1 + 1 := by omega
  have ny : w.heap.size + 1 ≠ w.heap.size + 1 + 1 := by omega
  clear h1 h2 h3 h4
  go_enter Tryz.func30, Tryz.ntmps30
  obtain ⟨X0, X1, X2⟩ := X.cells
  go_wp2_with fail
  clear X0 X1 X2
  generalize hA : ((w.alloc (.cells #[.bool bx, .slice a1 xn.length c1, .slice a2 xd.length c2] 25)).alloc (.cells #[.bool cy, .slice a3 yn.length c3, .slice a4 yd.length c4] 25)).alloc (.cells #[.bool false, .slice none 0 0, .slice none 0 0] 25) = v at *
  clear hA
  refine (refRight_rat X.rn X.rd).mono ?_
  rintro e wa ⟨⟨r, rfl, hr⟩, ka⟩
  replace X := X.below ka
  replace Y := Y.below ka
  replace R := R.below ka
  replace g := g.trans (ka.mono g.size)
  clear ka
  cases r with
  | false =>
    have HP : Hid (¬ RightP bx xn xd) := fun h => by have := hr.2 h; cases this
    clear hr
    have q0 := R.box.c0
    have q1 := R.box.c1
    have q2 := R.box.c2
    have p0 := R.box.f0
    have p1 := R.box.f1
    have p2 := R.box.f2
    go_wp2
    have hR3 := R.box.set (.bool false) (.slice none 0 0) (.slice none 0 0)
    have r0 := hR3.c0
    have r1 := hR3.c1
    have r2 := hR3.c2
    refine bodyPost_ret (v := .tuple #[.agg #[.bool false, .slice none 0 0, .slice none 0 0], .int .i64 22]) (by simp [results, Tryz.results30, go_sem, r0, r1, r2]) rfl ?_
    exact gives_err (fun h => HP.out h.1) (Below.set3 g sr _ _ _)
  | true =>
    have hx : Hid (RightP bx xn xd) := hr.1 rfl
    clear hr
    obtain ⟨Y0, Y1, Y2⟩ := Y.cells
    go_wp2_with fail
    clear Y0 Y1 Y2
    refine (refRight_rat Y.rn Y.rd).mono ?_
    rintro e wb ⟨⟨r, rfl, hr⟩, kb⟩
    replace X := X.below kb
    replace Y := Y.below kb
    replace R := R.below kb
    replace g := g.trans (kb.mono g.size)
    clear kb
    cases r with
    | false =>
      have HP : Hid (¬ RightP cy yn yd) := fun h => by have := hr.2 h; cases this
      clear hr
      have q0 := R.box.c0
      have q1 := R.box.c1
      have q2 := R.box.c2
      have p0 := R.box.f0
      have p1 := R.box.f1
      have p2 := R.box.f2
      go_wp2
      have hR3 := R.box.set (.bool false) (.slice none 0 0) (.slice none 0 0)
      have r0 := hR3.c0
      have r1 := hR3.c1
      have r2 := hR3.c2
      refine bodyPost_ret (v := .tuple #[.agg #[.bool false, .slice none 0 0, .slice none 0 0], .int .i64 22]) (by simp [results, Tryz.results30, go_sem, r0, r1, r2]) rfl ?_
      exact gives_err (fun h => HP.out h.2) (Below.set3 g sr _ _ _)
    | true =>
      have hy : Hid (RightP cy yn yd) := hr.1 rfl
      clear hr
      have l1 := hx.out.1
      have l2 := hx.out.2.1
      have l3 := hy.out.1
      have l4 := hy.out.2.1
      have HB := right_with (!cy) hy.out
      go_wp2
      have hcells : ∀ {w' : World}, Below wb.heap.size wb w' → w'.cell? ⟨w.heap.size, 0, none⟩ = some (.bool bx) ∧ w'.cell? ⟨w.heap.size, 1, none⟩ = some (.slice a1 xn.length c1) ∧ w'.cell? ⟨w.heap.size, 2, none⟩ = some (.slice a2 xd.length c2) ∧ w'.cell? ⟨(w.heap.size + 1), 0, none⟩ = some (.bool cy) ∧ w'.cell? ⟨(w.heap.size + 1), 1, none⟩ = some (.slice a3 yn.length c3) ∧ w'.cell? ⟨(w.heap.size + 1), 2, none⟩ = some (.slice a4 yd.length c4) := fun hb => ⟨(X.below hb).k0, (X.below hb).k1, (X.below hb).k2, (Y.below hb).k0, (Y.below hb).k1, (Y.below hb).k2⟩
      obtain ⟨s0, s1, s2, s3, s4, s5⟩ := hcells (Below.refl _ _)
      have m1 : yn.length ≤ 10000 := by omega
      have m2 : yd.length ≤ 10000 := by omega
      have M : Hid (can yn ∧ can yd) := ⟨hy.out.2.2.1, hy.out.2.2.2.1⟩
      go_region_held3 (fun w' => w'.cell? ⟨w.heap.size, 0, none⟩ = some (.bool bx) ∧ w'.cell? ⟨w.heap.size, 1, none⟩ = some (.slice a1 xn.length c1) ∧ w'.cell? ⟨w.heap.size, 2, none⟩ = some (.slice a2 xd.length c2) ∧ w'.cell? ⟨(w.heap.size + 1), 0, none⟩ = some (.bool cy) ∧ w'.cell? ⟨(w.heap.size + 1), 1, none⟩ = some (.slice a3 yn.length c3) ∧ w'.cell? ⟨(w.heap.size + 1), 2, none⟩ = some (.slice a4 yd.length c4))
        (first | (go_keep; done) | exact tw1 | exact tw2 | exact tws)
        (first
          | (have j := tw1; go_at_call 78; refine (refTwo_rat (X.below t1).rn (X.below t1).rd on.rd od.rd hx HB.1).mono ?_; intro e u2 hm6; rw [HB.2] at hm6; obtain ⟨bm6, b6, x5, n5, y5, x6, n6, y6, err, rfl, hform⟩ := (RMakes.from' t1 hm6).form; have tw2 := hcells bm6; have XF := X.below bm6; have YF := Y.below bm6; have RF := R.below bm6; have tws := And.intro (XF.box.other nx (.bool b6) (.slice x5 n5 y5) (.slice x6 n6 y6)).c0 (And.intro (XF.box.other nx (.bool b6) (.slice x5 n5 y5) (.slice x6 n6 y6)).c1 (And.intro (XF.box.other nx (.bool b6) (.slice x5 n5 y5) (.slice x6 n6 y6)).c2 (And.intro (YF.box.other ny (.bool b6) (.slice x5 n5 y5) (.slice x6 n6 y6)).c0 (And.intro (YF.box.other ny (.bool b6) (.slice x5 n5 y5) (.slice x6 n6 y6)).c1 (YF.box.other ny (.bool b6) (.slice x5 n5 y5) (.slice x6 n6 y6)).c2)))); have q0 := RF.box.c0; have q1 := RF.box.c1; have q2 := RF.box.c2; have p0 := RF.box.f0; have p1 := RF.box.f1; have p2 := RF.box.f2)
          | (go_at_call 82; refine (refNeg_num (w := wb.drew) Y.rn Y.rd m1 m2 M).mono ?_; rintro e u1 ⟨j1, z1, y1, z2, y2, rfl, on, od⟩; have t1 : Below wb.heap.size wb u1 := below_undrew (w := wb) (B := wb.heap.size) j1; have tw1 := hcells t1))
      all_goals
        go_wp2
        have hR3 := RF.box.set (.bool b6) (.slice x5 n5 y5) (.slice x6 n6 y6)
        have r0 := hR3.c0
        have r1 := hR3.c1
        have r2 := hR3.c2
        refine bodyPost_ret (v := .tuple #[.agg #[.bool b6, .slice x5 n5 y5, .slice x6 n6 y6], .int .i64 err]) (by simp [results, Tryz.results30, go_sem, r0, r1, r2]) rfl ?_
        exact (rform_done g sr R.lt bm6 hform).gives ⟨hx.out, hy.out⟩
end
end Go.Proofs.YtidbebfendjnlaaGreatDoor

/- The document's Div, and rat.Div by 0. -/
namespace Go.Proofs.YtidbebfendjnlaaGreatDoor
set_option linter.unusedVariables false
set_option linter.unusedSimpArgs false
open Go.RowKit

/-- What a division by 0 answers. -/
def DivZ (P : Prop) (xn : List Int) (b : Bool) (ns ds : List Int) (err : Int) : Prop :=
  (¬ P ∧ err = 22 ∧ b = false ∧ ns = [] ∧ ds = []) ∨ (P ∧ 0 < xn.length ∧ err = 3 ∧ b = false ∧ ns = [] ∧ ds = []) ∨ (P ∧ xn.length = 0 ∧ err = 0 ∧ b = false ∧ ns = [1] ∧ ds = [1])
theorem DivZ.unique {P : Prop} {xn : List Int} {b c : Bool} {ns ds ms es : List Int} {e f : Int} (h : DivZ P xn b ns ds e) (k : DivZ P xn c ms es f) : c = b ∧ ms = ns ∧ es = ds ∧ f = e := by
  rcases h with ⟨hp, rfl, rfl, rfl, rfl⟩ | ⟨hp, h0, rfl, rfl, rfl, rfl⟩ | ⟨hp, h0, rfl, rfl, rfl, rfl⟩ <;> rcases k with ⟨kp, rfl, rfl, rfl, rfl⟩ | ⟨kp, k0, rfl, rfl, rfl, rfl⟩ | ⟨kp, k0, rfl, rfl, rfl, rfl⟩
  · exact ⟨rfl, rfl, rfl, rfl⟩
  · exact absurd kp hp
  · exact absurd kp hp
  · exact absurd hp kp
  · exact ⟨rfl, rfl, rfl, rfl⟩
  · omega
  · exact absurd hp kp
  · omega
  · exact ⟨rfl, rfl, rfl, rfl⟩
theorem whole_one {b : Bool} {ns ds : List Int} (h : WholeIs 1 b ns ds) : b = false ∧ ns = [1] ∧ ds = [1] := by
  obtain ⟨hb, cn, vn, _, hd⟩ := h
  exact ⟨hb, can_inj cn can_one (by rw [vn, one_val]; rfl), hd⟩

section
variable {w : World} {bx cy : Bool} {a1 a2 a3 a4 : Option Addr} {c1 c2 c3 c4 : Nat} {xn xd yn yd : List Int}
set_option maxRecDepth 100000 in
set_option maxHeartbeats 16000000 in
theorem refDiv_nz (h1 : Rd w.heap.size w (.slice a1 xn.length c1) xn) (h2 : Rd w.heap.size w (.slice a2 xd.length c2) xd) (h3 : Rd w.heap.size w (.slice a3 yn.length c3) yn) (h4 : Rd w.heap.size w (.slice a4 yd.length c4) yd) (h0 : 0 < yn.length) :
    Calls Tryz.prog 32 #[.agg #[.bool bx, .slice a1 xn.length c1, .slice a2 xd.length c2], .agg #[.bool cy, .slice a3 yn.length c3, .slice a4 yd.length c4]] w fun e w' => Gives w (RightP bx xn xd ∧ RightP cy yn yd) (sg bx (val xn) * sg cy (val yd)) (val xd * val yn) e w' := by
  obtain ⟨X, Y, R, g⟩ := in2_r (bx := bx) (cy := cy) w h1 h2 h3 h4
  have sr : w.heap.size ≤ w.heap.size + 1 + 1 := by omega
  have nx : w.heap.size ≠ w.heap.size + 1 + 1 := by omega
  have ny : w.heap.size + 1 ≠ w.heap.size + 1 + 1 := by omega
  clear h1 h2 h3 h4
  go_enter Tryz.func32, Tryz.ntmps32
  obtain ⟨X0, X1, X2⟩ := X.cells
  go_wp2_with fail
  clear X0 X1 X2
  generalize hA : ((w.alloc (.cells #[.bool bx, .slice a1 xn.length c1, .slice a2 xd.length c2] 25)).alloc (.cells #[.bool cy, .slice a3 yn.length c3, .slice a4 yd.length c4] 25)).alloc (.cells #[.bool false, .slice none 0 0, .slice none 0 0] 25) = v at *
  clear hA
  refine (refRight_rat X.rn X.rd).mono ?_
  rintro e wa ⟨⟨r, rfl, hr⟩, ka⟩
  replace X := X.below ka
  replace Y := Y.below ka
  replace R := R.below ka
  replace g := g.trans (ka.mono g.size)
  clear ka
  cases r with
  | false =>
    have HP : Hid (¬ RightP bx xn xd) := fun h => by have := hr.2 h; cases this
    clear hr
    have q0 := R.box.c0
    have q1 := R.box.c1
    have q2 := R.box.c2
    have p0 := R.box.f0
    have p1 := R.box.f1
    have p2 := R.box.f2
    go_wp2
    have hR3 := R.box.set (.bool false) (.slice none 0 0) (.slice none 0 0)
    have r0 := hR3.c0
    have r1 := hR3.c1
    have r2 := hR3.c2
    refine bodyPost_ret (v := .tuple #[.agg #[.bool false, .slice none 0 0, .slice none 0 0], .int .i64 22]) (by simp [results, Tryz.results32, go_sem, r0, r1, r2]) rfl ?_
    exact gives_err (fun h => HP.out h.1) (Below.set3 g sr _ _ _)
  | true =>
    have hx : Hid (RightP bx xn xd) := hr.1 rfl
    clear hr
    obtain ⟨Y0, Y1, Y2⟩ := Y.cells
    go_wp2_with fail
    clear Y0 Y1 Y2
    refine (refRight_rat Y.rn Y.rd).mono ?_
    rintro e wb ⟨⟨r, rfl, hr⟩, kb⟩
    replace X := X.below kb
    replace Y := Y.below kb
    replace R := R.below kb
    replace g := g.trans (kb.mono g.size)
    clear kb
    cases r with
    | false =>
      have HP : Hid (¬ RightP cy yn yd) := fun h => by have := hr.2 h; cases this
      clear hr
      have q0 := R.box.c0
      have q1 := R.box.c1
      have q2 := R.box.c2
      have p0 := R.box.f0
      have p1 := R.box.f1
      have p2 := R.box.f2
      go_wp2
      have hR3 := R.box.set (.bool false) (.slice none 0 0) (.slice none 0 0)
      have r0 := hR3.c0
      have r1 := hR3.c1
      have r2 := hR3.c2
      refine bodyPost_ret (v := .tuple #[.agg #[.bool false, .slice none 0 0, .slice none 0 0], .int .i64 22]) (by simp [results, Tryz.results32, go_sem, r0, r1, r2]) rfl ?_
      exact gives_err (fun h => HP.out h.2) (Below.set3 g sr _ _ _)
    | true =>
      have hy : Hid (RightP cy yn yd) := hr.1 rfl
      clear hr
      have l1 := hx.out.1
      have l2 := hx.out.2.1
      have l3 := hy.out.1
      have l4 := hy.out.2.1
      have hb0 : ((yn.length : Int) == 0) = false := by rw [beq_eq_false_iff_ne]; omega
      have HY0 : Hid (0 < val yn) := by
        have h5 := can_zero hy.out.2.2.1
        have h6 := (right_pos hy.out).2
        have h7 : ¬ val yn = 0 := fun e => by have := h5.2 e; omega
        unfold Hid; omega
      obtain ⟨X0, X1, X2⟩ := X.cells
      obtain ⟨Y0, Y1, Y2⟩ := Y.cells
      go_wp2
      clear X0 X1 X2 Y0 Y1 Y2
      have hcells : ∀ {w' : World}, Below wb.heap.size wb w' → w'.cell? ⟨w.heap.size, 0, none⟩ = some (.bool bx) ∧ w'.cell? ⟨w.heap.size, 1, none⟩ = some (.slice a1 xn.length c1) ∧ w'.cell? ⟨w.heap.size, 2, none⟩ = some (.slice a2 xd.length c2) ∧ w'.cell? ⟨(w.heap.size + 1), 0, none⟩ = some (.bool cy) ∧ w'.cell? ⟨(w.heap.size + 1), 1, none⟩ = some (.slice a3 yn.length c3) ∧ w'.cell? ⟨(w.heap.size + 1), 2, none⟩ = some (.slice a4 yd.length c4) := fun hb => ⟨(X.below hb).k0, (X.below hb).k1, (X.below hb).k2, (Y.below hb).k0, (Y.below hb).k1, (Y.below hb).k2⟩
      obtain ⟨s0, s1, s2, s3, s4, s5⟩ := hcells (Below.refl _ _)
      go_region_held3 (fun w' => w'.cell? ⟨w.heap.size, 0, none⟩ = some (.bool bx) ∧ w'.cell? ⟨w.heap.size, 1, none⟩ = some (.slice a1 xn.length c1) ∧ w'.cell? ⟨w.heap.size, 2, none⟩ = some (.slice a2 xd.length c2) ∧ w'.cell? ⟨(w.heap.size + 1), 0, none⟩ = some (.bool cy) ∧ w'.cell? ⟨(w.heap.size + 1), 1, none⟩ = some (.slice a3 yn.length c3) ∧ w'.cell? ⟨(w.heap.size + 1), 2, none⟩ = some (.slice a4 yd.length c4))
        (first | (go_keep; done) | exact tw1 | exact tw2 | exact tw3 | exact tws)
        (first
          | (have j := tw2; go_at_call 11; refine (refMake_rat Z ot.rd lz2 lt2 (by rw [HT.out.2]; exact Int.mul_pos (right_pos hx.out).1 HY0.out)).mono ?_; intro e u3 hm6; rw [HZ.out.2, HT.out.2] at hm6; obtain ⟨bm6, b6, x5, n5, y5, x6, n6, y6, err, rfl, hform⟩ := (RMakes.from' t2 hm6).form; have tw3 := hcells bm6; have XF := X.below bm6; have YF := Y.below bm6; have RF := R.below bm6; have tws := And.intro (XF.box.other nx (.bool b6) (.slice x5 n5 y5) (.slice x6 n6 y6)).c0 (And.intro (XF.box.other nx (.bool b6) (.slice x5 n5 y5) (.slice x6 n6 y6)).c1 (And.intro (XF.box.other nx (.bool b6) (.slice x5 n5 y5) (.slice x6 n6 y6)).c2 (And.intro (YF.box.other ny (.bool b6) (.slice x5 n5 y5) (.slice x6 n6 y6)).c0 (And.intro (YF.box.other ny (.bool b6) (.slice x5 n5 y5) (.slice x6 n6 y6)).c1 (YF.box.other ny (.bool b6) (.slice x5 n5 y5) (.slice x6 n6 y6)).c2)))); have q0 := RF.box.c0; have q1 := RF.box.c1; have q2 := RF.box.c2; have p0 := RF.box.f0; have p1 := RF.box.f1; have p2 := RF.box.f2)
          | (have j := tw1; go_at_call_of 84 (Value.slice a2 xd.length c2); refine (refMul_any (X.below t1).rd (Nat.le_refl _) (Y.below t1).rn (Nat.le_refl _) (by omega) (by omega)).mono ?_; rintro e u2 ⟨ts, ct, vt, lt, z3, z4, rfl, ot, j2⟩; have t2 : Below wb.heap.size wb u2 := t1.trans (j2.mono t1.size); have tw2 := hcells t2; have HT : Hid (can ts ∧ val ts = val xd * val yn) := ⟨ct, vt⟩; clear vt ct; have lt2 : ts.length ≤ 10000 := (by omega); clear lt; have Z := (oz.rd.below j2).mono j2.size)
          | (go_at_call_of 84 (Value.slice a1 xn.length c1); refine (refMul_any (w := wb.drew) X.rn (Nat.le_refl _) Y.rd (Nat.le_refl _) (by omega) (by omega)).mono ?_; rintro e u1 ⟨zs, cz, vz, lz, z1, z2, rfl, oz, j1⟩; have t1 : Below wb.heap.size wb u1 := below_undrew (w := wb) (B := wb.heap.size) j1; have tw1 := hcells t1; have HZ : Hid (can zs ∧ val zs = val xn * val yd) := ⟨cz, vz⟩; clear vz cz; have lz2 : zs.length ≤ 10000 := (by omega); clear lz))
      all_goals
        go_wp2
        have hR3 := RF.box.set (.bool b6) (.slice x5 n5 y5) (.slice x6 n6 y6)
        have r0 := hR3.c0
        have r1 := hR3.c1
        have r2 := hR3.c2
        refine bodyPost_ret (v := .tuple #[.agg #[.bool b6, .slice x5 n5 y5, .slice x6 n6 y6], .int .i64 err]) (by simp [results, Tryz.results32, go_sem, r0, r1, r2]) rfl ?_
        have hd := rform_done g sr R.lt bm6 hform
        rw [sg_bne] at hd
        exact hd.gives ⟨hx.out, hy.out⟩
set_option maxRecDepth 100000 in
set_option maxHeartbeats 16000000 in
theorem refDiv_z (h1 : Rd w.heap.size w (.slice a1 xn.length c1) xn) (h2 : Rd w.heap.size w (.slice a2 xd.length c2) xd) (h3 : Rd w.heap.size w (.slice a3 yn.length c3) yn) (h4 : Rd w.heap.size w (.slice a4 yd.length c4) yd) (h0 : yn.length = 0) :
    Calls Tryz.prog 32 #[.agg #[.bool bx, .slice a1 xn.length c1, .slice a2 xd.length c2], .agg #[.bool cy, .slice a3 yn.length c3, .slice a4 yd.length c4]] w fun e w' => ∃ b ns ds err, Hid (DivZ (RightP bx xn xd ∧ RightP cy yn yd) xn b ns ds err) ∧ RAns w b ns ds err e w' := by
  have hb0 : ((yn.length : Int) == 0) = true := by rw [beq_iff_eq]; omega
  clear h0
  obtain ⟨X, Y, R, g⟩ := in2_r (bx := bx) (cy := cy) w h1 h2 h3 h4
  have sr : w.heap.size ≤ w.heap.size + 1 + 1 := by omega
  have nx : w.heap.size ≠ w.heap.size + 1 + 1 := by omega
  have ny : w.heap.size + 1 ≠ w.heap.size + 1 + 1 := by omega
  clear h1 h2 h3 h4
  go_enter Tryz.func32, Tryz.ntmps32
  obtain ⟨X0, X1, X2⟩ := X.cells
  go_wp2_with fail
  clear X0 X1 X2
  generalize hA : ((w.alloc (.cells #[.bool bx, .slice a1 xn.length c1, .slice a2 xd.length c2] 25)).alloc (.cells #[.bool cy, .slice a3 yn.length c3, .slice a4 yd.length c4] 25)).alloc (.cells #[.bool false, .slice none 0 0, .slice none 0 0] 25) = v at *
  clear hA
  refine (refRight_rat X.rn X.rd).mono ?_
  rintro e wa ⟨⟨r, rfl, hr⟩, ka⟩
  replace X := X.below ka
  replace Y := Y.below ka
  replace R := R.below ka
  replace g := g.trans (ka.mono g.size)
  clear ka
  cases r with
  | false =>
    have HP : Hid (¬ RightP bx xn xd) := fun h => by have := hr.2 h; cases this
    clear hr
    have q0 := R.box.c0
    have q1 := R.box.c1
    have q2 := R.box.c2
    have p0 := R.box.f0
    have p1 := R.box.f1
    have p2 := R.box.f2
    go_wp2
    have hR3 := R.box.set (.bool false) (.slice none 0 0) (.slice none 0 0)
    have r0 := hR3.c0
    have r1 := hR3.c1
    have r2 := hR3.c2
    refine bodyPost_ret (v := .tuple #[.agg #[.bool false, .slice none 0 0, .slice none 0 0], .int .i64 22]) (by simp [results, Tryz.results32, go_sem, r0, r1, r2]) rfl ?_
    exact ⟨false, [], [], 22, Or.inl ⟨fun h => HP.out h.1, rfl, rfl, rfl, rfl⟩, Below.set3 g sr _ _ _, none, 0, none, 0, rfl, nil_rd _, nil_rd _⟩
  | true =>
    have hx : Hid (RightP bx xn xd) := hr.1 rfl
    clear hr
    obtain ⟨Y0, Y1, Y2⟩ := Y.cells
    go_wp2_with fail
    clear Y0 Y1 Y2
    refine (refRight_rat Y.rn Y.rd).mono ?_
    rintro e wb ⟨⟨r, rfl, hr⟩, kb⟩
    replace X := X.below kb
    replace Y := Y.below kb
    replace R := R.below kb
    replace g := g.trans (kb.mono g.size)
    clear kb
    cases r with
    | false =>
      have HP : Hid (¬ RightP cy yn yd) := fun h => by have := hr.2 h; cases this
      clear hr
      have q0 := R.box.c0
      have q1 := R.box.c1
      have q2 := R.box.c2
      have p0 := R.box.f0
      have p1 := R.box.f1
      have p2 := R.box.f2
      go_wp2
      have hR3 := R.box.set (.bool false) (.slice none 0 0) (.slice none 0 0)
      have r0 := hR3.c0
      have r1 := hR3.c1
      have r2 := hR3.c2
      refine bodyPost_ret (v := .tuple #[.agg #[.bool false, .slice none 0 0, .slice none 0 0], .int .i64 22]) (by simp [results, Tryz.results32, go_sem, r0, r1, r2]) rfl ?_
      exact ⟨false, [], [], 22, Or.inl ⟨fun h => HP.out h.2, rfl, rfl, rfl, rfl⟩, Below.set3 g sr _ _ _, none, 0, none, 0, rfl, nil_rd _, nil_rd _⟩
    | true =>
      have hy : Hid (RightP cy yn yd) := hr.1 rfl
      clear hr
      have l1 := hx.out.1
      have l2 := hx.out.2.1
      have l3 := hy.out.1
      have l4 := hy.out.2.1
      by_cases hx0 : xn.length = 0
      · have hx1 : ((xn.length : Int) == 0) = true := by rw [beq_iff_eq]; omega
        obtain ⟨X0, X1, X2⟩ := X.cells
        obtain ⟨Y0, Y1, Y2⟩ := Y.cells
        go_wp2_with fail
        clear X0 X1 X2 Y0 Y1 Y2
        refine (refOfInt_any 1 (by decide) (by decide) _).mono ?_
        rintro e wc ⟨k9, bo, os, od, o1, o2, o3, o4, HO, rfl, oo, oe⟩
        have R9 := R
        replace X := X.below k9
        replace Y := Y.below k9
        replace R := R.below k9
        replace g := g.trans (k9.mono g.size)
        have q0 := R.box.c0
        have q1 := R.box.c1
        have q2 := R.box.c2
        have p0 := R.box.f0
        have p1 := R.box.f1
        have p2 := R.box.f2
        go_wp2
        have hR3 := R.box.set (.bool bo) (.slice o1 os.length o2) (.slice o3 od.length o4)
        have r0 := hR3.c0
        have r1 := hR3.c1
        have r2 := hR3.c2
        refine bodyPost_ret (v := .tuple #[.agg #[.bool bo, .slice o1 os.length o2, .slice o3 od.length o4], .int .i64 0]) (by simp [results, Tryz.results32, go_sem, r0, r1, r2]) rfl ?_
        obtain ⟨e1, e2, e3⟩ := whole_one HO.out
        exact ⟨bo, os, od, 0, Or.inr (Or.inr ⟨⟨hx.out, hy.out⟩, hx0, rfl, e1, e2, e3⟩), Below.set3 g sr _ _ _, o1, o2, o3, o4, rfl, (Own.set3 oo R9.lt _ _ _).rd, (Own.set3 oe R9.lt _ _ _).rd⟩
      · have hx1 : ((xn.length : Int) == 0) = false := by rw [beq_eq_false_iff_ne]; omega
        obtain ⟨X0, X1, X2⟩ := X.cells
        obtain ⟨Y0, Y1, Y2⟩ := Y.cells
        have q0 := R.box.c0
        have q1 := R.box.c1
        have q2 := R.box.c2
        have p0 := R.box.f0
        have p1 := R.box.f1
        have p2 := R.box.f2
        go_wp2
        have hR3 := R.box.set (.bool false) (.slice none 0 0) (.slice none 0 0)
        have r0 := hR3.c0
        have r1 := hR3.c1
        have r2 := hR3.c2
        refine bodyPost_ret (v := .tuple #[.agg #[.bool false, .slice none 0 0, .slice none 0 0], .int .i64 3]) (by simp [results, Tryz.results32, go_sem, r0, r1, r2]) rfl ?_
        exact ⟨false, [], [], 3, Or.inr (Or.inl ⟨⟨hx.out, hy.out⟩, by omega, rfl, rfl, rfl, rfl⟩), Below.set3 g sr _ _ _, none, 0, none, 0, rfl, nil_rd _, nil_rd _⟩
end
end Go.Proofs.YtidbebfendjnlaaGreatDoor

/- rat.Div by 0. -/
namespace Go.Proofs.YtidbebfendjnlaaGreatDoor
set_option linter.unusedVariables false
set_option linter.unusedSimpArgs false
open Go.RowKit
section
variable {w : World} {bx cy : Bool} {a1 a2 a3 a4 : Option Addr} {c1 c2 c3 c4 : Nat} {xn xd yn yd : List Int}
set_option maxRecDepth 100000 in
set_option maxHeartbeats 16000000 in
theorem div_z (h1 : Rd w.heap.size w (.slice a1 xn.length c1) xn) (h2 : Rd w.heap.size w (.slice a2 xd.length c2) xd) (h3 : Rd w.heap.size w (.slice a3 yn.length c3) yn) (h4 : Rd w.heap.size w (.slice a4 yd.length c4) yd) (h0 : yn.length = 0) :
    Calls Tryz.prog 31 #[.agg #[.bool bx, .slice a1 xn.length c1, .slice a2 xd.length c2], .agg #[.bool cy, .slice a3 yn.length c3, .slice a4 yd.length c4]] w fun e w' => ∃ b ns ds err, Hid (DivZ (RightP bx xn xd ∧ RightP cy yn yd) xn b ns ds err) ∧ RAns w b ns ds err e w' := by
  have I := in2_new w (.bool bx) (.slice a1 xn.length c1) (.slice a2 xd.length c2) (.bool cy) (.slice a3 yn.length c3) (.slice a4 yd.length c4)
  have hb0 : decide ((yn.length : Int) > 0) = false := decide_eq_false (by omega)
  have hb1 : decide ((0 : Int) < yn.length) = false := decide_eq_false (by omega)
  have hb2 : decide (0 < yn.length) = false := decide_eq_false (by omega)
  clear h0
  go_enter Tryz.func31, Tryz.ntmps31
  go_wp2_with fail
  generalize hA : ((((w.alloc (.cells #[.bool bx, .slice a1 xn.length c1, .slice a2 xd.length c2] 25)).alloc (.cells #[.bool cy, .slice a3 yn.length c3, .slice a4 yd.length c4] 25)).alloc (.cells #[.bool false, .slice none 0 0, .slice none 0 0] 25)).alloc (.cells #[.bool bx, .slice a1 xn.length c1, .slice a2 xd.length c2, .bool cy, .slice a3 yn.length c3, .slice a4 yd.length c4] 25)) = v0 at *
  clear hA
  obtain ⟨hX, hY, hR, hT, g, s0⟩ := I
  have X : NVar v0 w.heap.size bx a1 xn c1 a2 xd c2 := ⟨by omega, hX, (h1.below g).mono g.size, (h2.below g).mono g.size⟩
  have Y : NVar v0 (w.heap.size + 1) cy a3 yn c3 a4 yd c4 := ⟨by omega, hY, (h3.below g).mono g.size, (h4.below g).mono g.size⟩
  have R : RVar v0 (w.heap.size + 1 + 1) := ⟨by omega, hR⟩
  have sr : w.heap.size ≤ w.heap.size + 1 + 1 := by omega
  clear hX hY hR h1 h2 h3 h4 s0
  refine (allRight2 hT X.rn X.rd Y.rn Y.rd (Nat.le_refl _)).mono ?_
  rintro e w0 ⟨⟨r, rfl, hr⟩, k0⟩
  replace X := X.below k0
  replace Y := Y.below k0
  replace R := R.below k0
  replace g := g.trans (k0.mono g.size)
  clear hT k0
  cases r with
  | false =>
    have HP : Hid (¬ (RightP bx xn xd ∧ RightP cy yn yd)) := fun h => by have := hr.2 h; cases this
    clear hr
    have q0 := R.box.c0
    have q1 := R.box.c1
    have q2 := R.box.c2
    have p0 := R.box.f0
    have p1 := R.box.f1
    have p2 := R.box.f2
    go_wp2
    have hR3 := R.box.set (.bool false) (.slice none 0 0) (.slice none 0 0)
    have r0 := hR3.c0
    have r1 := hR3.c1
    have r2 := hR3.c2
    refine bodyPost_ret (v := .tuple #[.agg #[.bool false, .slice none 0 0, .slice none 0 0], .int .i64 22]) (by simp [results, Tryz.results31, go_sem, r0, r1, r2]) rfl ?_
    exact ⟨false, [], [], 22, Or.inl ⟨HP.out, rfl, rfl, rfl, rfl⟩, Below.set3 g sr _ _ _, none, 0, none, 0, rfl, nil_rd _, nil_rd _⟩
  | true =>
    have HP : Hid (RightP bx xn xd ∧ RightP cy yn yd) := hr.1 rfl
    clear hr
    by_cases hx0 : xn.length = 0
    · have hx1 : decide ((xn.length : Int) > 0) = false := decide_eq_false (by omega)
      have hx2 : decide ((0 : Int) < xn.length) = false := decide_eq_false (by omega)
      have hx3 : decide (0 < xn.length) = false := decide_eq_false (by omega)
      have HX0 : Hid (xn.length = 0) := hx0
      clear hx0
      obtain ⟨X0, X1, X2⟩ := X.cells
      obtain ⟨Y0, Y1, Y2⟩ := Y.cells
      go_wp2_with fail
      clear X0 X1 X2 Y0 Y1 Y2
      refine (ofInt_any 1 (by decide) (by decide) _).mono ?_
      rintro e wc ⟨k9, bo, os, od, o1, o2, o3, o4, HO, rfl, oo, oe⟩
      have R9 := R
      replace X := X.below k9
      replace Y := Y.below k9
      replace R := R.below k9
      replace g := g.trans (k9.mono g.size)
      have q0 := R.box.c0
      have q1 := R.box.c1
      have q2 := R.box.c2
      have p0 := R.box.f0
      have p1 := R.box.f1
      have p2 := R.box.f2
      go_wp2
      have hR3 := R.box.set (.bool bo) (.slice o1 os.length o2) (.slice o3 od.length o4)
      have r0 := hR3.c0
      have r1 := hR3.c1
      have r2 := hR3.c2
      refine bodyPost_ret (v := .tuple #[.agg #[.bool bo, .slice o1 os.length o2, .slice o3 od.length o4], .int .i64 0]) (by simp [results, Tryz.results31, go_sem, r0, r1, r2]) rfl ?_
      obtain ⟨e1, e2, e3⟩ := whole_one HO.out
      exact ⟨bo, os, od, 0, Or.inr (Or.inr ⟨HP.out, HX0.out, rfl, e1, e2, e3⟩), Below.set3 g sr _ _ _, o1, o2, o3, o4, rfl, (Own.set3 oo R9.lt _ _ _).rd, (Own.set3 oe R9.lt _ _ _).rd⟩
    · have hx1 : decide ((xn.length : Int) > 0) = true := decide_eq_true (by omega)
      have hx2 : decide ((0 : Int) < xn.length) = true := decide_eq_true (by omega)
      have hx3 : decide (0 < xn.length) = true := decide_eq_true (by omega)
      obtain ⟨X0, X1, X2⟩ := X.cells
      obtain ⟨Y0, Y1, Y2⟩ := Y.cells
      have q0 := R.box.c0
      have q1 := R.box.c1
      have q2 := R.box.c2
      have p0 := R.box.f0
      have p1 := R.box.f1
      have p2 := R.box.f2
      go_wp2
      have hR3 := R.box.set (.bool false) (.slice none 0 0) (.slice none 0 0)
      have r0 := hR3.c0
      have r1 := hR3.c1
      have r2 := hR3.c2
      refine bodyPost_ret (v := .tuple #[.agg #[.bool false, .slice none 0 0, .slice none 0 0], .int .i64 3]) (by simp [results, Tryz.results31, go_sem, r0, r1, r2]) rfl ?_
      exact ⟨false, [], [], 3, Or.inr (Or.inl ⟨HP.out, by omega, rfl, rfl, rfl, rfl⟩), Below.set3 g sr _ _ _, none, 0, none, 0, rfl, nil_rd _, nil_rd _⟩
end
end Go.Proofs.YtidbebfendjnlaaGreatDoor

/- rat.Residue. -/
namespace Go.Proofs.YtidbebfendjnlaaGreatDoor
set_option linter.unusedVariables false
set_option linter.unusedSimpArgs false
open Go.RowKit

theorem big_cross {N D N' D' : Int} (hD : 0 < D) (h : N * D' = N' * D) (hb : Big N D) : Big N' D' := by
  obtain ⟨b, ns, ds, cn, cd, hd, hg, hv, hl⟩ := hb
  refine ⟨b, ns, ds, cn, cd, hd, hg, cancel hD ?_, hl⟩
  have e1 : sg b (val ns) * D' * D = sg b (val ns) * D * D' := by ac_rfl
  have e2 : N' * val ds * D = N' * D * val ds := by ac_rfl
  rw [e1, hv, e2, ← h]
  ac_rfl
theorem floor_cross {N D Q q : Int} (hD : 0 < D) (hq : 0 < q) (h : Q * D = N * q) : Q / q = N / D := by
  have e1 : Q * D / (q * D) = Q / q := Int.mul_ediv_mul_of_pos_left Q q hD
  have e2 : N * q / (D * q) = N / D := Int.mul_ediv_mul_of_pos_left N D hq
  rw [← e1, h, Int.mul_comm q D, e2]

theorem res_cross {Y T xd yd td : Int} {K : Int} (h : T * xd = K * td) : (Y * td + -T * yd) * (yd * xd) = (Y * xd + -K * yd) * (yd * td) := by
  have e1 : (Y * td + -T * yd) * (yd * xd) = Y * td * (yd * xd) + -(T * xd) * (yd * yd) := by
    rw [Int.add_mul, Int.neg_mul, Int.neg_mul, Int.neg_mul]
    congr 2
    ac_rfl
  have e2 : (Y * xd + -K * yd) * (yd * td) = Y * xd * (yd * td) + -(K * td) * (yd * yd) := by
    rw [Int.add_mul, Int.neg_mul, Int.neg_mul, Int.neg_mul]
    congr 2
    ac_rfl
  rw [e1, e2, h]
  congr 1
  ac_rfl
theorem whole_den {b : Bool} {ns ds : List Int} {F : Int} (cn : can ns) (cd : can ds) (hd : 0 < ds.length) (hg : gI (val ns) (val ds) = 1) (h : sg b (val ns) = F * val ds) : ds = [1] := by
  have dp : 0 < val ds := by have := can_low cd hd; have := pw_pos (ds.length - 1); omega
  have np := (val_bound cn.1).1
  refine limbs_of cd 1 (by omega) (by omega) ?_
  obtain ⟨n, en⟩ := Int.eq_ofNat_of_zero_le np
  obtain ⟨d, ed⟩ := Int.eq_ofNat_of_zero_le (Int.le_of_lt dp)
  rw [en, ed] at h
  have hdv : (d : Int) ∣ (n : Int) := by
    cases b with
    | false => exact ⟨F, by rw [sg_false] at h; rw [h, Int.mul_comm]⟩
    | true => exact ⟨-F, by simp [sg] at h; rw [Int.mul_neg, Int.mul_comm, ← h, Int.neg_neg]⟩
  have hdn : d ∣ n := Int.natCast_dvd_natCast.1 hdv
  rw [en, ed] at hg
  rw [ed]
  unfold gI at hg
  simp only [Int.toNat_natCast] at hg
  rw [Nat.gcd_eq_right hdn] at hg
  exact hg

/-- What stands in a residue's way. -/
def ResBig (N1 D1 X xd Y yd : Int) : Prop := Big N1 D1 ∨ Big (N1 / D1) 1 ∨ Big (X * (N1 / D1)) xd ∨ Big (Y * xd + -(X * (N1 / D1)) * yd) (yd * xd)
/-- What rat.Residue answers. -/
def Residues (w' : World) (k : Nat) (P : Prop) (bx : Bool) (xn xd : List Int) (cy : Bool) (yn yd : List Int) (b : Bool) (x1 : Option Addr) (n y1 : Nat) (x2 : Option Addr) (m y2 : Nat) (err : Int) : Prop :=
  (¬ P ∧ err = 22 ∧ b = false ∧ x1 = none ∧ n = 0 ∧ y1 = 0 ∧ x2 = none ∧ m = 0 ∧ y2 = 0) ∨
  (P ∧ xn.length = 0 ∧ err = 0 ∧ b = cy ∧ n = yn.length ∧ m = yd.length ∧ Own k w' (.slice x1 n y1) yn ∧ Own k w' (.slice x2 m y2) yd) ∨
  (P ∧ 0 < xn.length ∧ err = 8 ∧ b = false ∧ x1 = none ∧ n = 0 ∧ y1 = 0 ∧ x2 = none ∧ m = 0 ∧ y2 = 0 ∧ ResBig (sg cy (val yn) * sg bx (val xd)) (val yd * val xn) (sg bx (val xn)) (val xd) (sg cy (val yn)) (val yd)) ∨
  (P ∧ 0 < xn.length ∧ err = 0 ∧ ¬ ResBig (sg cy (val yn) * sg bx (val xd)) (val yd * val xn) (sg bx (val xn)) (val xd) (sg cy (val yn)) (val yd) ∧ ∃ ns ds, n = ns.length ∧ m = ds.length ∧ Own k w' (.slice x1 n y1) ns ∧ Own k w' (.slice x2 m y2) ds ∧ RightP b ns ds ∧ sg b (val ns) * (val yd * val xd) = (sg cy (val yn) * val xd + -(sg bx (val xn) * ((sg cy (val yn) * sg bx (val xd)) / (val yd * val xn))) * val yd) * val ds)
def ResGives (w : World) (P : Prop) (bx : Bool) (xn xd : List Int) (cy : Bool) (yn yd : List Int) (e : Ending) (w' : World) : Prop :=
  Below w.heap.size w w' ∧ ∃ b x1 n y1 x2 m y2 err, e = .returned (.tuple #[.agg #[.bool b, .slice x1 n y1, .slice x2 m y2], .int .i64 err]) ∧ Hid (Residues w' w.heap.size P bx xn xd cy yn yd b x1 n y1 x2 m y2 err)

section
variable {w : World} {bx cy : Bool} {a1 a2 a3 a4 : Option Addr} {c1 c2 c3 c4 : Nat} {xn xd yn yd : List Int}
theorem res_small {w' : World} {P : Prop} {e : Ending} (hb : Below w.heap.size w w') (he : e = .returned (.tuple #[.agg #[.bool false, .slice none 0 0, .slice none 0 0], .int .i64 22])) (hP : ¬ P) : ResGives w P bx xn xd cy yn yd e w' :=
  ⟨hb, false, none, 0, 0, none, 0, 0, 22, he, Or.inl ⟨hP, rfl, rfl, rfl, rfl, rfl, rfl, rfl, rfl⟩⟩
theorem res_big {w' : World} {P : Prop} {e : Ending} (hb : Below w.heap.size w w') (he : e = .returned (.tuple #[.agg #[.bool false, .slice none 0 0, .slice none 0 0], .int .i64 8])) (hP : P) (h0 : 0 < xn.length) (hB : ResBig (sg cy (val yn) * sg bx (val xd)) (val yd * val xn) (sg bx (val xn)) (val xd) (sg cy (val yn)) (val yd)) : ResGives w P bx xn xd cy yn yd e w' :=
  ⟨hb, false, none, 0, 0, none, 0, 0, 8, he, Or.inr (Or.inr (Or.inl ⟨hP, h0, rfl, rfl, rfl, rfl, rfl, rfl, rfl, rfl, hB⟩))⟩

set_option maxRecDepth 100000 in
set_option maxHeartbeats 16000000 in
theorem residue_rat (h1 : Rd w.heap.size w (.slice a1 xn.length c1) xn) (h2 : Rd w.heap.size w (.slice a2 xd.length c2) xd) (h3 : Rd w.heap.size w (.slice a3 yn.length c3) yn) (h4 : Rd w.heap.size w (.slice a4 yd.length c4) yd) :
    Calls Tryz.prog 45 #[.agg #[.bool bx, .slice a1 xn.length c1, .slice a2 xd.length c2], .agg #[.bool cy, .slice a3 yn.length c3, .slice a4 yd.length c4]] w fun e w' => ResGives w (RightP bx xn xd ∧ RightP cy yn yd) bx xn xd cy yn yd e w' := by
  have I := in2_new w (.bool bx) (.slice a1 xn.length c1) (.slice a2 xd.length c2) (.bool cy) (.slice a3 yn.length c3) (.slice a4 yd.length c4)
  go_enter Tryz.func45, Tryz.ntmps45
  go_wp2_with fail
  generalize hA : ((((w.alloc (.cells #[.bool bx, .slice a1 xn.length c1, .slice a2 xd.length c2] 25)).alloc (.cells #[.bool cy, .slice a3 yn.length c3, .slice a4 yd.length c4] 25)).alloc (.cells #[.bool false, .slice none 0 0, .slice none 0 0] 25)).alloc (.cells #[.bool bx, .slice a1 xn.length c1, .slice a2 xd.length c2, .bool cy, .slice a3 yn.length c3, .slice a4 yd.length c4] 25)) = v0 at *
  clear hA
  obtain ⟨hX, hY, hR, hT, g, s0⟩ := I
  have X : NVar v0 w.heap.size bx a1 xn c1 a2 xd c2 := ⟨by omega, hX, (h1.below g).mono g.size, (h2.below g).mono g.size⟩
  have Y : NVar v0 (w.heap.size + 1) cy a3 yn c3 a4 yd c4 := ⟨by omega, hY, (h3.below g).mono g.size, (h4.below g).mono g.size⟩
  have R : RVar v0 (w.heap.size + 1 + 1) := ⟨by omega, hR⟩
  have s1 : w.heap.size ≤ w.heap.size + 1 + 1 := by omega
  clear hX hY hR h1 h2 h3 h4 s0
  refine (allRight2 hT X.rn X.rd Y.rn Y.rd (Nat.le_refl _)).mono ?_
  rintro e w0 ⟨⟨r, rfl, hr⟩, k0⟩
  replace X := X.below k0
  replace Y := Y.below k0
  replace R := R.below k0
  replace g := g.trans (k0.mono g.size)
  clear hT k0
  cases r with
  | false =>
    have HP : Hid (¬ (RightP bx xn xd ∧ RightP cy yn yd)) := fun h => by have := hr.2 h; cases this
    clear hr
    have q0 := R.box.c0
    have q1 := R.box.c1
    have q2 := R.box.c2
    have p0 := R.box.f0
    have p1 := R.box.f1
    have p2 := R.box.f2
    go_wp2
    have hR3 := R.box.set (.bool false) (.slice none 0 0) (.slice none 0 0)
    have r0 := hR3.c0
    have r1 := hR3.c1
    have r2 := hR3.c2
    refine bodyPost_ret (v := .tuple #[.agg #[.bool false, .slice none 0 0, .slice none 0 0], .int .i64 22]) (by simp [results, Tryz.results45, go_sem, r0, r1, r2]) rfl ?_
    exact res_small (Below.set3 g s1 _ _ _) rfl HP.out
  | true =>
    have HP : Hid (RightP bx xn xd ∧ RightP cy yn yd) := hr.1 rfl
    clear hr
    by_cases hx0 : 0 < xn.length
    · have hxb : ((xn.length : Int) == 0) = false := by rw [beq_eq_false_iff_ne]; omega
      have HX0 : Hid (0 < val xn) := by
        have h5 := can_low HP.out.1.2.2.1 hx0
        have h6 := pw_pos (xn.length - 1)
        unfold Hid
        omega
      have HD1 : Hid (0 < val yd * val xn) := Int.mul_pos (right_pos HP.out.2).1 HX0.out
      obtain ⟨X0, X1, X2⟩ := X.cells
      obtain ⟨Y0, Y1, Y2⟩ := Y.cells
      go_wp2_with fail
      clear X0 X1 X2 Y0 Y1 Y2
      refine (by_rat Y.rn Y.rd X.rn X.rd (Nat.le_refl _) HP.out.2 HP.out.1 hx0).mono ?_
      intro e w1 hm
      obtain ⟨k2, ⟨rfl, hbig⟩ | ⟨bq, nq, dq, xq, yq, uq, tq, rfl, oq, qq, Pq, hq⟩⟩ := gives_or (hm.gives True.intro) True.intro
      · replace X := X.below k2
        replace Y := Y.below k2
        replace R := R.below k2
        replace g := g.trans (k2.mono g.size)
        have HB : Hid (ResBig (sg cy (val yn) * sg bx (val xd)) (val yd * val xn) (sg bx (val xn)) (val xd) (sg cy (val yn)) (val yd)) := Or.inl hbig
        clear hbig hm
        have kz3 := below_alloc w1 (.cells #[.bool false, .slice none 0 0, .slice none 0 0] 25)
        replace X := X.below kz3
        replace Y := Y.below kz3
        replace R := R.below kz3
        replace g := g.trans (kz3.mono g.size)
        clear kz3
        replace R := R
        have q0 := R.box.c0
        have q1 := R.box.c1
        have q2 := R.box.c2
        have p0 := R.box.f0
        have p1 := R.box.f1
        have p2 := R.box.f2
        go_wp2
        have hR3 := R.box.set (.bool false) (.slice none 0 0) (.slice none 0 0)
        have r0 := hR3.c0
        have r1 := hR3.c1
        have r2 := hR3.c2
        refine bodyPost_ret (v := .tuple #[.agg #[.bool false, .slice none 0 0, .slice none 0 0], .int .i64 8]) (by simp [results, Tryz.results45, go_sem, r0, r1, r2]) rfl ?_
        exact res_big (Below.set3 g s1 _ _ _) rfl HP.out hx0 HB.out
      · replace X := X.below k2
        replace Y := Y.below k2
        replace R := R.below k2
        replace g := g.trans (k2.mono g.size)
        clear hm
        have HQ : Hid (RightP bq nq dq ∧ sg bq (val nq) / val dq = (sg cy (val yn) * sg bx (val xd)) / (val yd * val xn) ∧ ¬ Big (sg cy (val yn) * sg bx (val xd)) (val yd * val xn)) := ⟨Pq, floor_cross HD1.out (right_pos Pq).1 hq, not_big Pq hq HD1.out⟩
        clear Pq hq
        have ka4 := below_alloc w1 (.cells #[.bool bq, .slice xq nq.length yq, .slice uq dq.length tq] 25)
        have Q := nvar_new (b := bq) oq.rd qq.rd
        replace X := X.below ka4
        replace Y := Y.below ka4
        replace R := R.below ka4
        replace g := g.trans (ka4.mono g.size)
        clear ka4
        obtain ⟨Q0, Q1, Q2⟩ := Q.cells
        go_wp2_with fail
        clear Q0 Q1 Q2
        generalize hA : (w1.alloc (.cells #[.bool bq, .slice xq nq.length yq, .slice uq dq.length tq] 25)) = v5 at *
        clear hA
        refine (floor_rat Q.rn Q.rd).mono ?_
        intro e w6 hm
        obtain ⟨k7, ⟨rfl, hbig⟩ | ⟨bf, nf, df, xf, yf, uf, tf, rfl, of, qf, Pf, hf⟩⟩ := gives_or hm HQ.out.1
        · replace X := X.below k7
          replace Y := Y.below k7
          replace Q := Q.below k7
          replace R := R.below k7
          replace g := g.trans (k7.mono g.size)
          have HB : Hid (ResBig (sg cy (val yn) * sg bx (val xd)) (val yd * val xn) (sg bx (val xn)) (val xd) (sg cy (val yn)) (val yd)) := Or.inr (Or.inl (by rw [HQ.out.2.1] at hbig; exact hbig))
          clear hbig hm
          have kz8 := below_alloc w6 (.cells #[.bool false, .slice none 0 0, .slice none 0 0] 25)
          replace X := X.below kz8
          replace Y := Y.below kz8
          replace Q := Q.below kz8
          replace R := R.below kz8
          replace g := g.trans (kz8.mono g.size)
          clear kz8
          replace R := R
          have q0 := R.box.c0
          have q1 := R.box.c1
          have q2 := R.box.c2
          have p0 := R.box.f0
          have p1 := R.box.f1
          have p2 := R.box.f2
          go_wp2
          have hR3 := R.box.set (.bool false) (.slice none 0 0) (.slice none 0 0)
          have r0 := hR3.c0
          have r1 := hR3.c1
          have r2 := hR3.c2
          refine bodyPost_ret (v := .tuple #[.agg #[.bool false, .slice none 0 0, .slice none 0 0], .int .i64 8]) (by simp [results, Tryz.results45, go_sem, r0, r1, r2]) rfl ?_
          exact res_big (Below.set3 g s1 _ _ _) rfl HP.out hx0 HB.out
        · replace X := X.below k7
          replace Y := Y.below k7
          replace Q := Q.below k7
          replace R := R.below k7
          replace g := g.trans (k7.mono g.size)
          clear hm
          rw [HQ.out.2.1] at hf
          have HF : Hid (RightP bf nf df ∧ df = [1] ∧ sg bf (val nf) = (sg cy (val yn) * sg bx (val xd)) / (val yd * val xn) ∧ ¬ Big ((sg cy (val yn) * sg bx (val xd)) / (val yd * val xn)) 1) := by
            have h5 := not_big Pf hf (by decide)
            rw [Int.mul_one] at hf
            have e2 := whole_den Pf.2.2.1 Pf.2.2.2.1 Pf.2.2.2.2.2.1 Pf.2.2.2.2.2.2 hf
            refine ⟨Pf, e2, ?_, h5⟩
            rw [hf, e2, one_val, Int.mul_one]
          clear Pf hf
          have ka9 := below_alloc w6 (.cells #[.bool bf, .slice xf nf.length yf, .slice uf df.length tf] 25)
          have G := nvar_new (b := bf) of.rd qf.rd
          replace X := X.below ka9
          replace Y := Y.below ka9
          replace Q := Q.below ka9
          replace R := R.below ka9
          replace g := g.trans (ka9.mono g.size)
          clear ka9
          obtain ⟨X0, X1, X2⟩ := X.cells
          obtain ⟨G0, G1, G2⟩ := G.cells
          go_wp2_with fail
          clear G0 G1 G2 X0 X1 X2
          generalize hA : (w6.alloc (.cells #[.bool bf, .slice xf nf.length yf, .slice uf df.length tf] 25)) = v10 at *
          clear hA
          refine (times_rat X.rn X.rd G.rn G.rd (Nat.le_refl _) HP.out.1 HF.out.1).mono ?_
          intro e w11 hm
          obtain ⟨k12, ⟨rfl, hbig⟩ | ⟨bt, nt, dt, xt, yt, ut, tt, rfl, ot, qt, Pt, ht⟩⟩ := gives_or (hm.gives True.intro) True.intro
          · replace X := X.below k12
            replace Y := Y.below k12
            replace Q := Q.below k12
            replace G := G.below k12
            replace R := R.below k12
            replace g := g.trans (k12.mono g.size)
            have HB : Hid (ResBig (sg cy (val yn) * sg bx (val xd)) (val yd * val xn) (sg bx (val xn)) (val xd) (sg cy (val yn)) (val yd)) := Or.inr (Or.inr (Or.inl (by rw [HF.out.2.1, one_val, Int.mul_one, HF.out.2.2.1] at hbig; exact hbig)))
            clear hbig hm
            have kz13 := below_alloc w11 (.cells #[.bool false, .slice none 0 0, .slice none 0 0] 25)
            replace X := X.below kz13
            replace Y := Y.below kz13
            replace Q := Q.below kz13
            replace G := G.below kz13
            replace R := R.below kz13
            replace g := g.trans (kz13.mono g.size)
            clear kz13
            replace R := R
            have q0 := R.box.c0
            have q1 := R.box.c1
            have q2 := R.box.c2
            have p0 := R.box.f0
            have p1 := R.box.f1
            have p2 := R.box.f2
            go_wp2
            have hR3 := R.box.set (.bool false) (.slice none 0 0) (.slice none 0 0)
            have r0 := hR3.c0
            have r1 := hR3.c1
            have r2 := hR3.c2
            refine bodyPost_ret (v := .tuple #[.agg #[.bool false, .slice none 0 0, .slice none 0 0], .int .i64 8]) (by simp [results, Tryz.results45, go_sem, r0, r1, r2]) rfl ?_
            exact res_big (Below.set3 g s1 _ _ _) rfl HP.out hx0 HB.out
          · replace X := X.below k12
            replace Y := Y.below k12
            replace Q := Q.below k12
            replace G := G.below k12
            replace R := R.below k12
            replace g := g.trans (k12.mono g.size)
            clear hm
            have HT : Hid (RightP bt nt dt ∧ sg bt (val nt) * val xd = sg bx (val xn) * ((sg cy (val yn) * sg bx (val xd)) / (val yd * val xn)) * val dt ∧ ¬ Big (sg bx (val xn) * ((sg cy (val yn) * sg bx (val xd)) / (val yd * val xn))) (val xd)) := by
              rw [HF.out.2.1, one_val, Int.mul_one, HF.out.2.2.1] at ht
              exact ⟨Pt, ht, not_big Pt ht (right_pos HP.out.1).1⟩
            clear Pt ht
            have ka14 := below_alloc w11 (.cells #[.bool bt, .slice xt nt.length yt, .slice ut dt.length tt] 25)
            have V := nvar_new (b := bt) ot.rd qt.rd
            replace X := X.below ka14
            replace Y := Y.below ka14
            replace Q := Q.below ka14
            replace G := G.below ka14
            replace R := R.below ka14
            replace g := g.trans (ka14.mono g.size)
            clear ka14
            obtain ⟨Y0, Y1, Y2⟩ := Y.cells
            obtain ⟨V0, V1, V2⟩ := V.cells
            go_wp2_with fail
            clear V0 V1 V2 Y0 Y1 Y2
            generalize hA : (w11.alloc (.cells #[.bool bt, .slice xt nt.length yt, .slice ut dt.length tt] 25)) = v15 at *
            clear hA
            have gk := g
            have Rk := R
            refine (sub_rat Y.rn Y.rd V.rn V.rd (Nat.le_refl _)).mono ?_
            intro e w16 hm
            obtain ⟨k17, hor⟩ := gives_or hm ⟨HP.out.2, HT.out.1⟩
            have HC : Hid ((sg cy (val yn) * val dt + sg (!bt) (val nt) * val yd) * (val yd * val xd) = (sg cy (val yn) * val xd + -(sg bx (val xn) * ((sg cy (val yn) * sg bx (val xd)) / (val yd * val xn))) * val yd) * (val yd * val dt)) := by
              unfold Hid
              rw [sg_not]
              exact res_cross HT.out.2.1
            have HDt : Hid (0 < val yd * val dt) := Int.mul_pos (right_pos HP.out.2).1 (right_pos HT.out.1).1
            have HDx : Hid (0 < val yd * val xd) := Int.mul_pos (right_pos HP.out.2).1 (right_pos HP.out.1).1
            clear hm
            obtain ⟨rfl, hbig⟩ | ⟨b6, ns, ds, x5, y5, x6, y6, rfl, on, od, hr, hv⟩ := hor
            · replace X := X.below k17
              replace Y := Y.below k17
              replace Q := Q.below k17
              replace G := G.below k17
              replace V := V.below k17
              replace R := R.below k17
              replace g := g.trans (k17.mono g.size)
              have HB : Hid (ResBig (sg cy (val yn) * sg bx (val xd)) (val yd * val xn) (sg bx (val xn)) (val xd) (sg cy (val yn)) (val yd)) := Or.inr (Or.inr (Or.inr (big_cross HDt.out HC.out hbig)))
              clear hbig
              have q0 := R.box.c0
              have q1 := R.box.c1
              have q2 := R.box.c2
              have p0 := R.box.f0
              have p1 := R.box.f1
              have p2 := R.box.f2
              go_wp2
              have hR3 := R.box.set (.bool false) (.slice none 0 0) (.slice none 0 0)
              have r0 := hR3.c0
              have r1 := hR3.c1
              have r2 := hR3.c2
              refine bodyPost_ret (v := .tuple #[.agg #[.bool false, .slice none 0 0, .slice none 0 0], .int .i64 8]) (by simp [results, Tryz.results45, go_sem, r0, r1, r2]) rfl ?_
              exact res_big (Below.set3 g s1 _ _ _) rfl HP.out hx0 HB.out
            · replace X := X.below k17
              replace Y := Y.below k17
              replace Q := Q.below k17
              replace G := G.below k17
              replace V := V.below k17
              replace R := R.below k17
              replace g := g.trans (k17.mono g.size)
              have HV : Hid (RightP b6 ns ds ∧ sg b6 (val ns) * (val yd * val xd) = (sg cy (val yn) * val xd + -(sg bx (val xn) * ((sg cy (val yn) * sg bx (val xd)) / (val yd * val xn))) * val yd) * val ds) := by
                refine ⟨hr, cancel HDt.out ?_⟩
                have e1 : sg b6 (val ns) * (val yd * val xd) * (val yd * val dt) = sg b6 (val ns) * (val yd * val dt) * (val yd * val xd) := by ac_rfl
                have e2 : (sg cy (val yn) * val xd + -(sg bx (val xn) * ((sg cy (val yn) * sg bx (val xd)) / (val yd * val xn))) * val yd) * val ds * (val yd * val dt) = (sg cy (val yn) * val xd + -(sg bx (val xn) * ((sg cy (val yn) * sg bx (val xd)) / (val yd * val xn))) * val yd) * (val yd * val dt) * val ds := by ac_rfl
                rw [e1, hv, e2, ← HC.out]
                ac_rfl
              clear hr hv
              have q0 := R.box.c0
              have q1 := R.box.c1
              have q2 := R.box.c2
              have p0 := R.box.f0
              have p1 := R.box.f1
              have p2 := R.box.f2
              go_wp2
              have hR3 := R.box.set (.bool b6) (.slice x5 ns.length y5) (.slice x6 ds.length y6)
              have r0 := hR3.c0
              have r1 := hR3.c1
              have r2 := hR3.c2
              refine bodyPost_ret (v := .tuple #[.agg #[.bool b6, .slice x5 ns.length y5, .slice x6 ds.length y6], .int .i64 0]) (by simp [results, Tryz.results45, go_sem, r0, r1, r2]) rfl ?_
              exact ⟨Below.set3 g s1 _ _ _, b6, x5, ns.length, y5, x6, ds.length, y6, 0, rfl, Or.inr (Or.inr (Or.inr ⟨HP.out, hx0, rfl, (by
                rintro (h | h | h | h)
                · exact HQ.out.2.2 h
                · exact HF.out.2.2.2 h
                · exact HT.out.2.2 h
                · exact not_big HV.out.1 HV.out.2 HDx.out h), ns, ds, rfl, rfl, (Own.set3 on Rk.lt _ _ _).mono gk.size, (Own.set3 od Rk.lt _ _ _).mono gk.size, HV.out.1, HV.out.2⟩))⟩
    · have hxb : ((xn.length : Int) == 0) = true := by rw [beq_iff_eq]; omega
      have HBy : Hid ((cy && decide (0 < yn.length)) = cy) := by
        unfold Hid
        cases cy with
        | false => rfl
        | true =>
          have h5 := HP.out.2.2.2.2.2.1
          rw [decide_eq_true (by by_cases h6 : yn.length = 0; exact absurd ⟨rfl, h6⟩ h5; omega)]; rfl
      have Hz : Hid (xn.length = 0) := by unfold Hid; omega
      obtain ⟨X0, X1, X2⟩ := X.cells
      obtain ⟨Y0, Y1, Y2⟩ := Y.cells
      go_wp2_with fail
      clear X0 X1 X2 Y0 Y1 Y2
      have gk := g
      have Rk := R
      refine (withSign_rat (b := cy) Y.rn Y.rd (Nat.le_refl _) HP.out.2).mono ?_
      rintro e wz ⟨kz, x5, y5, x6, y6, he, on, od⟩
      rw [HBy.out] at he
      subst he
      replace X := X.below kz
      replace Y := Y.below kz
      replace R := R.below kz
      replace g := g.trans (kz.mono g.size)
      have q0 := R.box.c0
      have q1 := R.box.c1
      have q2 := R.box.c2
      have p0 := R.box.f0
      have p1 := R.box.f1
      have p2 := R.box.f2
      go_wp2
      have hR3 := R.box.set (.bool cy) (.slice x5 yn.length y5) (.slice x6 yd.length y6)
      have r0 := hR3.c0
      have r1 := hR3.c1
      have r2 := hR3.c2
      refine bodyPost_ret (v := .tuple #[.agg #[.bool cy, .slice x5 yn.length y5, .slice x6 yd.length y6], .int .i64 0]) (by simp [results, Tryz.results45, go_sem, r0, r1, r2]) rfl ?_
      exact ⟨Below.set3 g s1 _ _ _, cy, x5, yn.length, y5, x6, yd.length, y6, 0, rfl, Or.inr (Or.inl ⟨HP.out, Hz.out, rfl, rfl, rfl, rfl, (Own.set3 on Rk.lt _ _ _).mono gk.size, (Own.set3 od Rk.lt _ _ _).mono gk.size⟩)⟩
end
end Go.Proofs.YtidbebfendjnlaaGreatDoor

/- The document's Residue. -/
namespace Go.Proofs.YtidbebfendjnlaaGreatDoor
set_option linter.unusedVariables false
set_option linter.unusedSimpArgs false
open Go.RowKit

theorem RVar.by' {w : World} {j k : Nat} {c : Bool} {a3 a4 : Option Addr} {c3 c4 : Nat} {ms es : List Int} (R : RVar w j) (P : NVar w k c a3 ms c3 a4 es c4) (h : j ≠ k) (x y z : Value) : RVar (((w.setCell ⟨k, 0, none⟩ x).setCell ⟨k, 1, none⟩ y).setCell ⟨k, 2, none⟩ z) j := by
  have szz : (((w.setCell ⟨k, 0, none⟩ x).setCell ⟨k, 1, none⟩ y).setCell ⟨k, 2, none⟩ z).heap.size = w.heap.size := by simp [World.setCell]
  exact ⟨by rw [szz]; exact R.lt, R.box.other h _ _ _⟩

section
variable {w : World} {bx cy : Bool} {a1 a2 a3 a4 : Option Addr} {c1 c2 c3 c4 : Nat} {xn xd yn yd : List Int}
set_option maxRecDepth 100000 in
set_option maxHeartbeats 32000000 in
theorem refResidue_rat (h1 : Rd w.heap.size w (.slice a1 xn.length c1) xn) (h2 : Rd w.heap.size w (.slice a2 xd.length c2) xd) (h3 : Rd w.heap.size w (.slice a3 yn.length c3) yn) (h4 : Rd w.heap.size w (.slice a4 yd.length c4) yd) :
    Calls Tryz.prog 46 #[.agg #[.bool bx, .slice a1 xn.length c1, .slice a2 xd.length c2], .agg #[.bool cy, .slice a3 yn.length c3, .slice a4 yd.length c4]] w fun e w' => ResGives w (RightP bx xn xd ∧ RightP cy yn yd) bx xn xd cy yn yd e w' := by
  obtain ⟨X, Y, R, g⟩ := in2_r (bx := bx) (cy := cy) w h1 h2 h3 h4
  have sr : w.heap.size ≤ w.heap.size + 1 + 1 := by omega
  have nx : w.heap.size ≠ w.heap.size + 1 + 1 := by omega
  have ny : w.heap.size + 1 ≠ w.heap.size + 1 + 1 := by omega
  clear h1 h2 h3 h4
  go_enter Tryz.func46, Tryz.ntmps46
  obtain ⟨X0, X1, X2⟩ := X.cells
  go_wp2_with fail
  clear X0 X1 X2
  generalize hA : ((w.alloc (.cells #[.bool bx, .slice a1 xn.length c1, .slice a2 xd.length c2] 25)).alloc (.cells #[.bool cy, .slice a3 yn.length c3, .slice a4 yd.length c4] 25)).alloc (.cells #[.bool false, .slice none 0 0, .slice none 0 0] 25) = v at *
  clear hA
  refine (refRight_rat X.rn X.rd).mono ?_
  rintro e wa ⟨⟨r, rfl, hr⟩, ka⟩
  replace X := X.below ka
  replace Y := Y.below ka
  replace R := R.below ka
  replace g := g.trans (ka.mono g.size)
  clear ka
  cases r with
  | false =>
    have HP : Hid (¬ RightP bx xn xd) := fun h => by have := hr.2 h; cases this
    clear hr
    have q0 := R.box.c0
    have q1 := R.box.c1
    have q2 := R.box.c2
    have p0 := R.box.f0
    have p1 := R.box.f1
    have p2 := R.box.f2
    go_wp2
    have hR3 := R.box.set (.bool false) (.slice none 0 0) (.slice none 0 0)
    have r0 := hR3.c0
    have r1 := hR3.c1
    have r2 := hR3.c2
    refine bodyPost_ret (v := .tuple #[.agg #[.bool false, .slice none 0 0, .slice none 0 0], .int .i64 22]) (by simp [results, Tryz.results46, go_sem, r0, r1, r2]) rfl ?_
    exact res_small (Below.set3 g sr _ _ _) rfl (fun h => HP.out h.1)
  | true =>
    have hx : Hid (RightP bx xn xd) := hr.1 rfl
    clear hr
    obtain ⟨Y0, Y1, Y2⟩ := Y.cells
    go_wp2_with fail
    clear Y0 Y1 Y2
    refine (refRight_rat Y.rn Y.rd).mono ?_
    rintro e wb ⟨⟨r, rfl, hr⟩, kb⟩
    replace X := X.below kb
    replace Y := Y.below kb
    replace R := R.below kb
    replace g := g.trans (kb.mono g.size)
    clear kb
    cases r with
    | false =>
      have HP : Hid (¬ RightP cy yn yd) := fun h => by have := hr.2 h; cases this
      clear hr
      have q0 := R.box.c0
      have q1 := R.box.c1
      have q2 := R.box.c2
      have p0 := R.box.f0
      have p1 := R.box.f1
      have p2 := R.box.f2
      go_wp2
      have hR3 := R.box.set (.bool false) (.slice none 0 0) (.slice none 0 0)
      have r0 := hR3.c0
      have r1 := hR3.c1
      have r2 := hR3.c2
      refine bodyPost_ret (v := .tuple #[.agg #[.bool false, .slice none 0 0, .slice none 0 0], .int .i64 22]) (by simp [results, Tryz.results46, go_sem, r0, r1, r2]) rfl ?_
      exact res_small (Below.set3 g sr _ _ _) rfl (fun h => HP.out h.2)
    | true =>
      have hy : Hid (RightP cy yn yd) := hr.1 rfl
      clear hr
      have l1 := hx.out.1
      have l2 := hx.out.2.1
      have l3 := hy.out.1
      have l4 := hy.out.2.1
      have HP : Hid (RightP bx xn xd ∧ RightP cy yn yd) := ⟨hx.out, hy.out⟩
      by_cases hx0 : 0 < xn.length
      · have hxb : ((xn.length : Int) == 0) = false := by rw [beq_eq_false_iff_ne]; omega
        have HX0 : Hid (0 < val xn) := by
          have h5 := can_low HP.out.1.2.2.1 hx0
          have h6 := pw_pos (xn.length - 1)
          unfold Hid
          omega
        have HD1 : Hid (0 < val yd * val xn) := Int.mul_pos (right_pos HP.out.2).1 HX0.out
        obtain ⟨X0, X1, X2⟩ := X.cells
        obtain ⟨Y0, Y1, Y2⟩ := Y.cells
        go_wp2_with fail
        clear X0 X1 X2 Y0 Y1 Y2
        refine (refDiv_nz Y.rn Y.rd X.rn X.rd hx0).mono ?_
        intro e w1 hm
        obtain ⟨k2, ⟨rfl, hbig⟩ | ⟨bq, nq, dq, xq, yq, uq, tq, rfl, oq, qq, Pq, hq⟩⟩ := gives_or hm ⟨HP.out.2, HP.out.1⟩
        · replace X := X.below k2
          replace Y := Y.below k2
          replace R := R.below k2
          replace g := g.trans (k2.mono g.size)
          have HB : Hid (ResBig (sg cy (val yn) * sg bx (val xd)) (val yd * val xn) (sg bx (val xn)) (val xd) (sg cy (val yn)) (val yd)) := Or.inl hbig
          clear hbig hm
          have kz3 := below_alloc w1 (.cells #[.bool false, .slice none 0 0, .slice none 0 0] 25)
          replace X := X.below kz3
          replace Y := Y.below kz3
          replace R := R.below kz3
          replace g := g.trans (kz3.mono g.size)
          clear kz3
          have q0 := R.box.c0
          have q1 := R.box.c1
          have q2 := R.box.c2
          have p0 := R.box.f0
          have p1 := R.box.f1
          have p2 := R.box.f2
          go_wp2
          have hR3 := R.box.set (.bool false) (.slice none 0 0) (.slice none 0 0)
          have r0 := hR3.c0
          have r1 := hR3.c1
          have r2 := hR3.c2
          refine bodyPost_ret (v := .tuple #[.agg #[.bool false, .slice none 0 0, .slice none 0 0], .int .i64 8]) (by simp [results, Tryz.results46, go_sem, r0, r1, r2]) rfl ?_
          exact res_big (Below.set3 g sr _ _ _) rfl HP.out hx0 HB.out
        · replace X := X.below k2
          replace Y := Y.below k2
          replace R := R.below k2
          replace g := g.trans (k2.mono g.size)
          clear hm
          have HQ : Hid (RightP bq nq dq ∧ sg bq (val nq) / val dq = (sg cy (val yn) * sg bx (val xd)) / (val yd * val xn) ∧ ¬ Big (sg cy (val yn) * sg bx (val xd)) (val yd * val xn)) := ⟨Pq, floor_cross HD1.out (right_pos Pq).1 hq, not_big Pq hq HD1.out⟩
          clear Pq hq
          have neX : w.heap.size ≠ w1.heap.size := Nat.ne_of_lt X.lt
          have neY : w.heap.size + 1 ≠ w1.heap.size := Nat.ne_of_lt Y.lt
          have neR : w.heap.size + 1 + 1 ≠ w1.heap.size := Nat.ne_of_lt R.lt
          have leQ : w.heap.size ≤ w1.heap.size := g.size
          have ka4 := below_alloc w1 (.cells #[.bool bq, .slice xq nq.length yq, .slice uq dq.length tq] 25)
          have Q := nvar_new (b := bq) oq.rd qq.rd
          replace X := X.below ka4
          replace Y := Y.below ka4
          replace R := R.below ka4
          replace g := g.trans (ka4.mono g.size)
          clear ka4
          obtain ⟨Q0, Q1, Q2⟩ := Q.cells
          go_wp2_with fail
          clear Q0 Q1 Q2
          generalize hA : (w1.alloc (.cells #[.bool bq, .slice xq nq.length yq, .slice uq dq.length tq] 25)) = v5 at *
          clear hA
          refine (refFloor_rat Q.rn Q.rd).mono ?_
          intro e w6 hm
          obtain ⟨k7, ⟨rfl, hbig⟩ | ⟨bf, nf, df, xf, yf, uf, tf, rfl, of, qf, Pf, hf⟩⟩ := gives_or hm HQ.out.1
          · replace X := X.below k7
            replace Y := Y.below k7
            replace Q := Q.below k7
            replace R := R.below k7
            replace g := g.trans (k7.mono g.size)
            have HB : Hid (ResBig (sg cy (val yn) * sg bx (val xd)) (val yd * val xn) (sg bx (val xn)) (val xd) (sg cy (val yn)) (val yd)) := Or.inr (Or.inl (by rw [HQ.out.2.1] at hbig; exact hbig))
            clear hbig hm
            have z0 := Q.box.c0
            have z1 := Q.box.c1
            have z2 := Q.box.c2
            have y0 := Q.box.f0
            have y1 := Q.box.f1
            have y2 := Q.box.f2
            replace R := R.by' Q neR (.bool false) (.slice none 0 0) (.slice none 0 0)
            replace g := Below.set3 g leQ (.bool false) (.slice none 0 0) (.slice none 0 0)
            have q0 := R.box.c0
            have q1 := R.box.c1
            have q2 := R.box.c2
            have p0 := R.box.f0
            have p1 := R.box.f1
            have p2 := R.box.f2
            go_wp2
            have hR3 := R.box.set (.bool false) (.slice none 0 0) (.slice none 0 0)
            have r0 := hR3.c0
            have r1 := hR3.c1
            have r2 := hR3.c2
            refine bodyPost_ret (v := .tuple #[.agg #[.bool false, .slice none 0 0, .slice none 0 0], .int .i64 8]) (by simp [results, Tryz.results46, go_sem, r0, r1, r2]) rfl ?_
            exact res_big (Below.set3 g sr _ _ _) rfl HP.out hx0 HB.out
          · replace X := X.below k7
            replace Y := Y.below k7
            replace Q := Q.below k7
            replace R := R.below k7
            replace g := g.trans (k7.mono g.size)
            clear hm
            rw [HQ.out.2.1] at hf
            have HF : Hid (RightP bf nf df ∧ df = [1] ∧ sg bf (val nf) = (sg cy (val yn) * sg bx (val xd)) / (val yd * val xn) ∧ ¬ Big ((sg cy (val yn) * sg bx (val xd)) / (val yd * val xn)) 1) := by
              have h5 := not_big Pf hf (by decide)
              rw [Int.mul_one] at hf
              have e2 := whole_den Pf.2.2.1 Pf.2.2.2.1 Pf.2.2.2.2.2.1 Pf.2.2.2.2.2.2 hf
              refine ⟨Pf, e2, ?_, h5⟩
              rw [hf, e2, one_val, Int.mul_one]
            clear Pf hf
            have z0 := Q.box.c0
            have z1 := Q.box.c1
            have z2 := Q.box.c2
            have y0 := Q.box.f0
            have y1 := Q.box.f1
            have y2 := Q.box.f2
            replace X := X.by' Q neX (.bool bf) (.slice xf nf.length yf) (.slice uf df.length tf)
            replace Y := Y.by' Q neY (.bool bf) (.slice xf nf.length yf) (.slice uf df.length tf)
            replace R := R.by' Q neR (.bool bf) (.slice xf nf.length yf) (.slice uf df.length tf)
            replace Q := Q.put (c := bf) of.rd qf.rd
            replace g := Below.set3 g leQ (.bool bf) (.slice xf nf.length yf) (.slice uf df.length tf)
            obtain ⟨X0, X1, X2⟩ := X.cells
            obtain ⟨Q0, Q1, Q2⟩ := Q.cells
            go_wp2_with fail
            clear X0 X1 X2 Q0 Q1 Q2
            clear z0 z1 z2 y0 y1 y2
            generalize hA : (((w6.setCell ⟨w1.heap.size, 0, none⟩ (.bool bf)).setCell ⟨w1.heap.size, 1, none⟩ (.slice xf nf.length yf)).setCell ⟨w1.heap.size, 2, none⟩ (.slice uf df.length tf)) = v8 at *
            clear hA
            have hf1 : Hid (RightP bf nf df) := HF.out.1
            refine (refTimes_rat X.rn X.rd Q.rn Q.rd hx hf1).mono ?_
            intro e w9 hm
            obtain ⟨k10, ⟨rfl, hbig⟩ | ⟨bt, nt, dt, xt, yt, ut, tt, rfl, ot, qt, Pt, ht⟩⟩ := gives_or (hm.gives True.intro) True.intro
            · replace X := X.below k10
              replace Y := Y.below k10
              replace Q := Q.below k10
              replace R := R.below k10
              replace g := g.trans (k10.mono g.size)
              have HB : Hid (ResBig (sg cy (val yn) * sg bx (val xd)) (val yd * val xn) (sg bx (val xn)) (val xd) (sg cy (val yn)) (val yd)) := Or.inr (Or.inr (Or.inl (by rw [HF.out.2.1, one_val, Int.mul_one, HF.out.2.2.1] at hbig; exact hbig)))
              clear hbig hm
              have kz11 := below_alloc w9 (.cells #[.bool false, .slice none 0 0, .slice none 0 0] 25)
              replace X := X.below kz11
              replace Y := Y.below kz11
              replace Q := Q.below kz11
              replace R := R.below kz11
              replace g := g.trans (kz11.mono g.size)
              clear kz11
              have q0 := R.box.c0
              have q1 := R.box.c1
              have q2 := R.box.c2
              have p0 := R.box.f0
              have p1 := R.box.f1
              have p2 := R.box.f2
              go_wp2
              have hR3 := R.box.set (.bool false) (.slice none 0 0) (.slice none 0 0)
              have r0 := hR3.c0
              have r1 := hR3.c1
              have r2 := hR3.c2
              refine bodyPost_ret (v := .tuple #[.agg #[.bool false, .slice none 0 0, .slice none 0 0], .int .i64 8]) (by simp [results, Tryz.results46, go_sem, r0, r1, r2]) rfl ?_
              exact res_big (Below.set3 g sr _ _ _) rfl HP.out hx0 HB.out
            · replace X := X.below k10
              replace Y := Y.below k10
              replace Q := Q.below k10
              replace R := R.below k10
              replace g := g.trans (k10.mono g.size)
              clear hm
              have neV : w9.heap.size ≠ w.heap.size + 1 + 1 := Nat.ne_of_gt R.lt
              have HT : Hid (RightP bt nt dt ∧ sg bt (val nt) * val xd = sg bx (val xn) * ((sg cy (val yn) * sg bx (val xd)) / (val yd * val xn)) * val dt ∧ ¬ Big (sg bx (val xn) * ((sg cy (val yn) * sg bx (val xd)) / (val yd * val xn))) (val xd)) := by
                rw [HF.out.2.1, one_val, Int.mul_one, HF.out.2.2.1] at ht
                exact ⟨Pt, ht, not_big Pt ht (right_pos HP.out.1).1⟩
              clear Pt ht
              have ka12 := below_alloc w9 (.cells #[.bool bt, .slice xt nt.length yt, .slice ut dt.length tt] 25)
              have V := nvar_new (b := bt) ot.rd qt.rd
              replace X := X.below ka12
              replace Y := Y.below ka12
              replace Q := Q.below ka12
              replace R := R.below ka12
              replace g := g.trans (ka12.mono g.size)
              clear ka12
              go_wp2
              generalize hA : (w9.alloc (.cells #[.bool bt, .slice xt nt.length yt, .slice ut dt.length tt] 25)) = v13 at *
              clear hA
              have hcells : ∀ {w' : World}, Below v13.heap.size v13 w' → w'.cell? ⟨(w.heap.size + 1), 0, none⟩ = some (.bool cy) ∧ w'.cell? ⟨(w.heap.size + 1), 1, none⟩ = some (.slice a3 yn.length c3) ∧ w'.cell? ⟨(w.heap.size + 1), 2, none⟩ = some (.slice a4 yd.length c4) ∧ w'.cell? ⟨w9.heap.size, 0, none⟩ = some (.bool bt) ∧ w'.cell? ⟨w9.heap.size, 1, none⟩ = some (.slice xt nt.length yt) ∧ w'.cell? ⟨w9.heap.size, 2, none⟩ = some (.slice ut dt.length tt) := fun hb => ⟨(Y.below hb).k0, (Y.below hb).k1, (Y.below hb).k2, (V.below hb).k0, (V.below hb).k1, (V.below hb).k2⟩
              obtain ⟨s0, s1, s2, s3, s4, s5⟩ := hcells (Below.refl _ _)
              have m1 : nt.length ≤ 10000 := Nat.le_trans HT.out.1.1 (by decide)
              have m2 : dt.length ≤ 10000 := Nat.le_trans HT.out.1.2.1 (by decide)
              have M : Hid (can nt ∧ can dt) := ⟨HT.out.1.2.2.1, HT.out.1.2.2.2.1⟩
              have HN := right_with (!bt) HT.out.1
              have HC : Hid ((sg cy (val yn) * val dt + sg (!bt) (val nt) * val yd) * (val yd * val xd) = (sg cy (val yn) * val xd + -(sg bx (val xn) * ((sg cy (val yn) * sg bx (val xd)) / (val yd * val xn))) * val yd) * (val yd * val dt)) := by
                unfold Hid
                rw [sg_not]
                exact res_cross HT.out.2.1
              have HDt : Hid (0 < val yd * val dt) := Int.mul_pos (right_pos HP.out.2).1 (right_pos HT.out.1).1
              have HDx : Hid (0 < val yd * val xd) := Int.mul_pos (right_pos HP.out.2).1 (right_pos HP.out.1).1
              have nv : w9.heap.size ≠ w.heap.size + 1 + 1 := by have h5 := neV; exact h5
              go_region_held3 (fun w' => w'.cell? ⟨(w.heap.size + 1), 0, none⟩ = some (.bool cy) ∧ w'.cell? ⟨(w.heap.size + 1), 1, none⟩ = some (.slice a3 yn.length c3) ∧ w'.cell? ⟨(w.heap.size + 1), 2, none⟩ = some (.slice a4 yd.length c4) ∧ w'.cell? ⟨w9.heap.size, 0, none⟩ = some (.bool bt) ∧ w'.cell? ⟨w9.heap.size, 1, none⟩ = some (.slice xt nt.length yt) ∧ w'.cell? ⟨w9.heap.size, 2, none⟩ = some (.slice ut dt.length tt))
                (first | (go_keep; done) | exact tw1 | exact tw2 | exact tws)
                (first
                  | (have j := tw1; go_at_call 78; refine (refTwo_rat (Y.below t1).rn (Y.below t1).rd on.rd od.rd hy HN.1).mono ?_; intro e u2 hm6; rw [HN.2] at hm6; obtain ⟨bm6, b6, x5, n5, y5, x6, n6, y6, err, rfl, hform⟩ := (RMakes.from' t1 hm6).form; have tw2 := hcells bm6; have YF := Y.below bm6; have VF := V.below bm6; have RF := R.below bm6; have tws := And.intro (YF.box.other ny (.bool b6) (.slice x5 n5 y5) (.slice x6 n6 y6)).c0 (And.intro (YF.box.other ny (.bool b6) (.slice x5 n5 y5) (.slice x6 n6 y6)).c1 (And.intro (YF.box.other ny (.bool b6) (.slice x5 n5 y5) (.slice x6 n6 y6)).c2 (And.intro (VF.box.other nv (.bool b6) (.slice x5 n5 y5) (.slice x6 n6 y6)).c0 (And.intro (VF.box.other nv (.bool b6) (.slice x5 n5 y5) (.slice x6 n6 y6)).c1 (VF.box.other nv (.bool b6) (.slice x5 n5 y5) (.slice x6 n6 y6)).c2)))); have q0 := RF.box.c0; have q1 := RF.box.c1; have q2 := RF.box.c2; have p0 := RF.box.f0; have p1 := RF.box.f1; have p2 := RF.box.f2)
                  | (go_at_call 82; refine (refNeg_num (w := v13.drew) V.rn V.rd m1 m2 M).mono ?_; rintro e u1 ⟨j1, z1, y1, z2, y2, rfl, on, od⟩; have t1 : Below v13.heap.size v13 u1 := below_undrew (w := v13) (B := v13.heap.size) j1; have tw1 := hcells t1))
              all_goals
                go_wp2
                have hR3 := RF.box.set (.bool b6) (.slice x5 n5 y5) (.slice x6 n6 y6)
                have r0 := hR3.c0
                have r1 := hR3.c1
                have r2 := hR3.c2
                refine bodyPost_ret (v := .tuple #[.agg #[.bool b6, .slice x5 n5 y5, .slice x6 n6 y6], .int .i64 err]) (by simp [results, Tryz.results46, go_sem, r0, r1, r2]) rfl ?_
                obtain ⟨gb, hor⟩ := gives_or ((rform_done g sr R.lt bm6 hform).gives True.intro) True.intro
                rcases hor with ⟨he, hbig⟩ | ⟨b7, ns, ds, x7, y7, x8, y8, he, on7, od7, hr, hv⟩
                · exact res_big gb he HP.out hx0 (Or.inr (Or.inr (Or.inr (big_cross HDt.out HC.out hbig))))
                · have hv2 : sg b7 (val ns) * (val yd * val xd) = (sg cy (val yn) * val xd + -(sg bx (val xn) * ((sg cy (val yn) * sg bx (val xd)) / (val yd * val xn))) * val yd) * val ds := by
                    refine cancel HDt.out ?_
                    have e1 : sg b7 (val ns) * (val yd * val xd) * (val yd * val dt) = sg b7 (val ns) * (val yd * val dt) * (val yd * val xd) := by ac_rfl
                    have e2 : (sg cy (val yn) * val xd + -(sg bx (val xn) * ((sg cy (val yn) * sg bx (val xd)) / (val yd * val xn))) * val yd) * val ds * (val yd * val dt) = (sg cy (val yn) * val xd + -(sg bx (val xn) * ((sg cy (val yn) * sg bx (val xd)) / (val yd * val xn))) * val yd) * (val yd * val dt) * val ds := by ac_rfl
                    rw [e1, hv, e2, ← HC.out]
                    ac_rfl
                  refine ⟨gb, b7, x7, ns.length, y7, x8, ds.length, y8, 0, he, Or.inr (Or.inr (Or.inr ⟨HP.out, hx0, rfl, ?_, ns, ds, rfl, rfl, on7, od7, hr, hv2⟩))⟩
                  rintro (h | h | h | h)
                  · exact HQ.out.2.2 h
                  · exact HF.out.2.2.2 h
                  · exact HT.out.2.2 h
                  · exact not_big hr hv2 HDx.out h
      · have hxb : ((xn.length : Int) == 0) = true := by rw [beq_iff_eq]; omega
        have Hz : Hid (xn.length = 0) := by unfold Hid; omega
        have m1 : yn.length ≤ 10000 := by omega
        have m2 : yd.length ≤ 10000 := by omega
        have M : Hid (can yn ∧ can yd) := ⟨hy.out.2.2.1, hy.out.2.2.2.1⟩
        obtain ⟨X0, X1, X2⟩ := X.cells
        obtain ⟨Y0, Y1, Y2⟩ := Y.cells
        go_wp2_with fail
        clear X0 X1 X2 Y0 Y1 Y2
        have gk := g
        have Rk := R
        refine (refCopied_any Y.rn Y.rd m1 m2 M).mono ?_
        rintro e wz ⟨kz, x5, y5, x6, y6, rfl, on, od⟩
        replace X := X.below kz
        replace Y := Y.below kz
        replace R := R.below kz
        replace g := g.trans (kz.mono g.size)
        have q0 := R.box.c0
        have q1 := R.box.c1
        have q2 := R.box.c2
        have p0 := R.box.f0
        have p1 := R.box.f1
        have p2 := R.box.f2
        go_wp2
        have hR3 := R.box.set (.bool cy) (.slice x5 yn.length y5) (.slice x6 yd.length y6)
        have r0 := hR3.c0
        have r1 := hR3.c1
        have r2 := hR3.c2
        refine bodyPost_ret (v := .tuple #[.agg #[.bool cy, .slice x5 yn.length y5, .slice x6 yd.length y6], .int .i64 0]) (by simp [results, Tryz.results46, go_sem, r0, r1, r2]) rfl ?_
        exact ⟨Below.set3 g sr _ _ _, cy, x5, yn.length, y5, x6, yd.length, y6, 0, rfl, Or.inr (Or.inl ⟨HP.out, Hz.out, rfl, rfl, rfl, rfl, (Own.set3 on Rk.lt _ _ _).mono gk.size, (Own.set3 od Rk.lt _ _ _).mono gk.size⟩)⟩
end
end Go.Proofs.YtidbebfendjnlaaGreatDoor

/- rat.Binomial of every two numbers. -/
namespace Go.Proofs.YtidbebfendjnlaaGreatDoor
set_option linter.unusedVariables false
set_option linter.unusedSimpArgs false
open Go.RowKit

/-- What a number of sets answers: N of them. -/
def CountSpec (P C : Prop) (N : Nat) (b : Bool) (ns ds : List Int) (err : Int) : Prop :=
  (¬ P ∧ err = 22 ∧ b = false ∧ ns = [] ∧ ds = []) ∨ (P ∧ ¬ C ∧ err = 3 ∧ b = false ∧ ns = [] ∧ ds = []) ∨ (P ∧ C ∧ pw 32 ≤ (N : Int) ∧ err = 8 ∧ b = false ∧ ns = [] ∧ ds = []) ∨ (P ∧ C ∧ (N : Int) < pw 32 ∧ err = 0 ∧ b = false ∧ can ns ∧ val ns = (N : Int) ∧ ds = [1])
theorem CountSpec.unique {P C : Prop} {N : Nat} {b c : Bool} {ns ds ms es : List Int} {e f : Int} (h : CountSpec P C N b ns ds e) (k : CountSpec P C N c ms es f) : c = b ∧ ms = ns ∧ es = ds ∧ f = e := by
  rcases h with ⟨hp, rfl, rfl, rfl, rfl⟩ | ⟨hp, hc, rfl, rfl, rfl, rfl⟩ | ⟨hp, hc, h1, rfl, rfl, rfl, rfl⟩ | ⟨hp, hc, h1, rfl, rfl, cn, vn, rfl⟩ <;> rcases k with ⟨kp, rfl, rfl, rfl, rfl⟩ | ⟨kp, kc, rfl, rfl, rfl, rfl⟩ | ⟨kp, kc, k1, rfl, rfl, rfl, rfl⟩ | ⟨kp, kc, k1, rfl, rfl, cm, vm, rfl⟩
  all_goals first | exact ⟨rfl, rfl, rfl, rfl⟩ | exact absurd kp hp | exact absurd hp kp | exact absurd kc hc | exact absurd hc kc | (exfalso; omega) | exact ⟨rfl, can_inj cm cn (by rw [vn, vm]), rfl, rfl⟩

section
variable {w : World} {bx cy : Bool} {a1 a2 a3 a4 : Option Addr} {c1 c2 c3 c4 : Nat} {xn xd yn yd : List Int}
set_option maxRecDepth 100000 in
set_option maxHeartbeats 16000000 in
theorem binomial_err (h1 : Rd w.heap.size w (.slice a1 xn.length c1) xn) (h2 : Rd w.heap.size w (.slice a2 xd.length c2) xd) (h3 : Rd w.heap.size w (.slice a3 yn.length c3) yn) (h4 : Rd w.heap.size w (.slice a4 yd.length c4) yd) (hno : Hid (¬ ((RightP bx xn xd ∧ RightP cy yn yd) ∧ IsCount bx xd ∧ IsCount cy yd))) :
    Calls Tryz.prog 51 #[.agg #[.bool bx, .slice a1 xn.length c1, .slice a2 xd.length c2], .agg #[.bool cy, .slice a3 yn.length c3, .slice a4 yd.length c4]] w fun e w' => ∃ b ns ds err, Hid (CountSpec (RightP bx xn xd ∧ RightP cy yn yd) (IsCount bx xd ∧ IsCount cy yd) (binom (val yn).toNat (val xn).toNat) b ns ds err) ∧ RAns w b ns ds err e w' := by
  have I := in2_new w (.bool bx) (.slice a1 xn.length c1) (.slice a2 xd.length c2) (.bool cy) (.slice a3 yn.length c3) (.slice a4 yd.length c4)
  go_enter Tryz.func51, Tryz.ntmps51
  go_wp2_with fail
  generalize hA : ((((w.alloc (.cells #[.bool bx, .slice a1 xn.length c1, .slice a2 xd.length c2] 25)).alloc (.cells #[.bool cy, .slice a3 yn.length c3, .slice a4 yd.length c4] 25)).alloc (.cells #[.bool false, .slice none 0 0, .slice none 0 0] 25)).alloc (.cells #[.bool bx, .slice a1 xn.length c1, .slice a2 xd.length c2, .bool cy, .slice a3 yn.length c3, .slice a4 yd.length c4] 25)) = v0 at *
  clear hA
  obtain ⟨hX, hY, hR, hT, g, s0⟩ := I
  have X : NVar v0 w.heap.size bx a1 xn c1 a2 xd c2 := ⟨by omega, hX, (h1.below g).mono g.size, (h2.below g).mono g.size⟩
  have Y : NVar v0 (w.heap.size + 1) cy a3 yn c3 a4 yd c4 := ⟨by omega, hY, (h3.below g).mono g.size, (h4.below g).mono g.size⟩
  have R : RVar v0 (w.heap.size + 1 + 1) := ⟨by omega, hR⟩
  have sr : w.heap.size ≤ w.heap.size + 1 + 1 := by omega
  clear hX hY hR h1 h2 h3 h4 s0
  refine (allRight2 hT X.rn X.rd Y.rn Y.rd (Nat.le_refl _)).mono ?_
  rintro e w0 ⟨⟨r, rfl, hr⟩, k0⟩
  replace X := X.below k0
  replace Y := Y.below k0
  replace R := R.below k0
  replace g := g.trans (k0.mono g.size)
  clear hT k0
  cases r with
  | false =>
    have HP : Hid (¬ (RightP bx xn xd ∧ RightP cy yn yd)) := fun h => by have := hr.2 h; cases this
    clear hr
    have q0 := R.box.c0
    have q1 := R.box.c1
    have q2 := R.box.c2
    have p0 := R.box.f0
    have p1 := R.box.f1
    have p2 := R.box.f2
    go_wp2
    have hR3 := R.box.set (.bool false) (.slice none 0 0) (.slice none 0 0)
    have r0 := hR3.c0
    have r1 := hR3.c1
    have r2 := hR3.c2
    refine bodyPost_ret (v := .tuple #[.agg #[.bool false, .slice none 0 0, .slice none 0 0], .int .i64 22]) (by simp [results, Tryz.results51, go_sem, r0, r1, r2]) rfl ?_
    exact ⟨false, [], [], 22, Or.inl ⟨HP.out, rfl, rfl, rfl, rfl⟩, Below.set3 g sr _ _ _, none, 0, none, 0, rfl, nil_rd _, nil_rd _⟩
  | true =>
    have HP : Hid (RightP bx xn xd ∧ RightP cy yn yd) := hr.1 rfl
    clear hr
    obtain ⟨X0, X1, X2⟩ := X.cells
    obtain ⟨Y0, Y1, Y2⟩ := Y.cells
    go_wp2_with fail
    clear X0 X1 X2 Y0 Y1 Y2
    refine (isCount_any X.rn X.rd).mono ?_
    rintro e w1 ⟨⟨r, rfl, hr⟩, k1⟩
    replace X := X.below k1
    replace Y := Y.below k1
    replace R := R.below k1
    replace g := g.trans (k1.mono g.size)
    clear k1
    cases r with
    | false =>
      have HC : Hid (¬ IsCount bx xd) := fun h => by have := hr.2 h; cases this
      clear hr
      have q0 := R.box.c0
      have q1 := R.box.c1
      have q2 := R.box.c2
      have p0 := R.box.f0
      have p1 := R.box.f1
      have p2 := R.box.f2
      go_wp2
      have hR3 := R.box.set (.bool false) (.slice none 0 0) (.slice none 0 0)
      have r0 := hR3.c0
      have r1 := hR3.c1
      have r2 := hR3.c2
      refine bodyPost_ret (v := .tuple #[.agg #[.bool false, .slice none 0 0, .slice none 0 0], .int .i64 3]) (by simp [results, Tryz.results51, go_sem, r0, r1, r2]) rfl ?_
      exact ⟨false, [], [], 3, Or.inr (Or.inl ⟨HP.out, fun h => HC.out h.1, rfl, rfl, rfl, rfl⟩), Below.set3 g sr _ _ _, none, 0, none, 0, rfl, nil_rd _, nil_rd _⟩
    | true =>
      have HC : Hid (IsCount bx xd) := hr.1 rfl
      clear hr
      obtain ⟨X0, X1, X2⟩ := X.cells
      obtain ⟨Y0, Y1, Y2⟩ := Y.cells
      go_wp2_with fail
      clear X0 X1 X2 Y0 Y1 Y2
      refine (isCount_any Y.rn Y.rd).mono ?_
      rintro e w2 ⟨⟨r, rfl, hr⟩, k2⟩
      replace X := X.below k2
      replace Y := Y.below k2
      replace R := R.below k2
      replace g := g.trans (k2.mono g.size)
      clear k2
      cases r with
      | false =>
        have HD : Hid (¬ IsCount cy yd) := fun h => by have := hr.2 h; cases this
        clear hr
        have q0 := R.box.c0
        have q1 := R.box.c1
        have q2 := R.box.c2
        have p0 := R.box.f0
        have p1 := R.box.f1
        have p2 := R.box.f2
        go_wp2
        have hR3 := R.box.set (.bool false) (.slice none 0 0) (.slice none 0 0)
        have r0 := hR3.c0
        have r1 := hR3.c1
        have r2 := hR3.c2
        refine bodyPost_ret (v := .tuple #[.agg #[.bool false, .slice none 0 0, .slice none 0 0], .int .i64 3]) (by simp [results, Tryz.results51, go_sem, r0, r1, r2]) rfl ?_
        exact ⟨false, [], [], 3, Or.inr (Or.inl ⟨HP.out, fun h => HD.out h.2, rfl, rfl, rfl, rfl⟩), Below.set3 g sr _ _ _, none, 0, none, 0, rfl, nil_rd _, nil_rd _⟩
      | true =>
        exact absurd ⟨HP.out, HC.out, hr.1 rfl⟩ hno.out

theorem binomial_rat (h1 : Rd w.heap.size w (.slice a1 xn.length c1) xn) (h2 : Rd w.heap.size w (.slice a2 xd.length c2) xd) (h3 : Rd w.heap.size w (.slice a3 yn.length c3) yn) (h4 : Rd w.heap.size w (.slice a4 yd.length c4) yd) :
    Calls Tryz.prog 51 #[.agg #[.bool bx, .slice a1 xn.length c1, .slice a2 xd.length c2], .agg #[.bool cy, .slice a3 yn.length c3, .slice a4 yd.length c4]] w fun e w' => ∃ b ns ds err, Hid (CountSpec (RightP bx xn xd ∧ RightP cy yn yd) (IsCount bx xd ∧ IsCount cy yd) (binom (val yn).toNat (val xn).toNat) b ns ds err) ∧ RAns w b ns ds err e w' := by
  by_cases hc : (RightP bx xn xd ∧ RightP cy yn yd) ∧ IsCount bx xd ∧ IsCount cy yd
  · obtain ⟨⟨rx, ry⟩, cx, cc⟩ := hc
    obtain ⟨dx, hb⟩ := cx
    obtain ⟨dy, hb2⟩ := cc
    subst hb hb2
    have px := (right_pos rx).2
    have py := (right_pos ry).2
    refine (binomial_any h1 h2 h3 h4 ⟨rx, dx⟩ ⟨ry, dy⟩ (val xn).toNat (val yn).toNat (show val xn = _ by omega) (show val yn = _ by omega)).mono ?_
    rintro e w' ⟨hb, ⟨hg, he⟩ | ⟨hf, zs, ds, z1, z2, z3, z4, cz, vz, hd, he, on, od⟩⟩
    · exact ⟨false, [], [], 8, Or.inr (Or.inr (Or.inl ⟨⟨rx, ry⟩, ⟨⟨dx, rfl⟩, ⟨dy, rfl⟩⟩, hg, rfl, rfl, rfl, rfl⟩)), hb, none, 0, none, 0, he, nil_rd _, nil_rd _⟩
    · exact ⟨false, zs, ds, 0, Or.inr (Or.inr (Or.inr ⟨⟨rx, ry⟩, ⟨⟨dx, rfl⟩, ⟨dy, rfl⟩⟩, hf, rfl, rfl, cz, vz, hd.out⟩)), hb, z1, z2, z3, z4, he, on.rd, od.rd⟩
  · exact binomial_err h1 h2 h3 h4 hc
end
end Go.Proofs.YtidbebfendjnlaaGreatDoor

/- rat.Power. -/
namespace Go.Proofs.YtidbebfendjnlaaGreatDoor
set_option linter.unusedVariables false
set_option linter.unusedSimpArgs false
open Go.RowKit

theorem and_one_u32 (x : Int) (h0 : 0 ≤ x) (h1 : x < 4294967296) : bits .and .u32 x 1 = x % 2 :=
  bits_mask .u32 32 (by decide) (fun n a b => by rw [IntKind.wrap_u32]; omega) 1 (by decide) x h0 (by omega)
theorem rd_head {B : Nat} {w : World} {a : Option Addr} {c : Nat} {xs : List Int} (h : Rd B w (.slice a xs.length c) xs) (h0 : 0 < xs.length) : ∃ pb po, a = some ⟨pb, po, none⟩ ∧ xs.length ≤ c ∧ c ≤ 9223372036854775807 := by
  obtain ⟨_, a', c', e, h1, h2, _, h3⟩ := h
  have ea : a' = a ∧ c' = c := by cases e; exact ⟨rfl, rfl⟩
  obtain ⟨rfl, rfl⟩ := ea
  rcases h3 with h3 | ⟨b, o, rfl, _, _⟩
  · omega
  · exact ⟨b, o, rfl, h1, h2⟩
theorem rd_cell0 {B pb po : Nat} {w : World} {c : Nat} {xs : List Int} (h : Rd B w (.slice (some ⟨pb, po, none⟩) xs.length c) xs) (h0 : 0 < xs.length) : w.cell? ⟨pb, po, none⟩ = some (.int .u32 (xs.getD 0 0)) := by
  obtain ⟨_, a', c', e, _, _, _, h3⟩ := h
  have ea : a' = some ⟨pb, po, none⟩ := by cases e; rfl
  subst ea
  rcases h3 with h3 | ⟨b, o, e2, _, k⟩
  · omega
  · have eb : b = pb ∧ o = po := by cases e2; exact ⟨rfl, rfl⟩
    obtain ⟨rfl, rfl⟩ := eb
    exact k 0 h0
theorem val_odd {xs : List Int} (h : lim xs) : val xs % 2 = xs.getD 0 0 % 2 ∧ 0 ≤ xs.getD 0 0 ∧ xs.getD 0 0 < 4294967296 := by
  match xs with
  | [] => exact ⟨by decide, by decide, by decide⟩
  | x :: t =>
    have hx := h x (by simp)
    refine ⟨?_, ?_, ?_⟩
    · simp only [val, List.getD_cons_zero]; omega
    · simpa using hx.1
    · simpa using hx.2
theorem sg_pow (b : Bool) (x : Int) (N : Nat) : sg b x ^ N = sg (b && decide (N % 2 = 1)) (x ^ N) := by
  cases b with
  | false => simp [sg]
  | true =>
    induction N with
    | zero => simp [sg]
    | succ N ih =>
      rw [Int.pow_succ, ih, Int.pow_succ]
      have e : ∀ y : Int, sg true y = -y := fun y => rfl
      by_cases h : N % 2 = 1
      · have h2 : ¬ (N + 1) % 2 = 1 := by omega
        simp only [h, h2, decide_true, decide_false, Bool.and_true, Bool.and_false, e, sg_false]
        rw [Int.neg_mul_neg]
      · have h2 : (N + 1) % 2 = 1 := by omega
        simp only [h, h2, decide_true, decide_false, Bool.and_true, Bool.and_false, e, sg_false]
        rw [Int.mul_neg]
theorem gI_pow {x y : Int} (hx : 0 ≤ x) (hy : 0 ≤ y) (h : gI x y = 1) (N : Nat) : gI (x ^ N) (y ^ N) = 1 := by
  obtain ⟨a, rfl⟩ := Int.eq_ofNat_of_zero_le hx
  obtain ⟨b, rfl⟩ := Int.eq_ofNat_of_zero_le hy
  unfold gI at *
  have e : ∀ c : Nat, ((c : Int) ^ N).toNat = c ^ N := fun c => by rw [← Int.natCast_pow]; exact Int.toNat_natCast _
  rw [e, e]
  simp only [Int.toNat_natCast] at h
  have h1 : Nat.Coprime a b := by unfold Nat.Coprime; omega
  have h2 : Nat.gcd (a ^ N) (b ^ N) = 1 := Nat.Coprime.pow N N h1
  rw [h2]
  rfl
theorem pow_right {b : Bool} {zs us : List Int} {A D : Int} {N : Nat} (cz : can zs) (cu : can us) (vz : val zs = A ^ N) (vu : val us = D ^ N) (hA : 0 ≤ A) (hD : 0 < D) (hg : gI A D = 1) (lz : A ^ N < pw 32) (lu : D ^ N < pw 32) :
    RightP (b && decide (0 < zs.length)) zs us ∧ zs.length ≤ 32 ∧ us.length ≤ 32 ∧ sg (b && decide (0 < zs.length)) (val zs) = sg b (A ^ N) := by
  have l1 : zs.length ≤ 32 := by rw [can_len_pw cz, vz]; exact lz
  have l2 : us.length ≤ 32 := by rw [can_len_pw cu, vu]; exact lu
  have hDp : 0 < D ^ N := Int.pow_pos hD
  have hus : 0 < us.length := by
    by_cases h : us.length = 0
    · have := (can_zero cu).1 h
      omega
    · omega
  refine ⟨⟨l1, l2, cz, cu, ?_, hus, by rw [vz, vu]; exact gI_pow hA (Int.le_of_lt hD) hg N⟩, l1, l2, ?_⟩
  · rintro ⟨h, hz⟩
    rw [decide_eq_false (by omega), Bool.and_false] at h
    cases h
  · by_cases h : 0 < zs.length
    · rw [decide_eq_true h, Bool.and_true, vz]
    · have h2 := (can_zero cz).1 (by omega)
      rw [h2, sg_zero, ← vz, h2, sg_zero]

/-- The size ahead, and the size below, of a power. -/
def pnum (c : Bool) (xn xd : List Int) : Int := if c = true then val xd else val xn
def pden (c : Bool) (xn xd : List Int) : Int := if c = true then val xn else val xd
/-- What rat.Power answers. -/
def Pows (w' : World) (k : Nat) (P : Prop) (bx : Bool) (xn xd : List Int) (cy : Bool) (yn yd : List Int) (b : Bool) (x1 : Option Addr) (n y1 : Nat) (x2 : Option Addr) (m y2 : Nat) (err : Int) : Prop :=
  (¬ P ∧ err = 22 ∧ b = false ∧ x1 = none ∧ n = 0 ∧ y1 = 0 ∧ x2 = none ∧ m = 0 ∧ y2 = 0) ∨
  (P ∧ (¬ yd = [1] ∨ (yd = [1] ∧ 0 < yn.length ∧ xn.length = 0 ∧ cy = true)) ∧ err = 3 ∧ b = false ∧ x1 = none ∧ n = 0 ∧ y1 = 0 ∧ x2 = none ∧ m = 0 ∧ y2 = 0) ∨
  (P ∧ yd = [1] ∧ 0 < yn.length ∧ ¬ (xn.length = 0 ∧ cy = true) ∧ err = 8 ∧ b = false ∧ x1 = none ∧ n = 0 ∧ y1 = 0 ∧ x2 = none ∧ m = 0 ∧ y2 = 0 ∧ (pw 32 ≤ pnum cy xn xd ^ (val yn).toNat ∨ pw 32 ≤ pden cy xn xd ^ (val yn).toNat)) ∨
  (P ∧ yd = [1] ∧ ¬ (0 < yn.length ∧ xn.length = 0 ∧ cy = true) ∧ err = 0 ∧ pnum cy xn xd ^ (val yn).toNat < pw 32 ∧ pden cy xn xd ^ (val yn).toNat < pw 32 ∧ ∃ ns ds, n = ns.length ∧ m = ds.length ∧ Own k w' (.slice x1 n y1) ns ∧ Own k w' (.slice x2 m y2) ds ∧ RightP b ns ds ∧ sg b (val ns) = sg bx (pnum cy xn xd) ^ (val yn).toNat ∧ val ds = pden cy xn xd ^ (val yn).toNat)
def PowsGive (w : World) (P : Prop) (bx : Bool) (xn xd : List Int) (cy : Bool) (yn yd : List Int) (e : Ending) (w' : World) : Prop :=
  Below w.heap.size w w' ∧ ∃ b x1 n y1 x2 m y2 err, e = .returned (.tuple #[.agg #[.bool b, .slice x1 n y1, .slice x2 m y2], .int .i64 err]) ∧ Hid (Pows w' w.heap.size P bx xn xd cy yn yd b x1 n y1 x2 m y2 err)

section
variable {w : World} {bx cy : Bool} {a1 a2 a3 a4 : Option Addr} {c1 c2 c3 c4 : Nat} {xn xd yn yd : List Int}

set_option maxRecDepth 100000 in
set_option maxHeartbeats 16000000 in
theorem power_rat (h1 : Rd w.heap.size w (.slice a1 xn.length c1) xn) (h2 : Rd w.heap.size w (.slice a2 xd.length c2) xd) (h3 : Rd w.heap.size w (.slice a3 yn.length c3) yn) (h4 : Rd w.heap.size w (.slice a4 yd.length c4) yd) :
    Calls Tryz.prog 47 #[.agg #[.bool bx, .slice a1 xn.length c1, .slice a2 xd.length c2], .agg #[.bool cy, .slice a3 yn.length c3, .slice a4 yd.length c4]] w fun e w' => PowsGive w (RightP bx xn xd ∧ RightP cy yn yd) bx xn xd cy yn yd e w' := by
  have I := in2_new w (.bool bx) (.slice a1 xn.length c1) (.slice a2 xd.length c2) (.bool cy) (.slice a3 yn.length c3) (.slice a4 yd.length c4)
  go_enter Tryz.func47, Tryz.ntmps47
  go_wp2_with fail
  generalize hA : ((((w.alloc (.cells #[.bool bx, .slice a1 xn.length c1, .slice a2 xd.length c2] 25)).alloc (.cells #[.bool cy, .slice a3 yn.length c3, .slice a4 yd.length c4] 25)).alloc (.cells #[.bool false, .slice none 0 0, .slice none 0 0] 25)).alloc (.cells #[.bool bx, .slice a1 xn.length c1, .slice a2 xd.length c2, .bool cy, .slice a3 yn.length c3, .slice a4 yd.length c4] 25)) = v0 at *
  clear hA
  obtain ⟨hX, hY, hR, hT, g, s0⟩ := I
  have X : NVar v0 w.heap.size bx a1 xn c1 a2 xd c2 := ⟨by omega, hX, (h1.below g).mono g.size, (h2.below g).mono g.size⟩
  have Y : NVar v0 (w.heap.size + 1) cy a3 yn c3 a4 yd c4 := ⟨by omega, hY, (h3.below g).mono g.size, (h4.below g).mono g.size⟩
  have R : RVar v0 (w.heap.size + 1 + 1) := ⟨by omega, hR⟩
  have s1 : w.heap.size ≤ w.heap.size + 1 + 1 := by omega
  clear hX hY hR h1 h2 h3 h4 s0
  refine (allRight2 hT X.rn X.rd Y.rn Y.rd (Nat.le_refl _)).mono ?_
  rintro e w0 ⟨⟨r, rfl, hr⟩, k0⟩
  replace X := X.below k0
  replace Y := Y.below k0
  replace R := R.below k0
  replace g := g.trans (k0.mono g.size)
  clear hT k0
  cases r with
  | false =>
    have HP : Hid (¬ (RightP bx xn xd ∧ RightP cy yn yd)) := fun h => by have := hr.2 h; cases this
    clear hr
    have q0 := R.box.c0
    have q1 := R.box.c1
    have q2 := R.box.c2
    have p0 := R.box.f0
    have p1 := R.box.f1
    have p2 := R.box.f2
    go_wp2
    have hR3 := R.box.set (.bool false) (.slice none 0 0) (.slice none 0 0)
    have r0 := hR3.c0
    have r1 := hR3.c1
    have r2 := hR3.c2
    refine bodyPost_ret (v := .tuple #[.agg #[.bool false, .slice none 0 0, .slice none 0 0], .int .i64 22]) (by simp [results, Tryz.results47, go_sem, r0, r1, r2]) rfl ?_
    exact ⟨Below.set3 g s1 _ _ _, false, none, 0, 0, none, 0, 0, 22, rfl, Or.inl ⟨HP.out, rfl, rfl, rfl, rfl, rfl, rfl, rfl, rfl⟩⟩
  | true =>
    have HP : Hid (RightP bx xn xd ∧ RightP cy yn yd) := hr.1 rfl
    clear hr
    obtain ⟨Y0, Y1, Y2⟩ := Y.cells
    go_wp2_with fail
    clear Y0 Y1 Y2
    refine (isOne_any Y.rd).mono ?_
    rintro e w1 ⟨rfl, rfl⟩
    by_cases hone : yd = [1]
    · have HO : Hid (yd = [1]) := hone
      rw [decide_eq_true hone]
      clear hone
      by_cases hy0 : 0 < yn.length
      · have hyb : ((yn.length : Int) == 0) = false := by rw [beq_eq_false_iff_ne]; omega
        by_cases hxz : xn.length = 0 ∧ cy = true
        · obtain ⟨hx0, rfl⟩ := hxz
          have hxb : ((xn.length : Int) == 0) = true := by rw [hx0]; rfl
          have Hx : Hid (xn.length = 0) := hx0
          clear hx0
          obtain ⟨X0, X1, X2⟩ := X.cells
          obtain ⟨Y0, Y1, Y2⟩ := Y.cells
          have q0 := R.box.c0
          have q1 := R.box.c1
          have q2 := R.box.c2
          have p0 := R.box.f0
          have p1 := R.box.f1
          have p2 := R.box.f2
          go_wp2
          have hR3 := R.box.set (.bool false) (.slice none 0 0) (.slice none 0 0)
          have r0 := hR3.c0
          have r1 := hR3.c1
          have r2 := hR3.c2
          refine bodyPost_ret (v := .tuple #[.agg #[.bool false, .slice none 0 0, .slice none 0 0], .int .i64 3]) (by simp [results, Tryz.results47, go_sem, r0, r1, r2]) rfl ?_
          exact ⟨Below.set3 g s1 _ _ _, false, none, 0, 0, none, 0, 0, 3, rfl, Or.inr (Or.inl ⟨HP.out, Or.inr ⟨HO.out, hy0, Hx.out, rfl⟩, rfl, rfl, rfl, rfl, rfl, rfl, rfl, rfl⟩)⟩
        · have HXZ : Hid (¬ (xn.length = 0 ∧ cy = true)) := hxz
          have hcs : (cy = true ∧ ((xn.length : Int) == 0) = false) ∨ (cy = false ∧ ((xn.length : Int) == 0) = false) ∨ (cy = false ∧ ((xn.length : Int) == 0) = true) := by
            cases cy with
            | false =>
              cases hh : ((xn.length : Int) == 0) with
              | false => exact Or.inr (Or.inl ⟨rfl, rfl⟩)
              | true => exact Or.inr (Or.inr ⟨rfl, rfl⟩)
            | true => refine Or.inl ⟨rfl, ?_⟩; rw [beq_eq_false_iff_ne]; intro h; exact hxz ⟨rfl.mp (by omega), rfl⟩
          have HXZ2 : Hid (¬ (0 < yn.length ∧ xn.length = 0 ∧ cy = true)) := fun h => hxz h.2
          clear hxz
          have HYv : Hid (0 < val yn) := by
            have h5 := can_low HP.out.2.2.2.1 hy0
            have h6 := pw_pos (yn.length - 1)
            unfold Hid
            omega
          have l1 := HP.out.1.1
          have l2 := HP.out.1.2.1
          have l3 := HP.out.2.1
          obtain ⟨pb, po, rfl, hyc, hym⟩ := rd_head Y.rn hy0
          have ho := val_odd HP.out.2.2.2.1.1
          have hw1 := and_one_u32 (yn.getD 0 0) ho.2.1 ho.2.2
          have HOd : Hid ((yn.getD 0 0 % 2 == 1) = decide ((val yn).toNat % 2 = 1)) := by
            unfold Hid
            have h5 := HYv.out
            by_cases h6 : yn.getD 0 0 % 2 = 1
            · rw [beq_iff_eq.2 h6, decide_eq_true (by omega)]
            · rw [beq_eq_false_iff_ne.2 h6, decide_eq_false (by omega)]
          clear ho
          generalize hy00 : yn.getD 0 0 = y00 at *
          rcases hcs with ⟨rfl, hxb⟩ | ⟨rfl, hxb⟩ | ⟨rfl, hxb⟩
          · have HN : Hid (pnum true xn xd = val xd ∧ pden true xn xd = val xn ∧ 0 ≤ val xd ∧ 0 < val xn ∧ gI (val xd) (val xn) = 1) := by
              have hx0 : 0 < xn.length := by
                rw [beq_eq_false_iff_ne] at hxb
                omega
              have h5 := can_low HP.out.1.2.2.1 hx0
              have h6 := pw_pos (xn.length - 1)
              exact ⟨rfl, rfl, Int.le_of_lt (right_pos HP.out.1).1, by omega, by rw [gI_comm]; exact HP.out.1.2.2.2.2.2.2⟩
            obtain ⟨X0, X1, X2⟩ := X.cells
            obtain ⟨Y0, Y1, Y2⟩ := Y.cells
            go_wp2
            go_quiet (fail)
            go_wp2_with fail
            clear X0 X1 X2 Y0 Y1 Y2
            have kq := below_drewN' (Below.refl w0.heap.size w0) nq
            replace X := X.below kq
            replace Y := Y.below kq
            replace R := R.below kq
            replace g := g.trans (kq.mono g.size)
            generalize hA : w0.drewN nq = v1 at *
            clear hA kq
            have g1 := g
            have R1 := R
            refine (powerOf_any X.rd Y.rn (Nat.le_refl _) HP.out.1.2.2.2.1 (by omega) (by omega) HYv.out).mono ?_
            rintro e w2 ⟨k2, ⟨hbig, rfl⟩ | ⟨hfit, zs, z1, z2, cz, vz, rfl, oz⟩⟩
            · replace X := X.below k2
              replace Y := Y.below k2
              replace R := R.below k2
              replace g := g.trans (k2.mono g.size)
              have HB : Hid (pw 32 ≤ pnum true xn xd ^ (val yn).toNat) := by unfold Hid; rw [HN.out.1]; exact hbig
              clear hbig
              have q0 := R.box.c0
              have q1 := R.box.c1
              have q2 := R.box.c2
              have p0 := R.box.f0
              have p1 := R.box.f1
              have p2 := R.box.f2
              go_wp2
              have hR3 := R.box.set (.bool false) (.slice none 0 0) (.slice none 0 0)
              have r0 := hR3.c0
              have r1 := hR3.c1
              have r2 := hR3.c2
              refine bodyPost_ret (v := .tuple #[.agg #[.bool false, .slice none 0 0, .slice none 0 0], .int .i64 8]) (by simp [results, Tryz.results47, go_sem, r0, r1, r2]) rfl ?_
              exact ⟨Below.set3 g s1 _ _ _, false, none, 0, 0, none, 0, 0, 8, rfl, Or.inr (Or.inr (Or.inl ⟨HP.out, HO.out, hy0, (by first | exact HXZ.out | (have h5 := HXZ.out; simpa using h5)), rfl, rfl, rfl, rfl, rfl, rfl, rfl, rfl, Or.inl HB.out⟩))⟩
            · replace X := X.below k2
              replace Y := Y.below k2
              replace R := R.below k2
              replace g := g.trans (k2.mono g.size)
              have HZ : Hid (val zs = val xd ^ (val yn).toNat ∧ val xd ^ (val yn).toNat < pw 32) := ⟨vz, hfit⟩
              clear vz hfit
              obtain ⟨Y0, Y1, Y2⟩ := Y.cells
              go_wp2_with fail
              clear Y0 Y1 Y2
              refine (powerOf_any X.rn Y.rn (Nat.le_refl _) HP.out.1.2.2.1 (by omega) (by omega) HYv.out).mono ?_
              rintro e w3 ⟨k3, ⟨hbig, rfl⟩ | ⟨hfit, us, u1, u2, cu, vu, rfl, ou⟩⟩
              · replace X := X.below k3
                replace Y := Y.below k3
                replace R := R.below k3
                replace g := g.trans (k3.mono g.size)
                have HB : Hid (pw 32 ≤ pden true xn xd ^ (val yn).toNat) := by unfold Hid; rw [HN.out.2.1]; exact hbig
                clear hbig
                have q0 := R.box.c0
                have q1 := R.box.c1
                have q2 := R.box.c2
                have p0 := R.box.f0
                have p1 := R.box.f1
                have p2 := R.box.f2
                go_wp2
                have hR3 := R.box.set (.bool false) (.slice none 0 0) (.slice none 0 0)
                have r0 := hR3.c0
                have r1 := hR3.c1
                have r2 := hR3.c2
                refine bodyPost_ret (v := .tuple #[.agg #[.bool false, .slice none 0 0, .slice none 0 0], .int .i64 8]) (by simp [results, Tryz.results47, go_sem, r0, r1, r2]) rfl ?_
                exact ⟨Below.set3 g s1 _ _ _, false, none, 0, 0, none, 0, 0, 8, rfl, Or.inr (Or.inr (Or.inl ⟨HP.out, HO.out, hy0, (by first | exact HXZ.out | (have h5 := HXZ.out; simpa using h5)), rfl, rfl, rfl, rfl, rfl, rfl, rfl, rfl, Or.inr HB.out⟩))⟩
              · replace X := X.below k3
                replace Y := Y.below k3
                replace R := R.below k3
                replace g := g.trans (k3.mono g.size)
                have HU : Hid (val us = val xn ^ (val yn).toNat ∧ val xn ^ (val yn).toNat < pw 32) := ⟨vu, hfit⟩
                clear vu hfit
                have HR := fun b : Bool => pow_right (b := b) (A := val xd) (D := val xn) (N := (val yn).toNat) cz cu HZ.out.1 HU.out.1 HN.out.2.2.1 HN.out.2.2.2.1 HN.out.2.2.2.2 HZ.out.2 HU.out.2
                have lz := (HR true).2.1
                have lu := (HR true).2.2.1
                have HR2 : Hid (∀ b : Bool, RightP (b && decide (0 < zs.length)) zs us ∧ sg (b && decide (0 < zs.length)) (val zs) = sg b (val xd ^ (val yn).toNat)) := fun b => ⟨(HR b).1, (HR b).2.2.2⟩
                clear HR
                have t3 : Below v1.heap.size v1 w3 := k2.trans (k3.mono k2.size)
                have hc0 := rd_cell0 Y.rn hy0
                rw [hy00] at hc0
                have ozz := oz.below k3 (Nat.le_refl _)
                have ouu : Own v1.heap.size w3 (.slice u1 us.length u2) us := ou.mono k2.size
                by_cases hodd : y00 % 2 = 1
                · have hob : (y00 % 2 == 1) = true := by rw [beq_iff_eq]; exact hodd
                  have HOd2 : Hid (decide ((val yn).toNat % 2 = 1) = true) := by unfold Hid; rw [← HOd.out]; exact hob
                  cases bx with
                  | false =>
                    obtain ⟨X0, X1, X2⟩ := X.cells
                    obtain ⟨Y0, Y1, Y2⟩ := Y.cells
                    go_wp2_with fail
                    clear X0 X1 X2 Y0 Y1 Y2
                    refine (limited_ok false z1 u1 zs.length z2 us.length u2 _ lz lu).mono ?_
                    rintro e w4 ⟨rfl, k4⟩
                    have HR3 := HR2.out false
                    have HS : Hid (RightP (false && decide (0 < zs.length)) zs us ∧ sg (false && decide (0 < zs.length)) (val zs) = sg false (pnum true xn xd) ^ (val yn).toNat) := ⟨HR3.1, by rw [HR3.2, HN.out.1, sg_pow, HOd2.out]; rfl⟩
                    clear HR3
                    replace X := X.below k4
                    replace Y := Y.below k4
                    replace R := R.below k4
                    replace g := g.trans (k4.mono g.size)
                    have hbb : (false && decide (0 < zs.length)) = false := by rfl
                    rw [hbb] at HS
                    clear hbb
                    have q0 := R.box.c0
                    have q1 := R.box.c1
                    have q2 := R.box.c2
                    have p0 := R.box.f0
                    have p1 := R.box.f1
                    have p2 := R.box.f2
                    go_wp2
                    have hR3 := R.box.set (.bool false) (.slice z1 zs.length z2) (.slice u1 us.length u2)
                    have r0 := hR3.c0
                    have r1 := hR3.c1
                    have r2 := hR3.c2
                    refine bodyPost_ret (v := .tuple #[.agg #[.bool false, .slice z1 zs.length z2, .slice u1 us.length u2], .int .i64 0]) (by simp [results, Tryz.results47, go_sem, r0, r1, r2]) rfl ?_
                    exact ⟨Below.set3 g s1 _ _ _, false, z1, zs.length, z2, u1, us.length, u2, 0, rfl, Or.inr (Or.inr (Or.inr ⟨HP.out, HO.out, (by first | exact HXZ2.out | (have h5 := HXZ2.out; simpa using h5)), rfl, by rw [HN.out.1]; exact HZ.out.2, by rw [HN.out.2.1]; exact HU.out.2, zs, us, rfl, rfl, (Own.set3 (ozz.below k4 (Nat.le_refl _)) R1.lt _ _ _).mono g1.size, (Own.set3 (ouu.below k4 (Nat.le_refl _)) R1.lt _ _ _).mono g1.size, HS.out.1, HS.out.2, by rw [HN.out.2.1]; exact HU.out.1⟩))⟩
                  | true =>
                    obtain ⟨X0, X1, X2⟩ := X.cells
                    obtain ⟨Y0, Y1, Y2⟩ := Y.cells
                    go_wp2_with fail
                    clear X0 X1 X2 Y0 Y1 Y2
                    refine (limited_ok true z1 u1 zs.length z2 us.length u2 _ lz lu).mono ?_
                    rintro e w4 ⟨rfl, k4⟩
                    have HR3 := HR2.out true
                    have HS : Hid (RightP (true && decide (0 < zs.length)) zs us ∧ sg (true && decide (0 < zs.length)) (val zs) = sg true (pnum true xn xd) ^ (val yn).toNat) := ⟨HR3.1, by rw [HR3.2, HN.out.1, sg_pow, HOd2.out]; rfl⟩
                    clear HR3
                    replace X := X.below k4
                    replace Y := Y.below k4
                    replace R := R.below k4
                    replace g := g.trans (k4.mono g.size)
                    have hbb : (true && decide (0 < zs.length)) = decide (0 < zs.length) := by rw [Bool.true_and]
                    rw [hbb] at HS
                    clear hbb
                    generalize decide (0 < zs.length) = bz at *
                    have q0 := R.box.c0
                    have q1 := R.box.c1
                    have q2 := R.box.c2
                    have p0 := R.box.f0
                    have p1 := R.box.f1
                    have p2 := R.box.f2
                    go_wp2
                    have hR3 := R.box.set (.bool bz) (.slice z1 zs.length z2) (.slice u1 us.length u2)
                    have r0 := hR3.c0
                    have r1 := hR3.c1
                    have r2 := hR3.c2
                    refine bodyPost_ret (v := .tuple #[.agg #[.bool bz, .slice z1 zs.length z2, .slice u1 us.length u2], .int .i64 0]) (by simp [results, Tryz.results47, go_sem, r0, r1, r2]) rfl ?_
                    exact ⟨Below.set3 g s1 _ _ _, bz, z1, zs.length, z2, u1, us.length, u2, 0, rfl, Or.inr (Or.inr (Or.inr ⟨HP.out, HO.out, (by first | exact HXZ2.out | (have h5 := HXZ2.out; simpa using h5)), rfl, by rw [HN.out.1]; exact HZ.out.2, by rw [HN.out.2.1]; exact HU.out.2, zs, us, rfl, rfl, (Own.set3 (ozz.below k4 (Nat.le_refl _)) R1.lt _ _ _).mono g1.size, (Own.set3 (ouu.below k4 (Nat.le_refl _)) R1.lt _ _ _).mono g1.size, HS.out.1, HS.out.2, by rw [HN.out.2.1]; exact HU.out.1⟩))⟩
                · have hob : (y00 % 2 == 1) = false := by rw [beq_eq_false_iff_ne]; exact hodd
                  have HOd2 : Hid (decide ((val yn).toNat % 2 = 1) = false) := by unfold Hid; rw [← HOd.out]; exact hob
                  cases bx with
                  | false =>
                    obtain ⟨X0, X1, X2⟩ := X.cells
                    obtain ⟨Y0, Y1, Y2⟩ := Y.cells
                    go_wp2_with fail
                    clear X0 X1 X2 Y0 Y1 Y2
                    refine (limited_ok false z1 u1 zs.length z2 us.length u2 _ lz lu).mono ?_
                    rintro e w4 ⟨rfl, k4⟩
                    have HR3 := HR2.out false
                    have HS : Hid (RightP (false && decide (0 < zs.length)) zs us ∧ sg (false && decide (0 < zs.length)) (val zs) = sg false (pnum true xn xd) ^ (val yn).toNat) := ⟨HR3.1, by rw [HR3.2, HN.out.1, sg_pow, HOd2.out]; rfl⟩
                    clear HR3
                    replace X := X.below k4
                    replace Y := Y.below k4
                    replace R := R.below k4
                    replace g := g.trans (k4.mono g.size)
                    have hbb : (false && decide (0 < zs.length)) = false := by rfl
                    rw [hbb] at HS
                    clear hbb
                    have q0 := R.box.c0
                    have q1 := R.box.c1
                    have q2 := R.box.c2
                    have p0 := R.box.f0
                    have p1 := R.box.f1
                    have p2 := R.box.f2
                    go_wp2
                    have hR3 := R.box.set (.bool false) (.slice z1 zs.length z2) (.slice u1 us.length u2)
                    have r0 := hR3.c0
                    have r1 := hR3.c1
                    have r2 := hR3.c2
                    refine bodyPost_ret (v := .tuple #[.agg #[.bool false, .slice z1 zs.length z2, .slice u1 us.length u2], .int .i64 0]) (by simp [results, Tryz.results47, go_sem, r0, r1, r2]) rfl ?_
                    exact ⟨Below.set3 g s1 _ _ _, false, z1, zs.length, z2, u1, us.length, u2, 0, rfl, Or.inr (Or.inr (Or.inr ⟨HP.out, HO.out, (by first | exact HXZ2.out | (have h5 := HXZ2.out; simpa using h5)), rfl, by rw [HN.out.1]; exact HZ.out.2, by rw [HN.out.2.1]; exact HU.out.2, zs, us, rfl, rfl, (Own.set3 (ozz.below k4 (Nat.le_refl _)) R1.lt _ _ _).mono g1.size, (Own.set3 (ouu.below k4 (Nat.le_refl _)) R1.lt _ _ _).mono g1.size, HS.out.1, HS.out.2, by rw [HN.out.2.1]; exact HU.out.1⟩))⟩
                  | true =>
                    obtain ⟨X0, X1, X2⟩ := X.cells
                    obtain ⟨Y0, Y1, Y2⟩ := Y.cells
                    go_wp2_with fail
                    clear X0 X1 X2 Y0 Y1 Y2
                    refine (limited_ok false z1 u1 zs.length z2 us.length u2 _ lz lu).mono ?_
                    rintro e w4 ⟨rfl, k4⟩
                    have HR3 := HR2.out false
                    have HS : Hid (RightP (false && decide (0 < zs.length)) zs us ∧ sg (false && decide (0 < zs.length)) (val zs) = sg true (pnum true xn xd) ^ (val yn).toNat) := ⟨HR3.1, by rw [HR3.2, HN.out.1, sg_pow, HOd2.out]; rfl⟩
                    clear HR3
                    replace X := X.below k4
                    replace Y := Y.below k4
                    replace R := R.below k4
                    replace g := g.trans (k4.mono g.size)
                    have hbb : (false && decide (0 < zs.length)) = false := by rfl
                    rw [hbb] at HS
                    clear hbb
                    have q0 := R.box.c0
                    have q1 := R.box.c1
                    have q2 := R.box.c2
                    have p0 := R.box.f0
                    have p1 := R.box.f1
                    have p2 := R.box.f2
                    go_wp2
                    have hR3 := R.box.set (.bool false) (.slice z1 zs.length z2) (.slice u1 us.length u2)
                    have r0 := hR3.c0
                    have r1 := hR3.c1
                    have r2 := hR3.c2
                    refine bodyPost_ret (v := .tuple #[.agg #[.bool false, .slice z1 zs.length z2, .slice u1 us.length u2], .int .i64 0]) (by simp [results, Tryz.results47, go_sem, r0, r1, r2]) rfl ?_
                    exact ⟨Below.set3 g s1 _ _ _, false, z1, zs.length, z2, u1, us.length, u2, 0, rfl, Or.inr (Or.inr (Or.inr ⟨HP.out, HO.out, (by first | exact HXZ2.out | (have h5 := HXZ2.out; simpa using h5)), rfl, by rw [HN.out.1]; exact HZ.out.2, by rw [HN.out.2.1]; exact HU.out.2, zs, us, rfl, rfl, (Own.set3 (ozz.below k4 (Nat.le_refl _)) R1.lt _ _ _).mono g1.size, (Own.set3 (ouu.below k4 (Nat.le_refl _)) R1.lt _ _ _).mono g1.size, HS.out.1, HS.out.2, by rw [HN.out.2.1]; exact HU.out.1⟩))⟩
          · have HN : Hid (pnum false xn xd = val xn ∧ pden false xn xd = val xd ∧ 0 ≤ val xn ∧ 0 < val xd ∧ gI (val xn) (val xd) = 1) := by
              exact ⟨rfl, rfl, (right_pos HP.out.1).2, (right_pos HP.out.1).1, HP.out.1.2.2.2.2.2.2⟩
            obtain ⟨X0, X1, X2⟩ := X.cells
            obtain ⟨Y0, Y1, Y2⟩ := Y.cells
            go_wp2
            go_quiet (fail)
            go_wp2_with fail
            clear X0 X1 X2 Y0 Y1 Y2
            have kq := below_drewN' (Below.refl w0.heap.size w0) nq
            replace X := X.below kq
            replace Y := Y.below kq
            replace R := R.below kq
            replace g := g.trans (kq.mono g.size)
            generalize hA : w0.drewN nq = v1 at *
            clear hA kq
            have g1 := g
            have R1 := R
            refine (powerOf_any X.rn Y.rn (Nat.le_refl _) HP.out.1.2.2.1 (by omega) (by omega) HYv.out).mono ?_
            rintro e w2 ⟨k2, ⟨hbig, rfl⟩ | ⟨hfit, zs, z1, z2, cz, vz, rfl, oz⟩⟩
            · replace X := X.below k2
              replace Y := Y.below k2
              replace R := R.below k2
              replace g := g.trans (k2.mono g.size)
              have HB : Hid (pw 32 ≤ pnum false xn xd ^ (val yn).toNat) := by unfold Hid; rw [HN.out.1]; exact hbig
              clear hbig
              have q0 := R.box.c0
              have q1 := R.box.c1
              have q2 := R.box.c2
              have p0 := R.box.f0
              have p1 := R.box.f1
              have p2 := R.box.f2
              go_wp2
              have hR3 := R.box.set (.bool false) (.slice none 0 0) (.slice none 0 0)
              have r0 := hR3.c0
              have r1 := hR3.c1
              have r2 := hR3.c2
              refine bodyPost_ret (v := .tuple #[.agg #[.bool false, .slice none 0 0, .slice none 0 0], .int .i64 8]) (by simp [results, Tryz.results47, go_sem, r0, r1, r2]) rfl ?_
              exact ⟨Below.set3 g s1 _ _ _, false, none, 0, 0, none, 0, 0, 8, rfl, Or.inr (Or.inr (Or.inl ⟨HP.out, HO.out, hy0, (by first | exact HXZ.out | (have h5 := HXZ.out; simpa using h5)), rfl, rfl, rfl, rfl, rfl, rfl, rfl, rfl, Or.inl HB.out⟩))⟩
            · replace X := X.below k2
              replace Y := Y.below k2
              replace R := R.below k2
              replace g := g.trans (k2.mono g.size)
              have HZ : Hid (val zs = val xn ^ (val yn).toNat ∧ val xn ^ (val yn).toNat < pw 32) := ⟨vz, hfit⟩
              clear vz hfit
              obtain ⟨Y0, Y1, Y2⟩ := Y.cells
              go_wp2_with fail
              clear Y0 Y1 Y2
              refine (powerOf_any X.rd Y.rn (Nat.le_refl _) HP.out.1.2.2.2.1 (by omega) (by omega) HYv.out).mono ?_
              rintro e w3 ⟨k3, ⟨hbig, rfl⟩ | ⟨hfit, us, u1, u2, cu, vu, rfl, ou⟩⟩
              · replace X := X.below k3
                replace Y := Y.below k3
                replace R := R.below k3
                replace g := g.trans (k3.mono g.size)
                have HB : Hid (pw 32 ≤ pden false xn xd ^ (val yn).toNat) := by unfold Hid; rw [HN.out.2.1]; exact hbig
                clear hbig
                have q0 := R.box.c0
                have q1 := R.box.c1
                have q2 := R.box.c2
                have p0 := R.box.f0
                have p1 := R.box.f1
                have p2 := R.box.f2
                go_wp2
                have hR3 := R.box.set (.bool false) (.slice none 0 0) (.slice none 0 0)
                have r0 := hR3.c0
                have r1 := hR3.c1
                have r2 := hR3.c2
                refine bodyPost_ret (v := .tuple #[.agg #[.bool false, .slice none 0 0, .slice none 0 0], .int .i64 8]) (by simp [results, Tryz.results47, go_sem, r0, r1, r2]) rfl ?_
                exact ⟨Below.set3 g s1 _ _ _, false, none, 0, 0, none, 0, 0, 8, rfl, Or.inr (Or.inr (Or.inl ⟨HP.out, HO.out, hy0, (by first | exact HXZ.out | (have h5 := HXZ.out; simpa using h5)), rfl, rfl, rfl, rfl, rfl, rfl, rfl, rfl, Or.inr HB.out⟩))⟩
              · replace X := X.below k3
                replace Y := Y.below k3
                replace R := R.below k3
                replace g := g.trans (k3.mono g.size)
                have HU : Hid (val us = val xd ^ (val yn).toNat ∧ val xd ^ (val yn).toNat < pw 32) := ⟨vu, hfit⟩
                clear vu hfit
                have HR := fun b : Bool => pow_right (b := b) (A := val xn) (D := val xd) (N := (val yn).toNat) cz cu HZ.out.1 HU.out.1 HN.out.2.2.1 HN.out.2.2.2.1 HN.out.2.2.2.2 HZ.out.2 HU.out.2
                have lz := (HR true).2.1
                have lu := (HR true).2.2.1
                have HR2 : Hid (∀ b : Bool, RightP (b && decide (0 < zs.length)) zs us ∧ sg (b && decide (0 < zs.length)) (val zs) = sg b (val xn ^ (val yn).toNat)) := fun b => ⟨(HR b).1, (HR b).2.2.2⟩
                clear HR
                have t3 : Below v1.heap.size v1 w3 := k2.trans (k3.mono k2.size)
                have hc0 := rd_cell0 Y.rn hy0
                rw [hy00] at hc0
                have ozz := oz.below k3 (Nat.le_refl _)
                have ouu : Own v1.heap.size w3 (.slice u1 us.length u2) us := ou.mono k2.size
                by_cases hodd : y00 % 2 = 1
                · have hob : (y00 % 2 == 1) = true := by rw [beq_iff_eq]; exact hodd
                  have HOd2 : Hid (decide ((val yn).toNat % 2 = 1) = true) := by unfold Hid; rw [← HOd.out]; exact hob
                  cases bx with
                  | false =>
                    obtain ⟨X0, X1, X2⟩ := X.cells
                    obtain ⟨Y0, Y1, Y2⟩ := Y.cells
                    go_wp2_with fail
                    clear X0 X1 X2 Y0 Y1 Y2
                    refine (limited_ok false z1 u1 zs.length z2 us.length u2 _ lz lu).mono ?_
                    rintro e w4 ⟨rfl, k4⟩
                    have HR3 := HR2.out false
                    have HS : Hid (RightP (false && decide (0 < zs.length)) zs us ∧ sg (false && decide (0 < zs.length)) (val zs) = sg false (pnum false xn xd) ^ (val yn).toNat) := ⟨HR3.1, by rw [HR3.2, HN.out.1, sg_pow, HOd2.out]; rfl⟩
                    clear HR3
                    replace X := X.below k4
                    replace Y := Y.below k4
                    replace R := R.below k4
                    replace g := g.trans (k4.mono g.size)
                    have hbb : (false && decide (0 < zs.length)) = false := by rfl
                    rw [hbb] at HS
                    clear hbb
                    have q0 := R.box.c0
                    have q1 := R.box.c1
                    have q2 := R.box.c2
                    have p0 := R.box.f0
                    have p1 := R.box.f1
                    have p2 := R.box.f2
                    go_wp2
                    have hR3 := R.box.set (.bool false) (.slice z1 zs.length z2) (.slice u1 us.length u2)
                    have r0 := hR3.c0
                    have r1 := hR3.c1
                    have r2 := hR3.c2
                    refine bodyPost_ret (v := .tuple #[.agg #[.bool false, .slice z1 zs.length z2, .slice u1 us.length u2], .int .i64 0]) (by simp [results, Tryz.results47, go_sem, r0, r1, r2]) rfl ?_
                    exact ⟨Below.set3 g s1 _ _ _, false, z1, zs.length, z2, u1, us.length, u2, 0, rfl, Or.inr (Or.inr (Or.inr ⟨HP.out, HO.out, (by first | exact HXZ2.out | (have h5 := HXZ2.out; simpa using h5)), rfl, by rw [HN.out.1]; exact HZ.out.2, by rw [HN.out.2.1]; exact HU.out.2, zs, us, rfl, rfl, (Own.set3 (ozz.below k4 (Nat.le_refl _)) R1.lt _ _ _).mono g1.size, (Own.set3 (ouu.below k4 (Nat.le_refl _)) R1.lt _ _ _).mono g1.size, HS.out.1, HS.out.2, by rw [HN.out.2.1]; exact HU.out.1⟩))⟩
                  | true =>
                    obtain ⟨X0, X1, X2⟩ := X.cells
                    obtain ⟨Y0, Y1, Y2⟩ := Y.cells
                    go_wp2_with fail
                    clear X0 X1 X2 Y0 Y1 Y2
                    refine (limited_ok true z1 u1 zs.length z2 us.length u2 _ lz lu).mono ?_
                    rintro e w4 ⟨rfl, k4⟩
                    have HR3 := HR2.out true
                    have HS : Hid (RightP (true && decide (0 < zs.length)) zs us ∧ sg (true && decide (0 < zs.length)) (val zs) = sg true (pnum false xn xd) ^ (val yn).toNat) := ⟨HR3.1, by rw [HR3.2, HN.out.1, sg_pow, HOd2.out]; rfl⟩
                    clear HR3
                    replace X := X.below k4
                    replace Y := Y.below k4
                    replace R := R.below k4
                    replace g := g.trans (k4.mono g.size)
                    have hbb : (true && decide (0 < zs.length)) = decide (0 < zs.length) := by rw [Bool.true_and]
                    rw [hbb] at HS
                    clear hbb
                    generalize decide (0 < zs.length) = bz at *
                    have q0 := R.box.c0
                    have q1 := R.box.c1
                    have q2 := R.box.c2
                    have p0 := R.box.f0
                    have p1 := R.box.f1
                    have p2 := R.box.f2
                    go_wp2
                    have hR3 := R.box.set (.bool bz) (.slice z1 zs.length z2) (.slice u1 us.length u2)
                    have r0 := hR3.c0
                    have r1 := hR3.c1
                    have r2 := hR3.c2
                    refine bodyPost_ret (v := .tuple #[.agg #[.bool bz, .slice z1 zs.length z2, .slice u1 us.length u2], .int .i64 0]) (by simp [results, Tryz.results47, go_sem, r0, r1, r2]) rfl ?_
                    exact ⟨Below.set3 g s1 _ _ _, bz, z1, zs.length, z2, u1, us.length, u2, 0, rfl, Or.inr (Or.inr (Or.inr ⟨HP.out, HO.out, (by first | exact HXZ2.out | (have h5 := HXZ2.out; simpa using h5)), rfl, by rw [HN.out.1]; exact HZ.out.2, by rw [HN.out.2.1]; exact HU.out.2, zs, us, rfl, rfl, (Own.set3 (ozz.below k4 (Nat.le_refl _)) R1.lt _ _ _).mono g1.size, (Own.set3 (ouu.below k4 (Nat.le_refl _)) R1.lt _ _ _).mono g1.size, HS.out.1, HS.out.2, by rw [HN.out.2.1]; exact HU.out.1⟩))⟩
                · have hob : (y00 % 2 == 1) = false := by rw [beq_eq_false_iff_ne]; exact hodd
                  have HOd2 : Hid (decide ((val yn).toNat % 2 = 1) = false) := by unfold Hid; rw [← HOd.out]; exact hob
                  cases bx with
                  | false =>
                    obtain ⟨X0, X1, X2⟩ := X.cells
                    obtain ⟨Y0, Y1, Y2⟩ := Y.cells
                    go_wp2_with fail
                    clear X0 X1 X2 Y0 Y1 Y2
                    refine (limited_ok false z1 u1 zs.length z2 us.length u2 _ lz lu).mono ?_
                    rintro e w4 ⟨rfl, k4⟩
                    have HR3 := HR2.out false
                    have HS : Hid (RightP (false && decide (0 < zs.length)) zs us ∧ sg (false && decide (0 < zs.length)) (val zs) = sg false (pnum false xn xd) ^ (val yn).toNat) := ⟨HR3.1, by rw [HR3.2, HN.out.1, sg_pow, HOd2.out]; rfl⟩
                    clear HR3
                    replace X := X.below k4
                    replace Y := Y.below k4
                    replace R := R.below k4
                    replace g := g.trans (k4.mono g.size)
                    have hbb : (false && decide (0 < zs.length)) = false := by rfl
                    rw [hbb] at HS
                    clear hbb
                    have q0 := R.box.c0
                    have q1 := R.box.c1
                    have q2 := R.box.c2
                    have p0 := R.box.f0
                    have p1 := R.box.f1
                    have p2 := R.box.f2
                    go_wp2
                    have hR3 := R.box.set (.bool false) (.slice z1 zs.length z2) (.slice u1 us.length u2)
                    have r0 := hR3.c0
                    have r1 := hR3.c1
                    have r2 := hR3.c2
                    refine bodyPost_ret (v := .tuple #[.agg #[.bool false, .slice z1 zs.length z2, .slice u1 us.length u2], .int .i64 0]) (by simp [results, Tryz.results47, go_sem, r0, r1, r2]) rfl ?_
                    exact ⟨Below.set3 g s1 _ _ _, false, z1, zs.length, z2, u1, us.length, u2, 0, rfl, Or.inr (Or.inr (Or.inr ⟨HP.out, HO.out, (by first | exact HXZ2.out | (have h5 := HXZ2.out; simpa using h5)), rfl, by rw [HN.out.1]; exact HZ.out.2, by rw [HN.out.2.1]; exact HU.out.2, zs, us, rfl, rfl, (Own.set3 (ozz.below k4 (Nat.le_refl _)) R1.lt _ _ _).mono g1.size, (Own.set3 (ouu.below k4 (Nat.le_refl _)) R1.lt _ _ _).mono g1.size, HS.out.1, HS.out.2, by rw [HN.out.2.1]; exact HU.out.1⟩))⟩
                  | true =>
                    obtain ⟨X0, X1, X2⟩ := X.cells
                    obtain ⟨Y0, Y1, Y2⟩ := Y.cells
                    go_wp2_with fail
                    clear X0 X1 X2 Y0 Y1 Y2
                    refine (limited_ok false z1 u1 zs.length z2 us.length u2 _ lz lu).mono ?_
                    rintro e w4 ⟨rfl, k4⟩
                    have HR3 := HR2.out false
                    have HS : Hid (RightP (false && decide (0 < zs.length)) zs us ∧ sg (false && decide (0 < zs.length)) (val zs) = sg true (pnum false xn xd) ^ (val yn).toNat) := ⟨HR3.1, by rw [HR3.2, HN.out.1, sg_pow, HOd2.out]; rfl⟩
                    clear HR3
                    replace X := X.below k4
                    replace Y := Y.below k4
                    replace R := R.below k4
                    replace g := g.trans (k4.mono g.size)
                    have hbb : (false && decide (0 < zs.length)) = false := by rfl
                    rw [hbb] at HS
                    clear hbb
                    have q0 := R.box.c0
                    have q1 := R.box.c1
                    have q2 := R.box.c2
                    have p0 := R.box.f0
                    have p1 := R.box.f1
                    have p2 := R.box.f2
                    go_wp2
                    have hR3 := R.box.set (.bool false) (.slice z1 zs.length z2) (.slice u1 us.length u2)
                    have r0 := hR3.c0
                    have r1 := hR3.c1
                    have r2 := hR3.c2
                    refine bodyPost_ret (v := .tuple #[.agg #[.bool false, .slice z1 zs.length z2, .slice u1 us.length u2], .int .i64 0]) (by simp [results, Tryz.results47, go_sem, r0, r1, r2]) rfl ?_
                    exact ⟨Below.set3 g s1 _ _ _, false, z1, zs.length, z2, u1, us.length, u2, 0, rfl, Or.inr (Or.inr (Or.inr ⟨HP.out, HO.out, (by first | exact HXZ2.out | (have h5 := HXZ2.out; simpa using h5)), rfl, by rw [HN.out.1]; exact HZ.out.2, by rw [HN.out.2.1]; exact HU.out.2, zs, us, rfl, rfl, (Own.set3 (ozz.below k4 (Nat.le_refl _)) R1.lt _ _ _).mono g1.size, (Own.set3 (ouu.below k4 (Nat.le_refl _)) R1.lt _ _ _).mono g1.size, HS.out.1, HS.out.2, by rw [HN.out.2.1]; exact HU.out.1⟩))⟩
          · have HN : Hid (pnum false xn xd = val xn ∧ pden false xn xd = val xd ∧ 0 ≤ val xn ∧ 0 < val xd ∧ gI (val xn) (val xd) = 1) := by
              exact ⟨rfl, rfl, (right_pos HP.out.1).2, (right_pos HP.out.1).1, HP.out.1.2.2.2.2.2.2⟩
            obtain ⟨X0, X1, X2⟩ := X.cells
            obtain ⟨Y0, Y1, Y2⟩ := Y.cells
            go_wp2
            go_quiet (fail)
            go_wp2_with fail
            clear X0 X1 X2 Y0 Y1 Y2
            have kq := below_drewN' (Below.refl w0.heap.size w0) nq
            replace X := X.below kq
            replace Y := Y.below kq
            replace R := R.below kq
            replace g := g.trans (kq.mono g.size)
            generalize hA : w0.drewN nq = v1 at *
            clear hA kq
            have g1 := g
            have R1 := R
            refine (powerOf_any X.rn Y.rn (Nat.le_refl _) HP.out.1.2.2.1 (by omega) (by omega) HYv.out).mono ?_
            rintro e w2 ⟨k2, ⟨hbig, rfl⟩ | ⟨hfit, zs, z1, z2, cz, vz, rfl, oz⟩⟩
            · replace X := X.below k2
              replace Y := Y.below k2
              replace R := R.below k2
              replace g := g.trans (k2.mono g.size)
              have HB : Hid (pw 32 ≤ pnum false xn xd ^ (val yn).toNat) := by unfold Hid; rw [HN.out.1]; exact hbig
              clear hbig
              have q0 := R.box.c0
              have q1 := R.box.c1
              have q2 := R.box.c2
              have p0 := R.box.f0
              have p1 := R.box.f1
              have p2 := R.box.f2
              go_wp2
              have hR3 := R.box.set (.bool false) (.slice none 0 0) (.slice none 0 0)
              have r0 := hR3.c0
              have r1 := hR3.c1
              have r2 := hR3.c2
              refine bodyPost_ret (v := .tuple #[.agg #[.bool false, .slice none 0 0, .slice none 0 0], .int .i64 8]) (by simp [results, Tryz.results47, go_sem, r0, r1, r2]) rfl ?_
              exact ⟨Below.set3 g s1 _ _ _, false, none, 0, 0, none, 0, 0, 8, rfl, Or.inr (Or.inr (Or.inl ⟨HP.out, HO.out, hy0, (by first | exact HXZ.out | (have h5 := HXZ.out; simpa using h5)), rfl, rfl, rfl, rfl, rfl, rfl, rfl, rfl, Or.inl HB.out⟩))⟩
            · replace X := X.below k2
              replace Y := Y.below k2
              replace R := R.below k2
              replace g := g.trans (k2.mono g.size)
              have HZ : Hid (val zs = val xn ^ (val yn).toNat ∧ val xn ^ (val yn).toNat < pw 32) := ⟨vz, hfit⟩
              clear vz hfit
              obtain ⟨Y0, Y1, Y2⟩ := Y.cells
              go_wp2_with fail
              clear Y0 Y1 Y2
              refine (powerOf_any X.rd Y.rn (Nat.le_refl _) HP.out.1.2.2.2.1 (by omega) (by omega) HYv.out).mono ?_
              rintro e w3 ⟨k3, ⟨hbig, rfl⟩ | ⟨hfit, us, u1, u2, cu, vu, rfl, ou⟩⟩
              · replace X := X.below k3
                replace Y := Y.below k3
                replace R := R.below k3
                replace g := g.trans (k3.mono g.size)
                have HB : Hid (pw 32 ≤ pden false xn xd ^ (val yn).toNat) := by unfold Hid; rw [HN.out.2.1]; exact hbig
                clear hbig
                have q0 := R.box.c0
                have q1 := R.box.c1
                have q2 := R.box.c2
                have p0 := R.box.f0
                have p1 := R.box.f1
                have p2 := R.box.f2
                go_wp2
                have hR3 := R.box.set (.bool false) (.slice none 0 0) (.slice none 0 0)
                have r0 := hR3.c0
                have r1 := hR3.c1
                have r2 := hR3.c2
                refine bodyPost_ret (v := .tuple #[.agg #[.bool false, .slice none 0 0, .slice none 0 0], .int .i64 8]) (by simp [results, Tryz.results47, go_sem, r0, r1, r2]) rfl ?_
                exact ⟨Below.set3 g s1 _ _ _, false, none, 0, 0, none, 0, 0, 8, rfl, Or.inr (Or.inr (Or.inl ⟨HP.out, HO.out, hy0, (by first | exact HXZ.out | (have h5 := HXZ.out; simpa using h5)), rfl, rfl, rfl, rfl, rfl, rfl, rfl, rfl, Or.inr HB.out⟩))⟩
              · replace X := X.below k3
                replace Y := Y.below k3
                replace R := R.below k3
                replace g := g.trans (k3.mono g.size)
                have HU : Hid (val us = val xd ^ (val yn).toNat ∧ val xd ^ (val yn).toNat < pw 32) := ⟨vu, hfit⟩
                clear vu hfit
                have HR := fun b : Bool => pow_right (b := b) (A := val xn) (D := val xd) (N := (val yn).toNat) cz cu HZ.out.1 HU.out.1 HN.out.2.2.1 HN.out.2.2.2.1 HN.out.2.2.2.2 HZ.out.2 HU.out.2
                have lz := (HR true).2.1
                have lu := (HR true).2.2.1
                have HR2 : Hid (∀ b : Bool, RightP (b && decide (0 < zs.length)) zs us ∧ sg (b && decide (0 < zs.length)) (val zs) = sg b (val xn ^ (val yn).toNat)) := fun b => ⟨(HR b).1, (HR b).2.2.2⟩
                clear HR
                have t3 : Below v1.heap.size v1 w3 := k2.trans (k3.mono k2.size)
                have hc0 := rd_cell0 Y.rn hy0
                rw [hy00] at hc0
                have ozz := oz.below k3 (Nat.le_refl _)
                have ouu : Own v1.heap.size w3 (.slice u1 us.length u2) us := ou.mono k2.size
                by_cases hodd : y00 % 2 = 1
                · have hob : (y00 % 2 == 1) = true := by rw [beq_iff_eq]; exact hodd
                  have HOd2 : Hid (decide ((val yn).toNat % 2 = 1) = true) := by unfold Hid; rw [← HOd.out]; exact hob
                  cases bx with
                  | false =>
                    obtain ⟨X0, X1, X2⟩ := X.cells
                    obtain ⟨Y0, Y1, Y2⟩ := Y.cells
                    go_wp2_with fail
                    clear X0 X1 X2 Y0 Y1 Y2
                    refine (limited_ok false z1 u1 zs.length z2 us.length u2 _ lz lu).mono ?_
                    rintro e w4 ⟨rfl, k4⟩
                    have HR3 := HR2.out false
                    have HS : Hid (RightP (false && decide (0 < zs.length)) zs us ∧ sg (false && decide (0 < zs.length)) (val zs) = sg false (pnum false xn xd) ^ (val yn).toNat) := ⟨HR3.1, by rw [HR3.2, HN.out.1, sg_pow, HOd2.out]; rfl⟩
                    clear HR3
                    replace X := X.below k4
                    replace Y := Y.below k4
                    replace R := R.below k4
                    replace g := g.trans (k4.mono g.size)
                    have hbb : (false && decide (0 < zs.length)) = false := by rfl
                    rw [hbb] at HS
                    clear hbb
                    have q0 := R.box.c0
                    have q1 := R.box.c1
                    have q2 := R.box.c2
                    have p0 := R.box.f0
                    have p1 := R.box.f1
                    have p2 := R.box.f2
                    go_wp2
                    have hR3 := R.box.set (.bool false) (.slice z1 zs.length z2) (.slice u1 us.length u2)
                    have r0 := hR3.c0
                    have r1 := hR3.c1
                    have r2 := hR3.c2
                    refine bodyPost_ret (v := .tuple #[.agg #[.bool false, .slice z1 zs.length z2, .slice u1 us.length u2], .int .i64 0]) (by simp [results, Tryz.results47, go_sem, r0, r1, r2]) rfl ?_
                    exact ⟨Below.set3 g s1 _ _ _, false, z1, zs.length, z2, u1, us.length, u2, 0, rfl, Or.inr (Or.inr (Or.inr ⟨HP.out, HO.out, (by first | exact HXZ2.out | (have h5 := HXZ2.out; simpa using h5)), rfl, by rw [HN.out.1]; exact HZ.out.2, by rw [HN.out.2.1]; exact HU.out.2, zs, us, rfl, rfl, (Own.set3 (ozz.below k4 (Nat.le_refl _)) R1.lt _ _ _).mono g1.size, (Own.set3 (ouu.below k4 (Nat.le_refl _)) R1.lt _ _ _).mono g1.size, HS.out.1, HS.out.2, by rw [HN.out.2.1]; exact HU.out.1⟩))⟩
                  | true =>
                    obtain ⟨X0, X1, X2⟩ := X.cells
                    obtain ⟨Y0, Y1, Y2⟩ := Y.cells
                    go_wp2_with fail
                    clear X0 X1 X2 Y0 Y1 Y2
                    refine (limited_ok true z1 u1 zs.length z2 us.length u2 _ lz lu).mono ?_
                    rintro e w4 ⟨rfl, k4⟩
                    have HR3 := HR2.out true
                    have HS : Hid (RightP (true && decide (0 < zs.length)) zs us ∧ sg (true && decide (0 < zs.length)) (val zs) = sg true (pnum false xn xd) ^ (val yn).toNat) := ⟨HR3.1, by rw [HR3.2, HN.out.1, sg_pow, HOd2.out]; rfl⟩
                    clear HR3
                    replace X := X.below k4
                    replace Y := Y.below k4
                    replace R := R.below k4
                    replace g := g.trans (k4.mono g.size)
                    have hbb : (true && decide (0 < zs.length)) = decide (0 < zs.length) := by rw [Bool.true_and]
                    rw [hbb] at HS
                    clear hbb
                    generalize decide (0 < zs.length) = bz at *
                    have q0 := R.box.c0
                    have q1 := R.box.c1
                    have q2 := R.box.c2
                    have p0 := R.box.f0
                    have p1 := R.box.f1
                    have p2 := R.box.f2
                    go_wp2
                    have hR3 := R.box.set (.bool bz) (.slice z1 zs.length z2) (.slice u1 us.length u2)
                    have r0 := hR3.c0
                    have r1 := hR3.c1
                    have r2 := hR3.c2
                    refine bodyPost_ret (v := .tuple #[.agg #[.bool bz, .slice z1 zs.length z2, .slice u1 us.length u2], .int .i64 0]) (by simp [results, Tryz.results47, go_sem, r0, r1, r2]) rfl ?_
                    exact ⟨Below.set3 g s1 _ _ _, bz, z1, zs.length, z2, u1, us.length, u2, 0, rfl, Or.inr (Or.inr (Or.inr ⟨HP.out, HO.out, (by first | exact HXZ2.out | (have h5 := HXZ2.out; simpa using h5)), rfl, by rw [HN.out.1]; exact HZ.out.2, by rw [HN.out.2.1]; exact HU.out.2, zs, us, rfl, rfl, (Own.set3 (ozz.below k4 (Nat.le_refl _)) R1.lt _ _ _).mono g1.size, (Own.set3 (ouu.below k4 (Nat.le_refl _)) R1.lt _ _ _).mono g1.size, HS.out.1, HS.out.2, by rw [HN.out.2.1]; exact HU.out.1⟩))⟩
                · have hob : (y00 % 2 == 1) = false := by rw [beq_eq_false_iff_ne]; exact hodd
                  have HOd2 : Hid (decide ((val yn).toNat % 2 = 1) = false) := by unfold Hid; rw [← HOd.out]; exact hob
                  cases bx with
                  | false =>
                    obtain ⟨X0, X1, X2⟩ := X.cells
                    obtain ⟨Y0, Y1, Y2⟩ := Y.cells
                    go_wp2_with fail
                    clear X0 X1 X2 Y0 Y1 Y2
                    refine (limited_ok false z1 u1 zs.length z2 us.length u2 _ lz lu).mono ?_
                    rintro e w4 ⟨rfl, k4⟩
                    have HR3 := HR2.out false
                    have HS : Hid (RightP (false && decide (0 < zs.length)) zs us ∧ sg (false && decide (0 < zs.length)) (val zs) = sg false (pnum false xn xd) ^ (val yn).toNat) := ⟨HR3.1, by rw [HR3.2, HN.out.1, sg_pow, HOd2.out]; rfl⟩
                    clear HR3
                    replace X := X.below k4
                    replace Y := Y.below k4
                    replace R := R.below k4
                    replace g := g.trans (k4.mono g.size)
                    have hbb : (false && decide (0 < zs.length)) = false := by rfl
                    rw [hbb] at HS
                    clear hbb
                    have q0 := R.box.c0
                    have q1 := R.box.c1
                    have q2 := R.box.c2
                    have p0 := R.box.f0
                    have p1 := R.box.f1
                    have p2 := R.box.f2
                    go_wp2
                    have hR3 := R.box.set (.bool false) (.slice z1 zs.length z2) (.slice u1 us.length u2)
                    have r0 := hR3.c0
                    have r1 := hR3.c1
                    have r2 := hR3.c2
                    refine bodyPost_ret (v := .tuple #[.agg #[.bool false, .slice z1 zs.length z2, .slice u1 us.length u2], .int .i64 0]) (by simp [results, Tryz.results47, go_sem, r0, r1, r2]) rfl ?_
                    exact ⟨Below.set3 g s1 _ _ _, false, z1, zs.length, z2, u1, us.length, u2, 0, rfl, Or.inr (Or.inr (Or.inr ⟨HP.out, HO.out, (by first | exact HXZ2.out | (have h5 := HXZ2.out; simpa using h5)), rfl, by rw [HN.out.1]; exact HZ.out.2, by rw [HN.out.2.1]; exact HU.out.2, zs, us, rfl, rfl, (Own.set3 (ozz.below k4 (Nat.le_refl _)) R1.lt _ _ _).mono g1.size, (Own.set3 (ouu.below k4 (Nat.le_refl _)) R1.lt _ _ _).mono g1.size, HS.out.1, HS.out.2, by rw [HN.out.2.1]; exact HU.out.1⟩))⟩
                  | true =>
                    obtain ⟨X0, X1, X2⟩ := X.cells
                    obtain ⟨Y0, Y1, Y2⟩ := Y.cells
                    go_wp2_with fail
                    clear X0 X1 X2 Y0 Y1 Y2
                    refine (limited_ok false z1 u1 zs.length z2 us.length u2 _ lz lu).mono ?_
                    rintro e w4 ⟨rfl, k4⟩
                    have HR3 := HR2.out false
                    have HS : Hid (RightP (false && decide (0 < zs.length)) zs us ∧ sg (false && decide (0 < zs.length)) (val zs) = sg true (pnum false xn xd) ^ (val yn).toNat) := ⟨HR3.1, by rw [HR3.2, HN.out.1, sg_pow, HOd2.out]; rfl⟩
                    clear HR3
                    replace X := X.below k4
                    replace Y := Y.below k4
                    replace R := R.below k4
                    replace g := g.trans (k4.mono g.size)
                    have hbb : (false && decide (0 < zs.length)) = false := by rfl
                    rw [hbb] at HS
                    clear hbb
                    have q0 := R.box.c0
                    have q1 := R.box.c1
                    have q2 := R.box.c2
                    have p0 := R.box.f0
                    have p1 := R.box.f1
                    have p2 := R.box.f2
                    go_wp2
                    have hR3 := R.box.set (.bool false) (.slice z1 zs.length z2) (.slice u1 us.length u2)
                    have r0 := hR3.c0
                    have r1 := hR3.c1
                    have r2 := hR3.c2
                    refine bodyPost_ret (v := .tuple #[.agg #[.bool false, .slice z1 zs.length z2, .slice u1 us.length u2], .int .i64 0]) (by simp [results, Tryz.results47, go_sem, r0, r1, r2]) rfl ?_
                    exact ⟨Below.set3 g s1 _ _ _, false, z1, zs.length, z2, u1, us.length, u2, 0, rfl, Or.inr (Or.inr (Or.inr ⟨HP.out, HO.out, (by first | exact HXZ2.out | (have h5 := HXZ2.out; simpa using h5)), rfl, by rw [HN.out.1]; exact HZ.out.2, by rw [HN.out.2.1]; exact HU.out.2, zs, us, rfl, rfl, (Own.set3 (ozz.below k4 (Nat.le_refl _)) R1.lt _ _ _).mono g1.size, (Own.set3 (ouu.below k4 (Nat.le_refl _)) R1.lt _ _ _).mono g1.size, HS.out.1, HS.out.2, by rw [HN.out.2.1]; exact HU.out.1⟩))⟩
      · have hyb : ((yn.length : Int) == 0) = true := by rw [beq_iff_eq]; omega
        have HY0 : Hid ((val yn).toNat = 0 ∧ ¬ 0 < yn.length) := by
          refine ⟨?_, hy0⟩
          rw [(can_zero HP.out.2.2.2.1).1 (by omega)]
          rfl
        have g1 := g
        have R1 := R
        obtain ⟨Y0, Y1, Y2⟩ := Y.cells
        go_wp2_with fail
        clear Y0 Y1 Y2
        refine (ofInt_any 1 (by omega) (by omega) _).mono ?_
        rintro e w2 ⟨k2, b1, ns, ds, x1, y1, x2, y2, HW, rfl, on, od⟩
        replace X := X.below k2
        replace Y := Y.below k2
        replace R := R.below k2
        replace g := g.trans (k2.mono g.size)
        have q0 := R.box.c0
        have q1 := R.box.c1
        have q2 := R.box.c2
        have p0 := R.box.f0
        have p1 := R.box.f1
        have p2 := R.box.f2
        go_wp2
        have hR3 := R.box.set (.bool b1) (.slice x1 ns.length y1) (.slice x2 ds.length y2)
        have r0 := hR3.c0
        have r1 := hR3.c1
        have r2 := hR3.c2
        refine bodyPost_ret (v := .tuple #[.agg #[.bool b1, .slice x1 ns.length y1, .slice x2 ds.length y2], .int .i64 0]) (by simp [results, Tryz.results47, go_sem, r0, r1, r2]) rfl ?_
        exact ⟨Below.set3 g s1 _ _ _, b1, x1, ns.length, y1, x2, ds.length, y2, 0, rfl, Or.inr (Or.inr (Or.inr ⟨HP.out, HO.out, fun h => HY0.out.2 h.1, rfl, by rw [HY0.out.1, Int.pow_zero]; exact one_lt_pw, by rw [HY0.out.1, Int.pow_zero]; exact one_lt_pw, ns, ds, rfl, rfl, (Own.set3 on R1.lt _ _ _).mono g1.size, (Own.set3 od R1.lt _ _ _).mono g1.size, HW.out.right, by rw [HY0.out.1, HW.out.sg.1, Int.pow_zero], by rw [HY0.out.1, HW.out.sg.2, Int.pow_zero]⟩))⟩
    · have HO : Hid (¬ yd = [1]) := hone
      rw [decide_eq_false hone]
      clear hone
      have q0 := R.box.c0
      have q1 := R.box.c1
      have q2 := R.box.c2
      have p0 := R.box.f0
      have p1 := R.box.f1
      have p2 := R.box.f2
      go_wp2
      have hR3 := R.box.set (.bool false) (.slice none 0 0) (.slice none 0 0)
      have r0 := hR3.c0
      have r1 := hR3.c1
      have r2 := hR3.c2
      refine bodyPost_ret (v := .tuple #[.agg #[.bool false, .slice none 0 0, .slice none 0 0], .int .i64 3]) (by simp [results, Tryz.results47, go_sem, r0, r1, r2]) rfl ?_
      exact ⟨Below.set3 g s1 _ _ _, false, none, 0, 0, none, 0, 0, 3, rfl, Or.inr (Or.inl ⟨HP.out, Or.inl HO.out, rfl, rfl, rfl, rfl, rfl, rfl, rfl, rfl⟩)⟩
end
end Go.Proofs.YtidbebfendjnlaaGreatDoor

/- What a residue, a power and a count answer, told without a world: two such answers are one. -/
namespace Go.Proofs.YtidbebfendjnlaaGreatDoor
set_option linter.unusedVariables false
set_option linter.unusedSimpArgs false
open Go.RowKit

/-- What a residue answers. -/
def ResSpec (P : Prop) (bx : Bool) (xn xd : List Int) (cy : Bool) (yn yd : List Int) (b : Bool) (ns ds : List Int) (err : Int) : Prop :=
  (¬ P ∧ err = 22 ∧ b = false ∧ ns = [] ∧ ds = []) ∨
  (P ∧ xn.length = 0 ∧ err = 0 ∧ b = cy ∧ ns = yn ∧ ds = yd) ∨
  (P ∧ 0 < xn.length ∧ ResBig (sg cy (val yn) * sg bx (val xd)) (val yd * val xn) (sg bx (val xn)) (val xd) (sg cy (val yn)) (val yd) ∧ err = 8 ∧ b = false ∧ ns = [] ∧ ds = []) ∨
  (P ∧ 0 < xn.length ∧ ¬ ResBig (sg cy (val yn) * sg bx (val xd)) (val yd * val xn) (sg bx (val xn)) (val xd) (sg cy (val yn)) (val yd) ∧ err = 0 ∧ RightP b ns ds ∧ sg b (val ns) * (val yd * val xd) = (sg cy (val yn) * val xd + -(sg bx (val xn) * ((sg cy (val yn) * sg bx (val xd)) / (val yd * val xn))) * val yd) * val ds)
theorem ResSpec.unique {P : Prop} {bx cy : Bool} {xn xd yn yd : List Int} {b c : Bool} {ns ds ms es : List Int} {e f : Int} (hD : P → 0 < val yd * val xd) (h : ResSpec P bx xn xd cy yn yd b ns ds e) (k : ResSpec P bx xn xd cy yn yd c ms es f) : c = b ∧ ms = ns ∧ es = ds ∧ f = e := by
  rcases h with ⟨hp, rfl, rfl, rfl, rfl⟩ | ⟨hp, hc, rfl, rfl, rfl, rfl⟩ | ⟨hp, hc, h1, rfl, rfl, rfl, rfl⟩ | ⟨hp, hc, h1, rfl, hr, hv⟩ <;> rcases k with ⟨kp, rfl, rfl, rfl, rfl⟩ | ⟨kp, kc, rfl, rfl, rfl, rfl⟩ | ⟨kp, kc, k1, rfl, rfl, rfl, rfl⟩ | ⟨kp, kc, k1, rfl, kr, kv⟩
  all_goals first | exact ⟨rfl, rfl, rfl, rfl⟩ | exact absurd kp hp | exact absurd hp kp | exact absurd k1 h1 | exact absurd h1 k1 | (exfalso; omega) | (obtain ⟨rfl, rfl, rfl⟩ := right_is hr hv (hD hp) kr kv; exact ⟨rfl, rfl, rfl, rfl⟩)
theorem ResGives.spec {w w' : World} {P : Prop} {bx cy : Bool} {xn xd yn yd : List Int} {e : Ending} (h : ResGives w P bx xn xd cy yn yd e w') : ∃ b ns ds err, Hid (ResSpec P bx xn xd cy yn yd b ns ds err) ∧ RAns w b ns ds err e w' := by
  obtain ⟨hb, b, x1, n, y1, x2, m, y2, err, rfl, hO⟩ := h
  rcases hO.out with ⟨hp, rfl, rfl, rfl, rfl, rfl, rfl, rfl, rfl⟩ | ⟨hp, hx, rfl, rfl, rfl, rfl, on, od⟩ | ⟨hp, hx, rfl, rfl, rfl, rfl, rfl, rfl, rfl, rfl, hbig⟩ | ⟨hp, hx, rfl, hbig, ns, ds, rfl, rfl, on, od, hr, hv⟩
  · exact ⟨false, [], [], 22, Or.inl ⟨hp, rfl, rfl, rfl, rfl⟩, hb, none, 0, none, 0, rfl, nil_rd _, nil_rd _⟩
  · exact ⟨b, yn, yd, 0, Or.inr (Or.inl ⟨hp, hx, rfl, rfl, rfl, rfl⟩), hb, x1, y1, x2, y2, rfl, on.rd, od.rd⟩
  · exact ⟨false, [], [], 8, Or.inr (Or.inr (Or.inl ⟨hp, hx, hbig, rfl, rfl, rfl, rfl⟩)), hb, none, 0, none, 0, rfl, nil_rd _, nil_rd _⟩
  · exact ⟨b, ns, ds, 0, Or.inr (Or.inr (Or.inr ⟨hp, hx, hbig, rfl, hr, hv⟩)), hb, x1, y1, x2, y2, rfl, on.rd, od.rd⟩
theorem ResGives.same {w w' : World} {P : Prop} {bx cy : Bool} {xn xd yn yd : List Int} {e : Ending} {b : Bool} {ns ds : List Int} {err : Int} (hD : P → 0 < val yd * val xd) (HS : Hid (ResSpec P bx xn xd cy yn yd b ns ds err)) (h : ResGives w P bx xn xd cy yn yd e w') : RAns w b ns ds err e w' := by
  obtain ⟨c, ms, es, f, HK, hr⟩ := h.spec
  obtain ⟨rfl, rfl, rfl, rfl⟩ := ResSpec.unique hD HS.out HK.out
  exact hr

/-- What a power answers. -/
def PowSpec (P : Prop) (bx : Bool) (xn xd : List Int) (cy : Bool) (yn yd : List Int) (b : Bool) (ns ds : List Int) (err : Int) : Prop :=
  (¬ P ∧ err = 22 ∧ b = false ∧ ns = [] ∧ ds = []) ∨
  (P ∧ (¬ yd = [1] ∨ (yd = [1] ∧ 0 < yn.length ∧ xn.length = 0 ∧ cy = true)) ∧ err = 3 ∧ b = false ∧ ns = [] ∧ ds = []) ∨
  (P ∧ yd = [1] ∧ 0 < yn.length ∧ ¬ (xn.length = 0 ∧ cy = true) ∧ (pw 32 ≤ pnum cy xn xd ^ (val yn).toNat ∨ pw 32 ≤ pden cy xn xd ^ (val yn).toNat) ∧ err = 8 ∧ b = false ∧ ns = [] ∧ ds = []) ∨
  (P ∧ yd = [1] ∧ ¬ (0 < yn.length ∧ xn.length = 0 ∧ cy = true) ∧ pnum cy xn xd ^ (val yn).toNat < pw 32 ∧ pden cy xn xd ^ (val yn).toNat < pw 32 ∧ err = 0 ∧ RightP b ns ds ∧ sg b (val ns) = sg bx (pnum cy xn xd) ^ (val yn).toNat ∧ val ds = pden cy xn xd ^ (val yn).toNat)
theorem PowSpec.unique {P : Prop} {bx cy : Bool} {xn xd yn yd : List Int} {b c : Bool} {ns ds ms es : List Int} {e f : Int} (h : PowSpec P bx xn xd cy yn yd b ns ds e) (k : PowSpec P bx xn xd cy yn yd c ms es f) : c = b ∧ ms = ns ∧ es = ds ∧ f = e := by
  rcases h with ⟨hp, rfl, rfl, rfl, rfl⟩ | ⟨hp, hc, rfl, rfl, rfl, rfl⟩ | ⟨hp, h0, h1, h2, hbig, rfl, rfl, rfl, rfl⟩ | ⟨hp, h0, h1, hf1, hf2, rfl, hr, hv, hd⟩
  · rcases k with ⟨kp, rfl, rfl, rfl, rfl⟩ | ⟨kp, _⟩ | ⟨kp, _⟩ | ⟨kp, _⟩
    · exact ⟨rfl, rfl, rfl, rfl⟩
    all_goals exact absurd kp hp
  · rcases k with ⟨kp, _⟩ | ⟨kp, kc, rfl, rfl, rfl, rfl⟩ | ⟨kp, k0, k1, k2, _⟩ | ⟨kp, k0, k1, _⟩
    · exact absurd hp kp
    · exact ⟨rfl, rfl, rfl, rfl⟩
    · rcases hc with hc | ⟨_, _, hc⟩
      · exact absurd k0 hc
      · exact absurd hc k2
    · rcases hc with hc | ⟨_, hc⟩
      · exact absurd k0 hc
      · exact absurd hc k1
  · rcases k with ⟨kp, _⟩ | ⟨kp, kc, _⟩ | ⟨kp, k0, k1, k2, _, rfl, rfl, rfl, rfl⟩ | ⟨kp, k0, k1, kf1, kf2, _⟩
    · exact absurd hp kp
    · rcases kc with kc | ⟨_, _, kc⟩
      · exact absurd h0 kc
      · exact absurd kc h2
    · exact ⟨rfl, rfl, rfl, rfl⟩
    · exfalso; omega
  · rcases k with ⟨kp, _⟩ | ⟨kp, kc, _⟩ | ⟨kp, k0, k1, k2, kbig, _⟩ | ⟨kp, k0, k1, kf1, kf2, rfl, kr, kv, kd⟩
    · exact absurd hp kp
    · rcases kc with kc | ⟨_, kc⟩
      · exact absurd h0 kc
      · exact absurd kc h1
    · exfalso; omega
    · have hD := (right_pos hr).1
      rw [hd] at hD
      obtain ⟨rfl, rfl, rfl⟩ := right_is (N := sg bx (pnum cy xn xd) ^ (val yn).toNat) (D := pden cy xn xd ^ (val yn).toNat) hr (by rw [hv, hd]) hD kr (by rw [kv, kd])
      exact ⟨rfl, rfl, rfl, rfl⟩
theorem PowsGive.spec {w w' : World} {P : Prop} {bx cy : Bool} {xn xd yn yd : List Int} {e : Ending} (h : PowsGive w P bx xn xd cy yn yd e w') : ∃ b ns ds err, Hid (PowSpec P bx xn xd cy yn yd b ns ds err) ∧ RAns w b ns ds err e w' := by
  obtain ⟨hb, b, x1, n, y1, x2, m, y2, err, rfl, hO⟩ := h
  rcases hO.out with ⟨hp, rfl, rfl, rfl, rfl, rfl, rfl, rfl, rfl⟩ | ⟨hp, hx, rfl, rfl, rfl, rfl, rfl, rfl, rfl, rfl⟩ | ⟨hp, h0, h1, h2, rfl, rfl, rfl, rfl, rfl, rfl, rfl, rfl, hbig⟩ | ⟨hp, h0, h1, rfl, hf1, hf2, ns, ds, rfl, rfl, on, od, hr, hv, hd⟩
  · exact ⟨false, [], [], 22, Or.inl ⟨hp, rfl, rfl, rfl, rfl⟩, hb, none, 0, none, 0, rfl, nil_rd _, nil_rd _⟩
  · exact ⟨false, [], [], 3, Or.inr (Or.inl ⟨hp, hx, rfl, rfl, rfl, rfl⟩), hb, none, 0, none, 0, rfl, nil_rd _, nil_rd _⟩
  · exact ⟨false, [], [], 8, Or.inr (Or.inr (Or.inl ⟨hp, h0, h1, h2, hbig, rfl, rfl, rfl, rfl⟩)), hb, none, 0, none, 0, rfl, nil_rd _, nil_rd _⟩
  · exact ⟨b, ns, ds, 0, Or.inr (Or.inr (Or.inr ⟨hp, h0, h1, hf1, hf2, rfl, hr, hv, hd⟩)), hb, x1, y1, x2, y2, rfl, on.rd, od.rd⟩
theorem pow_same {w w' : World} {P : Prop} {bx cy : Bool} {xn xd yn yd : List Int} {e : Ending} {b : Bool} {ns ds : List Int} {err : Int} (HS : Hid (PowSpec P bx xn xd cy yn yd b ns ds err)) (h : ∃ c ms es f, Hid (PowSpec P bx xn xd cy yn yd c ms es f) ∧ RAns w c ms es f e w') : RAns w b ns ds err e w' := by
  obtain ⟨c, ms, es, f, HK, hr⟩ := h
  obtain ⟨rfl, rfl, rfl, rfl⟩ := PowSpec.unique HS.out HK.out
  exact hr
theorem count_same {w w' : World} {P C : Prop} {N : Nat} {e : Ending} {b : Bool} {ns ds : List Int} {err : Int} (HS : Hid (CountSpec P C N b ns ds err)) (h : ∃ c ms es f, Hid (CountSpec P C N c ms es f) ∧ RAns w c ms es f e w') : RAns w b ns ds err e w' := by
  obtain ⟨c, ms, es, f, HK, hr⟩ := h
  obtain ⟨rfl, rfl, rfl, rfl⟩ := CountSpec.unique HS.out HK.out
  exact hr

/-- A base that is not 1 in size, to a great power. -/
theorem pow_wide {b cy : Bool} {xn xd : List Int} (h : RightP b xn xd) (h0 : 0 < xn.length) (hne : ¬ (xn = [1] ∧ xd = [1])) {N : Nat} (hN : 1024 ≤ N) : pw 32 ≤ pnum cy xn xd ^ N ∨ pw 32 ≤ pden cy xn xd ^ N := by
  have h1 := can_low h.2.2.1 h0
  have h2 := pw_pos (xn.length - 1)
  have h3 := (right_pos h).1
  by_cases a : 2 ≤ val xn
  · cases cy with
    | false => exact Or.inl (pow_huge _ _ a hN)
    | true => exact Or.inr (pow_huge _ _ a hN)
  · by_cases c : 2 ≤ val xd
    · cases cy with
      | false => exact Or.inr (pow_huge _ _ c hN)
      | true => exact Or.inl (pow_huge _ _ c hN)
    · exact absurd ⟨can_inj h.2.2.1 can_one (by rw [one_val]; omega), can_inj h.2.2.2.1 can_one (by rw [one_val]; omega)⟩ hne
theorem pow_fin {b : Bool} {zs us : List Int} {A D : Int} {N : Nat} (cz : can zs) (cu : can us) (vz : val zs = A ^ N) (vu : val us = D ^ N) (hA : 0 < A) (hD : 0 < D) (hg : gI A D = 1) (lz : A ^ N < pw 32) (lu : D ^ N < pw 32) :
    RightP b zs us ∧ sg b (val zs) = sg b (A ^ N) := by
  obtain ⟨h1, _, _, h2⟩ := pow_right (b := b) cz cu vz vu (Int.le_of_lt hA) hD hg lz lu
  have hp : 0 < A ^ N := Int.pow_pos hA
  have hz : 0 < zs.length := by
    by_cases h : zs.length = 0
    · have := (can_zero cz).1 h
      omega
    · omega
  rw [decide_eq_true hz, Bool.and_true] at h1 h2
  exact ⟨h1, h2⟩
theorem right_zero : RightP false [] [1] := ⟨by decide, by decide, ⟨lim_nil, Or.inl rfl⟩, can_one, (fun h => by cases h.1), by decide, by decide⟩
theorem pow_big1 {cy : Bool} {xn xd : List Int} {N : Nat} (h : pw 32 ≤ val xn ^ N ∨ pw 32 ≤ val xd ^ N) : pw 32 ≤ pnum cy xn xd ^ N ∨ pw 32 ≤ pden cy xn xd ^ N := by
  cases cy with
  | false => exact h
  | true => exact h.symm
end Go.Proofs.YtidbebfendjnlaaGreatDoor

/- rat.Factorial. -/
namespace Go.Proofs.YtidbebfendjnlaaGreatDoor
set_option linter.unusedVariables false
set_option linter.unusedSimpArgs false
open Go.RowKit

/-- The product of 1 to n. -/
def nfact : Nat → Nat
  | 0 => 1
  | n + 1 => nfact n * (n + 1)
theorem nfact_grow (n : Nat) : nfact n ≤ nfact (n + 1) := Nat.le_mul_of_pos_right _ (Nat.succ_pos n)
theorem nfact_mono {j F : Nat} (h : j ≤ F) : nfact j ≤ nfact F := by
  induction F with
  | zero => have : j = 0 := by omega
            subst this; exact Nat.le_refl _
  | succ F ih =>
    by_cases hj : j = F + 1
    · subst hj; exact Nat.le_refl _
    · exact Nat.le_trans (ih (by omega)) (nfact_grow F)

section
variable {w : World} {b : Bool} {a1 a2 : Option Addr} {c1 c2 : Nat} {xn xd : List Int}
set_option maxRecDepth 100000 in
set_option maxHeartbeats 16000000 in
theorem factorial_rat (h1 : Rd w.heap.size w (.slice a1 xn.length c1) xn) (h2 : Rd w.heap.size w (.slice a2 xd.length c2) xd) :
    Calls Tryz.prog 49 #[.agg #[.bool b, .slice a1 xn.length c1, .slice a2 xd.length c2]] w fun e w' => ∃ c ns ds err, Hid (CountSpec (RightP b xn xd) (IsCount b xd) (nfact (val xn).toNat) c ns ds err) ∧ RAns w c ns ds err e w' := by
  obtain ⟨X, R, g⟩ := in1_new (b := b) w h1 h2
  have s0 : w.heap.size ≤ w.heap.size + 1 := by omega
  clear h1 h2
  obtain ⟨x0, x1, x2⟩ := X.cells
  go_enter Tryz.func49, Tryz.ntmps49
  go_wp2_with fail
  clear x0 x1 x2
  generalize hA : (w.alloc (.cells #[.bool b, .slice a1 xn.length c1, .slice a2 xd.length c2] 25)).alloc (.cells #[.bool false, .slice none 0 0, .slice none 0 0] 25) = v0 at *
  clear hA
  refine (right_rat X.rn X.rd (Nat.le_refl _)).mono ?_
  rintro e wa ⟨⟨r, rfl, hr⟩, ka⟩
  replace X := X.below ka
  replace R := R.below ka
  replace g := g.trans (ka.mono g.size)
  clear ka
  cases r with
  | false =>
    have HP : Hid (¬ RightP b xn xd) := fun h => by have := hr.2 h; cases this
    clear hr
    have q0 := R.box.c0
    have q1 := R.box.c1
    have q2 := R.box.c2
    have p0 := R.box.f0
    have p1 := R.box.f1
    have p2 := R.box.f2
    go_wp2
    have hR3 := R.box.set (.bool false) (.slice none 0 0) (.slice none 0 0)
    have r0 := hR3.c0
    have r1 := hR3.c1
    have r2 := hR3.c2
    refine bodyPost_ret (v := .tuple #[.agg #[.bool false, .slice none 0 0, .slice none 0 0], .int .i64 22]) (by simp [results, Tryz.results49, go_sem, r0, r1, r2]) rfl ?_
    exact ⟨false, [], [], 22, Or.inl ⟨HP.out, rfl, rfl, rfl, rfl⟩, Below.set3 g s0 _ _ _, none, 0, none, 0, rfl, nil_rd _, nil_rd _⟩
  | true =>
    have HP : Hid (RightP b xn xd) := hr.1 rfl
    clear hr
    obtain ⟨x0, x1, x2⟩ := X.cells
    go_wp2_with fail
    clear x0 x1 x2
    refine (isCount_any X.rn X.rd).mono ?_
    rintro e wb ⟨⟨r, rfl, hr⟩, kb⟩
    replace X := X.below kb
    replace R := R.below kb
    replace g := g.trans (kb.mono g.size)
    clear kb
    cases r with
    | false =>
      have HC : Hid (¬ IsCount b xd) := fun h => by have := hr.2 h; cases this
      clear hr
      have q0 := R.box.c0
      have q1 := R.box.c1
      have q2 := R.box.c2
      have p0 := R.box.f0
      have p1 := R.box.f1
      have p2 := R.box.f2
      go_wp2
      have hR3 := R.box.set (.bool false) (.slice none 0 0) (.slice none 0 0)
      have r0 := hR3.c0
      have r1 := hR3.c1
      have r2 := hR3.c2
      refine bodyPost_ret (v := .tuple #[.agg #[.bool false, .slice none 0 0, .slice none 0 0], .int .i64 3]) (by simp [results, Tryz.results49, go_sem, r0, r1, r2]) rfl ?_
      exact ⟨false, [], [], 3, Or.inr (Or.inl ⟨HP.out, HC.out, rfl, rfl, rfl, rfl⟩), Below.set3 g s0 _ _ _, none, 0, none, 0, rfl, nil_rd _, nil_rd _⟩
    | true =>
      have HC : Hid (IsCount b xd) := hr.1 rfl
      clear hr
      obtain ⟨F, hF⟩ : ∃ F : Nat, Hid (F = (val xn).toNat ∧ val xn = (F : Int)) := ⟨(val xn).toNat, rfl, by have := (right_pos HP.out).2; omega⟩
      have hFb : Fits F := by
        constructor
        rw [← hF.out.2]
        exact (can_len_pw HP.out.2.2.1 32).1 HP.out.1
      go_wp2_with fail
      refine (one_num _).mono ?_
      rintro e v ⟨t0, p1, q1, HS0, rfl, os0, ka⟩
      have gv := g.trans (ka.mono g.size)
      have XV := X.below ka
      have RV := R.below ka
      have ot0 := os0
      go_wp2_with fail
      refine (one_num _).mono ?_
      rintro e wc ⟨i0, p2, q2, HI0, rfl, oi0, kb⟩
      have tb : Below wb.heap.size wb wc := ka.trans (kb.mono ka.size)
      have os1 : Own wb.heap.size wc (.slice p1 t0.length q1) t0 := os0.below kb (Nat.le_refl _)
      have oi1 : Own wb.heap.size wc (.slice p2 i0.length q2) i0 := oi0.mono ka.size
      have c0 : Hid (can t0 ∧ can i0 ∧ t0.length ≤ 32 ∧ i0.length ≤ 33 ∧ val t0 = 1 ∧ val i0 = 1) := by
        unfold Hid; rw [HS0.out, HI0.out]; exact ⟨can_one, can_one, by simp, by simp, one_val, one_val⟩
      clear os0 ot0 oi0 gv XV RV ka kb
      go_wp2
      go_loopg [4, 5] F (fun gk sv iv wr => ∃ (j : Nat) (ss is : List Int) (a : Option Addr) (c : Nat) (a' : Option Addr) (c' : Nat), Hid (gk = F - j) ∧ sv = .slice a ss.length c ∧ iv = .slice a' is.length c' ∧ j ≤ F ∧ can ss ∧ can is ∧ Hid (val is = (j : Int) + 1 ∧ val ss = (nfact j : Int)) ∧ ss.length ≤ 32 ∧ is.length ≤ 33 ∧ Own wb.heap.size wr (.slice a ss.length c) ss ∧ Own wb.heap.size wr (.slice a' is.length c') is ∧ Below wb.heap.size wb wr)
      case atStart => exact ⟨0, t0, i0, p1, q1, p2, q2, rfl, rfl, rfl, Nat.zero_le _, c0.out.1, c0.out.2.1, ⟨by rw [c0.out.2.2.2.2.2]; rfl, by rw [c0.out.2.2.2.2.1]; rfl⟩, c0.out.2.2.1, c0.out.2.2.2.1, os1, oi1, tb⟩
      case round =>
        obtain ⟨j, ss, is, a, c, a', c', hgk, rfl, rfl, hj, cs, ci, HV, ls, li, os, oi, tr⟩ := hrel
        have X1 := X.below tr
        obtain ⟨x0, x1, x2⟩ := X1.cells
        go_wp2_with fail
        clear x0 x1 x2
        refine (compare_bl oi.rd X1.rn).mono ?_
        rintro e w1 ⟨rfl, k1⟩
        have t1 : Below wb.heap.size wb w1 := tr.trans (k1.mono tr.size)
        rw [HV.out.1, hF.out.2]
        by_cases hlt : j < F
        · have hc : cmpI ((j : Int) + 1) (F : Int) ≤ 0 := by unfold cmpI; split; omega; split <;> omega
          have os1 := os.below k1 (Nat.le_refl _)
          have oi1 := oi.below k1 (Nat.le_refl _)
          go_wp2_with fail
          refine (prod2 os1.rd oi1.rd (Nat.le_refl _) (Nat.le_refl _) (by omega) (by omega)).mono ?_
          rintro e w3 ⟨us, cu, vu, lu, p4, q4, rfl, ou, k3⟩
          have t3 : Below wb.heap.size wb w3 := t1.trans (k3.mono t1.size)
          have HU : Hid (val us = (nfact (j + 1) : Int)) := by
            unfold Hid
            rw [vu, HV.out.2, HV.out.1, nfact, Int.natCast_mul]
            rfl
          clear vu
          have ou3 : Own wb.heap.size w3 (.slice p4 us.length q4) us := ou.mono t1.size
          have oi3 := oi1.below k3 (Nat.le_refl _)
          have g3 : Below w.heap.size w w3 := g.trans (t3.mono g.size)
          clear hc lu os1 oi1 ou
          by_cases hbig : 32 < us.length
          · have HB : Great (nfact F) := by
              constructor
              have h5 : ¬ val us < pw 32 := fun h => by have := (can_len_pw cu 32).2 h; omega
              have h6 := nfact_mono (show j + 1 ≤ F by omega)
              rw [HU.out] at h5
              omega
            have R4 := R.below t3
            have q0 := R4.box.c0
            have q1' := R4.box.c1
            have q2' := R4.box.c2
            have p0 := R4.box.f0
            have p1' := R4.box.f1
            have p2' := R4.box.f2
            go_wp2
            have hR3 := R4.box.set (.bool false) (.slice none 0 0) (.slice none 0 0)
            have r0 := hR3.c0
            have r1 := hR3.c1
            have r2 := hR3.c2
            try simp only [Exit.inBlock, Exit.then]
            refine bodyPost_ret (v := .tuple #[.agg #[.bool false, .slice none 0 0, .slice none 0 0], .int .i64 8]) ?_ rfl ?_
            · simp [results, Tryz.results49, go_sem, r0, r1, r2]
            exact ⟨false, [], [], 8, Or.inr (Or.inr (Or.inl ⟨HP.out, HC.out, by rw [← hF.out.1]; exact HB.is, rfl, rfl, rfl, rfl⟩)), Below.set3 g3 s0 _ _ _, none, 0, none, 0, rfl, nil_rd _, nil_rd _⟩
          · go_wp2_with fail
            refine (one_num _).mono ?_
            rintro e w5 ⟨ds, p7, q7, HD, rfl, od, k5⟩
            have t5 : Below wb.heap.size wb w5 := t3.trans (k5.mono t3.size)
            have oi5 := oi3.below k5 (Nat.le_refl _)
            have ou5 := ou3.below k5 (Nat.le_refl _)
            have ld : ds.length ≤ 1 := by rw [HD.out]; exact Nat.le_refl _
            go_wp2_with fail
            refine (sum2 oi5.rd od.rd (Nat.le_refl _) (Nat.le_refl _) (by omega) (by omega)).mono ?_
            rintro e w6 ⟨ts, ct, vt, lt', p8, q8, rfl, ot, k6⟩
            have t6 : Below wb.heap.size wb w6 := t5.trans (k6.mono t5.size)
            have HT : Hid (val ts = ((j + 1 : Nat) : Int) + 1) := by unfold Hid; rw [vt, HV.out.1, HD.out, one_val]; omega
            clear vt
            have lts : ts.length ≤ 33 := by
              have h5 : (F : Int) < pw 32 := hFb.is
              have h6 := pw_pos 32
              refine (can_len_pw ct (32 + 1)).2 ?_
              rw [HT.out, pw_succ]
              generalize pw 32 = Z at *
              omega
            have ou6 := ou5.below k6 (Nat.le_refl _)
            have ot6 : Own wb.heap.size w6 (.slice p8 ts.length q8) ts := ot.mono t5.size
            go_wp2
            go_roundg (F - (j + 1))
            case rel => exact ⟨j + 1, us, ts, p4, q4, p8, q8, rfl, rfl, rfl, by omega, cu, ct, ⟨HT.out, HU.out⟩, by omega, lts, ou6, ot6, t6⟩
            case measure => rw [hgk.out]; omega
        · have hc : cmpI ((j : Int) + 1) (F : Int) = 1 := cmpI_gt (by omega)
          obtain rfl : j = F := by omega
          rw [hc]
          clear hc
          have os1 := os.below k1 (Nat.le_refl _)
          have HN : Fits (nfact j) := by constructor; rw [← HV.out.2]; exact (can_len_pw cs 32).1 ls
          go_wp2_with fail
          refine (one_num _).mono ?_
          rintro e w2 ⟨ds, p7, q7, HD, rfl, od, k2⟩
          have t2 : Below wb.heap.size wb w2 := t1.trans (k2.mono t1.size)
          have ld : ds.length ≤ 32 := by rw [HD.out]; simp
          have os2 := os1.below k2 (Nat.le_refl _)
          have od2 : Own wb.heap.size w2 (.slice p7 ds.length q7) ds := od.mono t1.size
          go_wp2_with fail
          refine (limited_ok false a p7 ss.length c ds.length q7 _ ls ld).mono ?_
          rintro e w3 ⟨rfl, k3⟩
          have t3 : Below wb.heap.size wb w3 := t2.trans (k3.mono t2.size)
          have hbb : (false && decide (0 < ss.length)) = false := rfl
          rw [hbb]
          clear hbb
          have os3 := os2.below k3 (Nat.le_refl _)
          have od3 := od2.below k3 (Nat.le_refl _)
          have R3 := R.below t3
          have q0 := R3.box.c0
          have q1' := R3.box.c1
          have q2' := R3.box.c2
          have p0 := R3.box.f0
          have p1' := R3.box.f1
          have p2' := R3.box.f2
          go_wp2
          have hR3 := R3.box.set (.bool false) (.slice a ss.length c) (.slice p7 ds.length q7)
          have r0 := hR3.c0
          have r1 := hR3.c1
          have r2 := hR3.c2
          try simp only [Exit.inBlock, Exit.then]
          refine bodyPost_ret (v := .tuple #[.agg #[.bool false, .slice a ss.length c, .slice p7 ds.length q7], .int .i64 0]) ?_ rfl ?_
          · simp [results, Tryz.results49, go_sem, r0, r1, r2]
          exact ⟨false, ss, ds, 0, Or.inr (Or.inr (Or.inr ⟨HP.out, HC.out, by rw [← hF.out.1]; exact HN.is, rfl, rfl, cs, by rw [← hF.out.1]; exact HV.out.2, HD.out⟩)), Below.set3 (g.trans (t3.mono g.size)) s0 _ _ _, a, c, p7, q7, rfl, (Own.set3 os3 R.lt _ _ _).rd, (Own.set3 od3 R.lt _ _ _).rd⟩
end
end Go.Proofs.YtidbebfendjnlaaGreatDoor

/- The document's whole and Factorial. -/
namespace Go.Proofs.YtidbebfendjnlaaGreatDoor
set_option linter.unusedVariables false
set_option linter.unusedSimpArgs false
open Go.RowKit

theorem big_whole {N : Int} (h : Big N 1) (h0 : 0 ≤ N) : pw 32 ≤ N := by
  obtain ⟨b, ns, ds, cn, cd, hd, hg, hv, hl⟩ := h
  rw [Int.mul_one] at hv
  have e := whole_den cn cd hd hg hv
  subst e
  rw [one_val, Int.mul_one] at hv
  have hl2 : 32 < ns.length := by simp at hl; omega
  have h5 : ¬ val ns < pw 32 := fun h => by have := (can_len_pw cn 32).2 h; omega
  have h6 := (val_bound cn.1).1
  have h7 := pw_pos 32
  have h8 : sg b (val ns) = val ns ∨ sg b (val ns) = -(val ns) := by unfold sg; split <;> simp
  omega
theorem right_whole {c : Bool} {ns ds : List Int} {N : Int} (hr : RightP c ns ds) (hv : sg c (val ns) * 1 = N * val ds) (h0 : 0 < N) : c = false ∧ val ns = N ∧ ds = [1] ∧ N < pw 32 := by
  rw [Int.mul_one] at hv
  have e := whole_den hr.2.2.1 hr.2.2.2.1 hr.2.2.2.2.2.1 hr.2.2.2.2.2.2 hv
  have hp := (right_pos hr).2
  have hl := (can_len_pw hr.2.2.1 32).1 hr.1
  subst e
  rw [one_val, Int.mul_one] at hv
  cases c with
  | true => have h2 : sg true (val ns) = -(val ns) := by simp [sg]
            omega
  | false => rw [sg_false] at hv; exact ⟨rfl, hv, rfl, by omega⟩
theorem rmakes_count {w w' : World} {P C : Prop} {N : Nat} {e : Ending} (hP : P) (hC : C) (h0 : 0 < N) (h : RMakes w (N : Int) 1 e w') : ∃ c ns ds err, Hid (CountSpec P C N c ns ds err) ∧ RAns w c ns ds err e w' := by
  obtain ⟨hb, ⟨he, hbig⟩ | ⟨c, ns, ds, a1, c1, a2, c2, he, on, od, hr, hv⟩⟩ := h
  · exact ⟨false, [], [], 8, Or.inr (Or.inr (Or.inl ⟨hP, hC, big_whole hbig (by omega), rfl, rfl, rfl, rfl⟩)), hb, none, 0, none, 0, he, nil_rd _, nil_rd _⟩
  · obtain ⟨e1, e2, e3, e4⟩ := right_whole hr hv (by omega)
    exact ⟨c, ns, ds, 0, Or.inr (Or.inr (Or.inr ⟨hP, hC, e4, rfl, e1, hr.2.2.1, e2, e3⟩)), hb, a1, c1, a2, c2, he, on.rd, od.rd⟩
theorem nfact_pos (n : Nat) : 0 < nfact n := by
  induction n with
  | zero => decide
  | succ n ih => exact Nat.mul_pos ih (Nat.succ_pos n)
theorem nfact_great {n : Nat} (h : 1000 < n) : pw 32 ≤ (nfact n : Int) := by
  have h1 := nfact_mono (show 200 ≤ n by omega)
  have h2 : pw 32 ≤ ((nfact 200 : Nat) : Int) := by decide +kernel
  omega

section
variable {w : World} {b : Bool} {a1 a2 : Option Addr} {c1 c2 : Nat} {xn xd : List Int}
set_option maxRecDepth 100000 in
set_option maxHeartbeats 3200000 in
theorem refWhole_any (h1 : Rd w.heap.size w (.slice a1 xn.length c1) xn) (h2 : Rd w.heap.size w (.slice a2 xd.length c2) xd) (hr : Hid (RightP b xn xd)) :
    Calls Tryz.prog 98 #[.agg #[.bool b, .slice a1 xn.length c1, .slice a2 xd.length c2]] w fun e w' => TellsP (IsCount b xd) e ∧ Below w.heap.size w w' := by
  have X := nvar_new (b := b) h1 h2
  have g := below_alloc w (.cells #[.bool b, .slice a1 xn.length c1, .slice a2 xd.length c2] 25)
  obtain ⟨x0, x1, x2⟩ := X.cells
  go_enter Tryz.func98, Tryz.ntmps98
  go_wp2_with fail
  clear x0 x1 x2
  generalize hA : w.alloc (.cells #[.bool b, .slice a1 xn.length c1, .slice a2 xd.length c2] 25) = v at *
  clear hA
  refine (refIsInt_rat X.rn X.rd).mono ?_
  rintro e wa ⟨⟨r, rfl, hi⟩, ka⟩
  replace X := X.below ka
  replace g := g.trans (ka.mono g.size)
  clear ka
  obtain ⟨x0, x1, x2⟩ := X.cells
  cases r with
  | false =>
    have HX : Hid (¬ IsWhole b xn xd) := fun h => by have := hi.2 h; cases this
    clear hi
    go_wp2
    go_ret
    exact ⟨TellsP.no (fun h => HX.out ⟨hr.out, h.1⟩), g⟩
  | true =>
    have HX : Hid (IsWhole b xn xd) := hi.1 rfl
    clear hi
    cases b with
    | false =>
      go_wp2
      go_ret
      exact ⟨TellsP.yes ⟨HX.out.2, rfl⟩, g⟩
    | true =>
      go_wp2
      go_ret
      exact ⟨TellsP.no (fun h => by cases h.2), g⟩

set_option maxRecDepth 100000 in
set_option maxHeartbeats 16000000 in
theorem refFactorial_rat (h1 : Rd w.heap.size w (.slice a1 xn.length c1) xn) (h2 : Rd w.heap.size w (.slice a2 xd.length c2) xd) :
    Calls Tryz.prog 50 #[.agg #[.bool b, .slice a1 xn.length c1, .slice a2 xd.length c2]] w fun e w' => ∃ c ns ds err, Hid (CountSpec (RightP b xn xd) (IsCount b xd) (nfact (val xn).toNat) c ns ds err) ∧ RAns w c ns ds err e w' := by
  obtain ⟨X, R, g⟩ := in1_new (b := b) w h1 h2
  have s0 : w.heap.size ≤ w.heap.size + 1 := by omega
  clear h1 h2
  obtain ⟨x0, x1, x2⟩ := X.cells
  go_enter Tryz.func50, Tryz.ntmps50
  go_wp2_with fail
  clear x0 x1 x2
  generalize hA : (w.alloc (.cells #[.bool b, .slice a1 xn.length c1, .slice a2 xd.length c2] 25)).alloc (.cells #[.bool false, .slice none 0 0, .slice none 0 0] 25) = v0 at *
  clear hA
  refine (refRight_rat X.rn X.rd).mono ?_
  rintro e wa ⟨⟨r, rfl, hr⟩, ka⟩
  replace X := X.below ka
  replace R := R.below ka
  replace g := g.trans (ka.mono g.size)
  clear ka
  cases r with
  | false =>
    have HP : Hid (¬ RightP b xn xd) := fun h => by have := hr.2 h; cases this
    clear hr
    have q0 := R.box.c0
    have q1 := R.box.c1
    have q2 := R.box.c2
    have p0 := R.box.f0
    have p1 := R.box.f1
    have p2 := R.box.f2
    go_wp2
    have hR3 := R.box.set (.bool false) (.slice none 0 0) (.slice none 0 0)
    have r0 := hR3.c0
    have r1 := hR3.c1
    have r2 := hR3.c2
    refine bodyPost_ret (v := .tuple #[.agg #[.bool false, .slice none 0 0, .slice none 0 0], .int .i64 22]) (by simp [results, Tryz.results50, go_sem, r0, r1, r2]) rfl ?_
    exact ⟨false, [], [], 22, Or.inl ⟨HP.out, rfl, rfl, rfl, rfl⟩, Below.set3 g s0 _ _ _, none, 0, none, 0, rfl, nil_rd _, nil_rd _⟩
  | true =>
    have HP : Hid (RightP b xn xd) := hr.1 rfl
    clear hr
    obtain ⟨x0, x1, x2⟩ := X.cells
    go_wp2_with fail
    clear x0 x1 x2
    refine (refWhole_any X.rn X.rd HP).mono ?_
    rintro e wb ⟨⟨r, rfl, hr⟩, kb⟩
    replace X := X.below kb
    replace R := R.below kb
    replace g := g.trans (kb.mono g.size)
    clear kb
    cases r with
    | false =>
      have HC : Hid (¬ IsCount b xd) := fun h => by have := hr.2 h; cases this
      clear hr
      have q0 := R.box.c0
      have q1 := R.box.c1
      have q2 := R.box.c2
      have p0 := R.box.f0
      have p1 := R.box.f1
      have p2 := R.box.f2
      go_wp2
      have hR3 := R.box.set (.bool false) (.slice none 0 0) (.slice none 0 0)
      have r0 := hR3.c0
      have r1 := hR3.c1
      have r2 := hR3.c2
      refine bodyPost_ret (v := .tuple #[.agg #[.bool false, .slice none 0 0, .slice none 0 0], .int .i64 3]) (by simp [results, Tryz.results50, go_sem, r0, r1, r2]) rfl ?_
      exact ⟨false, [], [], 3, Or.inr (Or.inl ⟨HP.out, HC.out, rfl, rfl, rfl, rfl⟩), Below.set3 g s0 _ _ _, none, 0, none, 0, rfl, nil_rd _, nil_rd _⟩
    | true =>
      have HC : Hid (IsCount b xd) := hr.1 rfl
      clear hr
      obtain ⟨F, hF⟩ : ∃ F : Nat, Hid (F = (val xn).toNat ∧ val xn = (F : Int)) := ⟨(val xn).toNat, rfl, by have := (right_pos HP.out).2; omega⟩
      have l1 : xn.length ≤ 17592186044415 := Nat.le_trans HP.out.1 (by decide)
      obtain ⟨x0, x1, x2⟩ := X.cells
      go_wp2_with fail
      clear x0 x1 x2
      refine (refSmall_any X.rn l1).mono ?_
      rintro e wc ⟨rfl, kc⟩
      replace X := X.below kc
      replace R := R.below kc
      replace g := g.trans (kc.mono g.size)
      clear kc
      rw [hF.out.2]
      by_cases hs : (F : Int) < 9223372036854775808
      · rw [smallV_lt hs]
        by_cases hbig : 1000 < F
        · have HB : Great (nfact F) := ⟨nfact_great hbig⟩
          have hd1 : decide ((F : Int) > 1000) = true := decide_eq_true (by omega)
          have q0 := R.box.c0
          have q1 := R.box.c1
          have q2 := R.box.c2
          have p0 := R.box.f0
          have p1 := R.box.f1
          have p2 := R.box.f2
          go_wp2
          have hR3 := R.box.set (.bool false) (.slice none 0 0) (.slice none 0 0)
          have r0 := hR3.c0
          have r1 := hR3.c1
          have r2 := hR3.c2
          refine bodyPost_ret (v := .tuple #[.agg #[.bool false, .slice none 0 0, .slice none 0 0], .int .i64 8]) (by simp [results, Tryz.results50, go_sem, r0, r1, r2]) rfl ?_
          exact ⟨false, [], [], 8, Or.inr (Or.inr (Or.inl ⟨HP.out, HC.out, by rw [← hF.out.1]; exact HB.is, rfl, rfl, rfl, rfl⟩)), Below.set3 g s0 _ _ _, none, 0, none, 0, rfl, nil_rd _, nil_rd _⟩
        · have hd1 : decide ((F : Int) > 1000) = false := decide_eq_false (by omega)
          have hF1 : F ≤ 1000 := by omega
          clear hbig hs
          go_wp2_with fail
          refine (refOne_any _).mono ?_
          rintro e wd ⟨t0, p1, q1, HS0, rfl, os0, kd⟩
          have c0 : Hid (can t0 ∧ t0.length ≤ 4 ∧ val t0 = 1) := by
            unfold Hid; rw [HS0.out]; exact ⟨can_one, by simp, one_val⟩
          go_wp2
          go_loopg [6, 7] (F - 1) (fun gk sv iv wr => ∃ (j : Nat) (ss : List Int) (a : Option Addr) (c : Nat), Hid (gk = F - j) ∧ sv = .slice a ss.length c ∧ iv = .int .i64 ((j : Int) + 1) ∧ 1 ≤ j ∧ j ≤ F + 1 ∧ Hid (j ≤ F ∨ (F = 0 ∧ j = 1)) ∧ can ss ∧ Hid (val ss = (nfact j : Int)) ∧ ss.length ≤ 4 * j ∧ Own wc.heap.size wr (.slice a ss.length c) ss ∧ Below wc.heap.size wc wr)
          case atStart => exact ⟨1, t0, p1, q1, rfl, rfl, rfl, Nat.le_refl _, by omega, (show 1 ≤ F ∨ (F = 0 ∧ 1 = 1) by omega), c0.out.1, by unfold Hid; rw [c0.out.2.2]; rfl, c0.out.2.1, os0, kd⟩
          case round =>
            obtain ⟨j, ss, a, c, hgk, rfl, rfl, hj1, hjF, hjo, cs, HV, ls, os, tr⟩ := hrel
            have hu : IntKind.u64.wrap ((j : Int) + 1) = (j : Int) + 1 := by rw [IntKind.wrap_u64]; omega
            have hw : IntKind.i64.wrap ((j : Int) + 1 + 1) = (j : Int) + 1 + 1 := by rw [IntKind.wrap_i64]; omega
            by_cases hlt : j < F
            · have hle : decide ((j : Int) + 1 ≤ (F : Int)) = true := decide_eq_true (by omega)
              go_wp2_with fail
              refine (refOf_num ((j : Int) + 1) (by omega) (by omega) _).mono ?_
              rintro e w1 ⟨us, cu, vu, lu, p4, q4, rfl, ou, k1⟩
              have t1 : Below wc.heap.size wc w1 := tr.trans (k1.mono tr.size)
              have os1 := os.below k1 (Nat.le_refl _)
              go_wp2_with fail
              refine (refMul_any os1.rd (Nat.le_refl _) ou.rd (Nat.le_refl _) (by omega) (by omega)).mono ?_
              rintro e w2 ⟨zs, cz, vz, lz, p5, q5, rfl, oz, k2⟩
              have t2 : Below wc.heap.size wc w2 := t1.trans (k2.mono t1.size)
              have HZ : Hid (val zs = (nfact (j + 1) : Int)) := by
                unfold Hid
                rw [vz, HV.out, vu.out, nfact, Int.natCast_mul]
                rfl
              clear vz
              have oz2 : Own wc.heap.size w2 (.slice p5 zs.length q5) zs := oz.mono t1.size
              go_wp2
              go_roundg (F - (j + 1))
              case rel => exact ⟨j + 1, zs, p5, q5, rfl, rfl, by go_num, by omega, by omega, Or.inl (by omega), cz, HZ, by omega, oz2, t2⟩
              case measure => rw [hgk.out]; omega
            · have hle : decide ((j : Int) + 1 ≤ (F : Int)) = false := decide_eq_false (by omega)
              have HN : Hid (nfact j = nfact F) := by
                unfold Hid
                rcases hjo.out with h | ⟨h, h'⟩
                · have : j = F := by omega
                  rw [this]
                · rw [h, h']; rfl
              go_wp2_with fail
              refine (refOne_any _).mono ?_
              rintro e w1 ⟨ds, p7, q7, HD, rfl, od, k1⟩
              have t1 : Below wc.heap.size wc w1 := tr.trans (k1.mono tr.size)
              have os1 := os.below k1 (Nat.le_refl _)
              have ld : ds.length ≤ 10000 := by rw [HD.out]; simp
              go_wp2_with fail
              refine (refMake_rat os1.rd od.rd (by omega) ld (by rw [HD.out, one_val]; decide)).mono ?_
              intro e w2 hm6
              rw [HD.out, one_val, sg_false, HV.out, HN.out] at hm6
              obtain ⟨bm6, b6, x5, n5, y5, x6, n6, y6, err, rfl, hform⟩ := (RMakes.from' t1 hm6).form
              have RF := R.below bm6
              have q0 := RF.box.c0
              have q1' := RF.box.c1
              have q2' := RF.box.c2
              have p0 := RF.box.f0
              have p1' := RF.box.f1
              have p2' := RF.box.f2
              go_wp2
              have hR3 := RF.box.set (.bool b6) (.slice x5 n5 y5) (.slice x6 n6 y6)
              have r0 := hR3.c0
              have r1 := hR3.c1
              have r2 := hR3.c2
              try simp only [Exit.inBlock, Exit.then]
              refine bodyPost_ret (v := .tuple #[.agg #[.bool b6, .slice x5 n5 y5, .slice x6 n6 y6], .int .i64 err]) ?_ rfl ?_
              · simp [results, Tryz.results50, go_sem, r0, r1, r2]
              have hfin := rmakes_count (C := IsCount b xd) HP.out HC.out (nfact_pos F) (rform_done g s0 R.lt bm6 hform)
              rw [← hF.out.1]
              exact hfin
      · rw [smallV_ge (by omega)]
        have HB : Great (nfact F) := ⟨nfact_great (by omega)⟩
        clear hs
        have q0 := R.box.c0
        have q1 := R.box.c1
        have q2 := R.box.c2
        have p0 := R.box.f0
        have p1 := R.box.f1
        have p2 := R.box.f2
        go_wp2
        have hR3 := R.box.set (.bool false) (.slice none 0 0) (.slice none 0 0)
        have r0 := hR3.c0
        have r1 := hR3.c1
        have r2 := hR3.c2
        refine bodyPost_ret (v := .tuple #[.agg #[.bool false, .slice none 0 0, .slice none 0 0], .int .i64 8]) (by simp [results, Tryz.results50, go_sem, r0, r1, r2]) rfl ?_
        exact ⟨false, [], [], 8, Or.inr (Or.inr (Or.inl ⟨HP.out, HC.out, by rw [← hF.out.1]; exact HB.is, rfl, rfl, rfl, rfl⟩)), Below.set3 g s0 _ _ _, none, 0, none, 0, rfl, nil_rd _, nil_rd _⟩
end
end Go.Proofs.YtidbebfendjnlaaGreatDoor

/- The document's Zero and Binomial. -/
namespace Go.Proofs.YtidbebfendjnlaaGreatDoor
set_option linter.unusedVariables false
set_option linter.unusedSimpArgs false
open Go.RowKit

theorem binom_up {n j : Nat} (h : j < n) : binom n (j + 1) * (j + 1) = binom n j * (n - j) := by
  obtain ⟨m, rfl⟩ : ∃ m, n = m + 1 := ⟨n - 1, by omega⟩
  have h1 := binom_absorb m j
  have h2 := binom_absorb m (m - j)
  have h3 := binom_sym (m + 1) j (m - j + 1) (by omega)
  have h4 := binom_sym m (m - j) j (by omega)
  rw [h4] at h2
  rw [h3, Nat.mul_comm, h1, ← h2, Nat.mul_comm]
  congr 1
  omega
theorem binom_rise {n j : Nat} (h : 2 * (j + 1) ≤ n + 1) (hj : j < n) : binom n j ≤ binom n (j + 1) := by
  have h1 := binom_up hj
  have h2 : binom n j * (j + 1) ≤ binom n j * (n - j) := Nat.mul_le_mul_left _ (by omega)
  rw [← h1] at h2
  exact Nat.le_of_mul_le_mul_right h2 (Nat.succ_pos j)
theorem binom_below {n L : Nat} (hL : 2 * L ≤ n) : ∀ d j, j + d = L → binom n j ≤ binom n L := by
  intro d
  induction d with
  | zero => intro j h; have : j = L := by omega
            subst this; exact Nat.le_refl _
  | succ d ih => intro j h; exact Nat.le_trans (binom_rise (by omega) (by omega)) (ih (j + 1) (by omega))
theorem binom_pos {n : Nat} : ∀ {k : Nat}, k ≤ n → 0 < binom n k := by
  induction n with
  | zero => intro k h; have : k = 0 := by omega
            subst this; decide
  | succ n ih =>
    intro k h
    match k, h with
    | 0, _ => rw [binom_zero]; decide
    | k + 1, h => rw [binom_succ]; have := ih (k := k) (by omega); omega

set_option maxRecDepth 100000 in
set_option maxHeartbeats 1600000 in
theorem refZero_any (w : World) : Calls Tryz.prog 77 #[] w fun e w' => ∃ ds, Hid (ds = [(1 : Int)]) ∧ NumAns w false [] ds e w' := by
  have R := rvar_new w
  have g := below_alloc w (.cells #[.bool false, .slice none 0 0, .slice none 0 0] 25)
  go_enter Tryz.func77, Tryz.ntmps77
  go_wp2_with fail
  generalize hA : w.alloc (.cells #[.bool false, .slice none 0 0, .slice none 0 0] 25) = v at *
  clear hA
  refine (refOne_any _).mono ?_
  rintro e wa ⟨ds, a, c, HD, rfl, od, ka⟩
  have R2 := R.below ka
  have q0 := R2.box.c0
  have q1 := R2.box.c1
  have q2 := R2.box.c2
  have p0 := R2.box.f0
  have p1 := R2.box.f1
  have p2 := R2.box.f2
  go_wp2
  have hR3 := R2.box.set (.bool false) (.slice none 0 0) (.slice a ds.length c)
  have r0 := hR3.c0
  have r1 := hR3.c1
  have r2 := hR3.c2
  refine bodyPost_ret (v := .agg #[.bool false, .slice none 0 0, .slice a ds.length c]) (by simp [results, Tryz.results77, go_sem, r0, r1, r2]) rfl ?_
  exact ⟨ds, HD, Below.set3 (g.trans (ka.mono g.size)) (Nat.le_refl _) _ _ _, none, 0, a, c, rfl, ⟨lim_nil, World.ownsRow_nil _ _ _ _⟩, (Own.set3 od R.lt _ _ _).mono g.size⟩

section
variable {w : World} {bx cy : Bool} {a1 a2 a3 a4 : Option Addr} {c1 c2 c3 c4 : Nat} {xn xd yn yd : List Int}
set_option maxRecDepth 100000 in
set_option maxHeartbeats 32000000 in
theorem refBinomial_rat (h1 : Rd w.heap.size w (.slice a1 xn.length c1) xn) (h2 : Rd w.heap.size w (.slice a2 xd.length c2) xd) (h3 : Rd w.heap.size w (.slice a3 yn.length c3) yn) (h4 : Rd w.heap.size w (.slice a4 yd.length c4) yd) :
    Calls Tryz.prog 52 #[.agg #[.bool bx, .slice a1 xn.length c1, .slice a2 xd.length c2], .agg #[.bool cy, .slice a3 yn.length c3, .slice a4 yd.length c4]] w fun e w' => ∃ c ns ds err, Hid (CountSpec (RightP bx xn xd ∧ RightP cy yn yd) (IsCount bx xd ∧ IsCount cy yd) (binom (val yn).toNat (val xn).toNat) c ns ds err) ∧ RAns w c ns ds err e w' := by
  obtain ⟨X, Y, R, g⟩ := in2_r (bx := bx) (cy := cy) w h1 h2 h3 h4
  have sr : w.heap.size ≤ w.heap.size + 1 + 1 := by omega
  have nx : w.heap.size ≠ w.heap.size + 1 + 1 := by omega
  have ny : w.heap.size + 1 ≠ w.heap.size + 1 + 1 := by omega
  clear h1 h2 h3 h4
  go_enter Tryz.func52, Tryz.ntmps52
  obtain ⟨X0, X1, X2⟩ := X.cells
  go_wp2_with fail
  clear X0 X1 X2
  generalize hA : ((w.alloc (.cells #[.bool bx, .slice a1 xn.length c1, .slice a2 xd.length c2] 25)).alloc (.cells #[.bool cy, .slice a3 yn.length c3, .slice a4 yd.length c4] 25)).alloc (.cells #[.bool false, .slice none 0 0, .slice none 0 0] 25) = v at *
  clear hA
  refine (refRight_rat X.rn X.rd).mono ?_
  rintro e wa ⟨⟨r, rfl, hr⟩, ka⟩
  replace X := X.below ka
  replace Y := Y.below ka
  replace R := R.below ka
  replace g := g.trans (ka.mono g.size)
  clear ka
  cases r with
  | false =>
    have HP : Hid (¬ RightP bx xn xd) := fun h => by have := hr.2 h; cases this
    clear hr
    have q0 := R.box.c0
    have q1 := R.box.c1
    have q2 := R.box.c2
    have p0 := R.box.f0
    have p1 := R.box.f1
    have p2 := R.box.f2
    go_wp2
    have hR3 := R.box.set (.bool false) (.slice none 0 0) (.slice none 0 0)
    have r0 := hR3.c0
    have r1 := hR3.c1
    have r2 := hR3.c2
    refine bodyPost_ret (v := .tuple #[.agg #[.bool false, .slice none 0 0, .slice none 0 0], .int .i64 22]) (by simp [results, Tryz.results52, go_sem, r0, r1, r2]) rfl ?_
    exact ⟨false, [], [], 22, Or.inl ⟨fun h => HP.out h.1, rfl, rfl, rfl, rfl⟩, Below.set3 g sr _ _ _, none, 0, none, 0, rfl, nil_rd _, nil_rd _⟩
  | true =>
    have hx : Hid (RightP bx xn xd) := hr.1 rfl
    clear hr
    obtain ⟨Y0, Y1, Y2⟩ := Y.cells
    go_wp2_with fail
    clear Y0 Y1 Y2
    refine (refRight_rat Y.rn Y.rd).mono ?_
    rintro e wb ⟨⟨r, rfl, hr⟩, kb⟩
    replace X := X.below kb
    replace Y := Y.below kb
    replace R := R.below kb
    replace g := g.trans (kb.mono g.size)
    clear kb
    cases r with
    | false =>
      have HP : Hid (¬ RightP cy yn yd) := fun h => by have := hr.2 h; cases this
      clear hr
      have q0 := R.box.c0
      have q1 := R.box.c1
      have q2 := R.box.c2
      have p0 := R.box.f0
      have p1 := R.box.f1
      have p2 := R.box.f2
      go_wp2
      have hR3 := R.box.set (.bool false) (.slice none 0 0) (.slice none 0 0)
      have r0 := hR3.c0
      have r1 := hR3.c1
      have r2 := hR3.c2
      refine bodyPost_ret (v := .tuple #[.agg #[.bool false, .slice none 0 0, .slice none 0 0], .int .i64 22]) (by simp [results, Tryz.results52, go_sem, r0, r1, r2]) rfl ?_
      exact ⟨false, [], [], 22, Or.inl ⟨fun h => HP.out h.2, rfl, rfl, rfl, rfl⟩, Below.set3 g sr _ _ _, none, 0, none, 0, rfl, nil_rd _, nil_rd _⟩
    | true =>
      have hy : Hid (RightP cy yn yd) := hr.1 rfl
      clear hr
      have l1 := hx.out.1
      have l2 := hx.out.2.1
      have l3 := hy.out.1
      have l4 := hy.out.2.1
      obtain ⟨X0, X1, X2⟩ := X.cells
      obtain ⟨Y0, Y1, Y2⟩ := Y.cells
      go_wp2_with fail
      clear X0 X1 X2 Y0 Y1 Y2
      refine (refWhole_any X.rn X.rd hx).mono ?_
      rintro e wd ⟨⟨r, rfl, hr⟩, kd⟩
      replace X := X.below kd
      replace Y := Y.below kd
      replace R := R.below kd
      replace g := g.trans (kd.mono g.size)
      clear kd
      cases r with
      | false =>
        have HC : Hid (¬ IsCount bx xd) := fun h => by have := hr.2 h; cases this
        clear hr
        have q0 := R.box.c0
        have q1 := R.box.c1
        have q2 := R.box.c2
        have p0 := R.box.f0
        have p1 := R.box.f1
        have p2 := R.box.f2
        go_wp2
        have hR3 := R.box.set (.bool false) (.slice none 0 0) (.slice none 0 0)
        have r0 := hR3.c0
        have r1 := hR3.c1
        have r2 := hR3.c2
        refine bodyPost_ret (v := .tuple #[.agg #[.bool false, .slice none 0 0, .slice none 0 0], .int .i64 3]) (by simp [results, Tryz.results52, go_sem, r0, r1, r2]) rfl ?_
        exact ⟨false, [], [], 3, Or.inr (Or.inl ⟨⟨hx.out, hy.out⟩, fun h => HC.out h.1, rfl, rfl, rfl, rfl⟩), Below.set3 g sr _ _ _, none, 0, none, 0, rfl, nil_rd _, nil_rd _⟩
      | true =>
        have HC1 : Hid (IsCount bx xd) := hr.1 rfl
        clear hr
        obtain ⟨X0, X1, X2⟩ := X.cells
        obtain ⟨Y0, Y1, Y2⟩ := Y.cells
        go_wp2_with fail
        clear X0 X1 X2 Y0 Y1 Y2
        refine (refWhole_any Y.rn Y.rd hy).mono ?_
        rintro e we ⟨⟨r, rfl, hr⟩, ke⟩
        replace X := X.below ke
        replace Y := Y.below ke
        replace R := R.below ke
        replace g := g.trans (ke.mono g.size)
        clear ke
        cases r with
        | false =>
          have HC : Hid (¬ IsCount cy yd) := fun h => by have := hr.2 h; cases this
          clear hr
          have q0 := R.box.c0
          have q1 := R.box.c1
          have q2 := R.box.c2
          have p0 := R.box.f0
          have p1 := R.box.f1
          have p2 := R.box.f2
          go_wp2
          have hR3 := R.box.set (.bool false) (.slice none 0 0) (.slice none 0 0)
          have r0 := hR3.c0
          have r1 := hR3.c1
          have r2 := hR3.c2
          refine bodyPost_ret (v := .tuple #[.agg #[.bool false, .slice none 0 0, .slice none 0 0], .int .i64 3]) (by simp [results, Tryz.results52, go_sem, r0, r1, r2]) rfl ?_
          exact ⟨false, [], [], 3, Or.inr (Or.inl ⟨⟨hx.out, hy.out⟩, fun h => HC.out h.2, rfl, rfl, rfl, rfl⟩), Below.set3 g sr _ _ _, none, 0, none, 0, rfl, nil_rd _, nil_rd _⟩
        | true =>
          have HCC : Hid (IsCount bx xd ∧ IsCount cy yd) := ⟨HC1.out, hr.1 rfl⟩
          clear hr HC1
          obtain ⟨K, HKn⟩ : ∃ K : Nat, Hid (K = (val xn).toNat ∧ val xn = (K : Int)) := ⟨(val xn).toNat, rfl, by have := (right_pos hx.out).2; omega⟩
          obtain ⟨N, HNn⟩ : ∃ N : Nat, Hid (N = (val yn).toNat ∧ val yn = (N : Int)) := ⟨(val yn).toNat, rfl, by have := (right_pos hy.out).2; omega⟩
          obtain ⟨X0, X1, X2⟩ := X.cells
          obtain ⟨Y0, Y1, Y2⟩ := Y.cells
          go_wp2_with fail
          clear X0 X1 X2 Y0 Y1 Y2
          refine (refMinus_any Y.rn (Nat.le_refl _) X.rn (Nat.le_refl _) (by omega) (by omega)).mono ?_
          rintro e wf ⟨kf, hm⟩
          replace X := X.below kf
          replace Y := Y.below kf
          replace R := R.below kf
          replace g := g.trans (kf.mono g.size)
          by_cases hlt : N < K
          · rw [if_pos (by rw [HNn.out.2, HKn.out.2]; omega)] at hm
            subst hm
            go_wp2_with fail
            refine (refZero_any _).mono ?_
            rintro e wz ⟨ds, HD, kz, x5, y5, x6, y6, rfl, on, od⟩
            have R9 := R
            replace X := X.below kz
            replace Y := Y.below kz
            replace R := R.below kz
            replace g := g.trans (kz.mono g.size)
            have q0 := R.box.c0
            have q1 := R.box.c1
            have q2 := R.box.c2
            have p0 := R.box.f0
            have p1 := R.box.f1
            have p2 := R.box.f2
            go_wp2
            have hR3 := R.box.set (.bool false) (.slice x5 0 y5) (.slice x6 ds.length y6)
            have r0 := hR3.c0
            have r1 := hR3.c1
            have r2 := hR3.c2
            refine bodyPost_ret (v := .tuple #[.agg #[.bool false, .slice x5 0 y5, .slice x6 ds.length y6], .int .i64 0]) (by simp [results, Tryz.results52, go_sem, r0, r1, r2]) rfl ?_
            have hb0 := binom_lt hlt
            exact ⟨false, [], ds, 0, Or.inr (Or.inr (Or.inr ⟨⟨hx.out, hy.out⟩, HCC.out, by rw [← HNn.out.1, ← HKn.out.1, hb0]; exact pw_pos 32, rfl, rfl, ⟨lim_nil, Or.inl rfl⟩, by rw [← HNn.out.1, ← HKn.out.1, hb0]; rfl, HD.out⟩)), Below.set3 g sr _ _ _, x5, y5, x6, y6, rfl, (Own.set3 on R9.lt _ _ _).rd, (Own.set3 od R9.lt _ _ _).rd⟩
          · rw [if_neg (by rw [HNn.out.2, HKn.out.2]; omega)] at hm
            obtain ⟨rs, ar, cr, crs, vr, rfl, orr⟩ := hm
            have HRr : Hid (val rs = ((N - K : Nat) : Int)) := by unfold Hid; rw [vr, HNn.out.2, HKn.out.2]; omega
            clear vr
            have lrr : rs.length ≤ 32 := by
              rw [can_len_pw crs, HRr.out]
              have h5 := (can_len_pw hy.out.2.2.1 32).1 l3
              rw [HNn.out.2] at h5
              omega
            have rr := orr.rd
            obtain ⟨X0, X1, X2⟩ := X.cells
            obtain ⟨Y0, Y1, Y2⟩ := Y.cells
            go_wp2_with fail
            clear X0 X1 X2 Y0 Y1 Y2
            refine (refCompare_rd rr X.rn (Nat.le_refl _) (by omega) (by omega)).mono ?_
            rintro e wg ⟨rfl, kg⟩
            replace rr := (rr.below kg).mono kg.size
            replace X := X.below kg
            replace Y := Y.below kg
            replace R := R.below kg
            replace g := g.trans (kg.mono g.size)
            rw [HRr.out, HKn.out.2]
            rcases Int.lt_trichotomy ((N - K : Nat) : Int) (K : Int) with hc | hc | hc
            · rw [cmpI_lt hc]
              obtain ⟨L, rfl⟩ : ∃ L, L = N - K := ⟨_, rfl⟩
              have HLv : Hid (val rs = ((N - K : Nat) : Int)) := HRr
              have HLc : Hid (can rs) := crs
              have HLL : Hid (2 * (N - K) ≤ N ∧ binom N (N - K) = binom N K) := ⟨by omega, binom_sym N (N - K) K (by omega)⟩
              have LS := rr
              generalize hLe : N - K = L at *
              clear hc hLe
              have hcond : 2 * L ≤ N := HLL.out.1
              have l9 : rs.length ≤ 32 := by rw [can_len_pw HLc.out]; rw [HLv.out]; have h5 := (can_len_pw hy.out.2.2.1 32).1 l3; rw [HNn.out.2] at h5; omega
              obtain ⟨Y0, Y1, Y2⟩ := Y.cells
              go_wp2_with fail
              clear Y0 Y1 Y2
              refine (refOne_any _).mono ?_
              rintro e wq ⟨t0, p1, q1, HS0, rfl, os0, kq⟩
              replace LS := (LS.below kq).mono kq.size
              replace X := X.below kq
              replace Y := Y.below kq
              replace R := R.below kq
              replace g := g.trans (kq.mono g.size)
              clear kq
              have c0 : Hid (can t0 ∧ t0.length ≤ 32 ∧ val t0 = 1) := by
                unfold Hid; rw [HS0.out]; exact ⟨can_one, by simp, one_val⟩
              have rs0 := os0.rd
              obtain ⟨Y0, Y1, Y2⟩ := Y.cells
              go_wp2
              clear Y0 Y1 Y2
              go_loopg [9, 10, 11] L (fun gk cv iv tv wr => ∃ (j : Nat) (cs is ts : List Int) (a : Option Addr) (c : Nat) (a' : Option Addr) (c' : Nat) (a'' : Option Addr) (c'' : Nat), Hid (gk = L - j) ∧ cv = .slice a cs.length c ∧ iv = .slice a' is.length c' ∧ tv = .slice a'' ts.length c'' ∧ j ≤ L ∧ can cs ∧ can is ∧ can ts ∧ Hid (val cs = (binom N j : Int) ∧ val is = (j : Int) ∧ val ts = (N : Int) - (j : Int)) ∧ cs.length ≤ 32 ∧ is.length ≤ 32 ∧ ts.length ≤ 32 ∧ Rd wr.heap.size wr (.slice a cs.length c) cs ∧ Rd wr.heap.size wr (.slice a' is.length c') is ∧ Rd wr.heap.size wr (.slice a'' ts.length c'') ts ∧ Below wq.heap.size wq wr)
              case atStart => exact ⟨0, t0, [], yn, p1, q1, none, 0, a3, c3, rfl, rfl, rfl, rfl, Nat.zero_le _, c0.out.1, ⟨lim_nil, Or.inl rfl⟩, hy.out.2.2.1, ⟨by rw [c0.out.2.2, binom_zero]; rfl, rfl, by rw [HNn.out.2]; omega⟩, c0.out.2.1, by simp, l3, rs0, nil_rd _, Y.rn, Below.refl _ _⟩
              case round =>
                obtain ⟨j, cs, is, ts, a, c, a', c', a'', c'', hgk, rfl, rfl, rfl, hj, hcs, hci, hct, HV, lc, li, lt, rc, ri, rt, tr⟩ := hrel
                have LR := (LS.below tr).mono tr.size
                go_wp2_with fail
                refine (refCompare_rd ri LR (Nat.le_refl _) (by omega) (by omega)).mono ?_
                rintro e w1 ⟨rfl, k1⟩
                have t1 : Below wq.heap.size wq w1 := tr.trans (k1.mono tr.size)
                rw [HV.out.2.1, HLv.out]
                replace rc := (rc.below k1).mono k1.size
                replace ri := (ri.below k1).mono k1.size
                replace rt := (rt.below k1).mono k1.size
                by_cases hlt : j < L
                · rw [cmpI_lt (show (j : Int) < (L : Int) by omega)]
                  go_wp2_with fail
                  refine (refOne_any _).mono ?_
                  rintro e w2 ⟨ds, p7, q7, HD, rfl, od, k2⟩
                  have t2 : Below wq.heap.size wq w2 := t1.trans (k2.mono t1.size)
                  have ld : ds.length ≤ 1 := by rw [HD.out]; exact Nat.le_refl _
                  replace rc := (rc.below k2).mono k2.size
                  replace ri := (ri.below k2).mono k2.size
                  replace rt := (rt.below k2).mono k2.size
                  go_wp2_with fail
                  refine (refAdd_any ri (Nat.le_refl _) od.rd (Nat.le_refl _) (by omega) (by omega)).mono ?_
                  rintro e w3 ⟨us, cu, vu, lu, p4, q4, rfl, ou, k3⟩
                  have t3 : Below wq.heap.size wq w3 := t2.trans (k3.mono t2.size)
                  replace rc := (rc.below k3).mono k3.size
                  replace rt := (rt.below k3).mono k3.size
                  have HU : Hid (val us = (j : Int) + 1 ∧ can us) := ⟨by rw [vu, HV.out.2.1, HD.out, one_val], cu⟩
                  clear vu cu
                  have ru := ou.rd
                  go_wp2_with fail
                  refine (refMul_any rc (Nat.le_refl _) rt (Nat.le_refl _) (by omega) (by omega)).mono ?_
                  rintro e w4 ⟨zs, cz, vz, lz, p5, q5, rfl, oz, k4⟩
                  have t4 : Below wq.heap.size wq w4 := t3.trans (k4.mono t3.size)
                  replace ru := (ru.below k4).mono k4.size
                  replace rt := (rt.below k4).mono k4.size
                  have HZ : Hid (val zs = (binom N (j + 1) : Int) * ((j : Int) + 1)) := by
                    unfold Hid
                    rw [vz, HV.out.1, HV.out.2.2]
                    have h5 := binom_up (n := N) (j := j) (by omega)
                    have h6 : ((binom N (j + 1) * (j + 1) : Nat) : Int) = ((binom N j * (N - j) : Nat) : Int) := by rw [h5]
                    rw [Int.natCast_mul, Int.natCast_mul, Int.natCast_sub (by omega)] at h6
                    exact h6.symm
                  clear vz
                  go_wp2_with fail
                  refine (refDivMod_form oz.rd (Nat.le_refl _) ru (Nat.le_refl _) (by omega) (by omega)).mono ?_
                  rintro e w5 ⟨qs, rs, p6, q6, p8, q8, bq, rfl, oq, or, HQ0, k5⟩
                  have t5 : Below wq.heap.size wq w5 := t4.trans (k5.mono t4.size)
                  replace ru := (ru.below k5).mono k5.size
                  replace rt := (rt.below k5).mono k5.size
                  have HQ : Hid (can qs ∧ val qs = (binom N (j + 1) : Int)) := by
                    rcases HQ0.out with ⟨h5, _⟩ | ⟨_, hb5, cq, cr, hv5, hl5⟩
                    · have := HU.out.1; omega
                    · have h5 := div_unique hv5 (val_bound cr.1).1 hl5
                      have h6 := div_unique (n := val zs) (d := val us) (q := (binom N (j + 1) : Int)) (r := 0) (by rw [HZ.out, HU.out.1, Int.add_zero]) (by omega) (by rw [HU.out.1]; omega)
                      exact ⟨cq, by rw [h5.1, h6.1]⟩
                  clear HQ0
                  have rq := oq.rd
                  go_wp2_with fail
                  refine (refOne_any _).mono ?_
                  rintro e w6 ⟨es, p9, q9, HE, rfl, oe, k6⟩
                  have t6 : Below wq.heap.size wq w6 := t5.trans (k6.mono t5.size)
                  have le1 : es.length ≤ 1 := by rw [HE.out]; exact Nat.le_refl _
                  replace ru := (ru.below k6).mono k6.size
                  replace rt := (rt.below k6).mono k6.size
                  replace rq := (rq.below k6).mono k6.size
                  go_wp2_with fail
                  refine (refMinus_any rt (Nat.le_refl _) oe.rd (Nat.le_refl _) (by omega) (by omega)).mono ?_
                  rintro e w7 ⟨k7, hm⟩
                  rw [if_neg (by rw [HV.out.2.2, HE.out, one_val]; omega)] at hm
                  obtain ⟨ms, p10, q10, cm, vm, rfl, om⟩ := hm
                  have t7 : Below wq.heap.size wq w7 := t6.trans (k7.mono t6.size)
                  replace ru := (ru.below k7).mono k7.size
                  replace rq := (rq.below k7).mono k7.size
                  have HM : Hid (val ms = (N : Int) - ((j + 1 : Nat) : Int)) := by unfold Hid; rw [vm, HV.out.2.2, HE.out, one_val]; omega
                  have lm : ms.length ≤ 32 := by
                    rw [can_len_pw cm, vm]
                    have h5 := (can_len_pw hct 32).1 lt
                    rw [HE.out, one_val]
                    omega
                  clear vm
                  have lu2 : us.length ≤ 32 := by
                    rw [can_len_pw HU.out.2, HU.out.1]
                    have h5 := (can_len_pw HLc.out 32).1 l9
                    rw [HLv.out] at h5
                    omega
                  by_cases hbig : 32 < qs.length
                  · have HB : Great (binom N L) := by
                      constructor
                      have h5 : ¬ val qs < pw 32 := fun h => by have := (can_len_pw HQ.out.1 32).2 h; omega
                      have h6 := binom_below hcond (L - (j + 1)) (j + 1) (by omega)
                      rw [HQ.out.2] at h5
                      omega
                    have R4 := R.below t7
                    have q0 := R4.box.c0
                    have q1' := R4.box.c1
                    have q2' := R4.box.c2
                    have p0 := R4.box.f0
                    have p1' := R4.box.f1
                    have p2' := R4.box.f2
                    go_wp2
                    have hR3 := R4.box.set (.bool false) (.slice none 0 0) (.slice none 0 0)
                    have r0 := hR3.c0
                    have r1 := hR3.c1
                    have r2 := hR3.c2
                    try simp only [Exit.inBlock, Exit.then]
                    refine bodyPost_ret (v := .tuple #[.agg #[.bool false, .slice none 0 0, .slice none 0 0], .int .i64 8]) ?_ rfl ?_
                    · simp [results, Tryz.results52, go_sem, r0, r1, r2]
                    exact ⟨false, [], [], 8, Or.inr (Or.inr (Or.inl ⟨⟨hx.out, hy.out⟩, HCC.out, by rw [← HNn.out.1, ← HKn.out.1, ← HLL.out.2]; exact HB.is, rfl, rfl, rfl, rfl⟩)), Below.set3 (g.trans (t7.mono g.size)) sr _ _ _, none, 0, none, 0, rfl, nil_rd _, nil_rd _⟩
                  · go_wp2
                    go_roundg (L - (j + 1))
                    case rel => exact ⟨j + 1, qs, us, ms, p6, q6, p4, q4, p10, q10, rfl, rfl, rfl, rfl, by omega, HQ.out.1, HU.out.2, cm, ⟨HQ.out.2, by rw [HU.out.1]; rfl, HM.out⟩, by omega, lu2, lm, rq, ru, om.rd, t7⟩
                    case measure => rw [hgk.out]; omega
                · obtain rfl : j = L := by omega
                  rw [cmpI_eq (rfl : (j : Int) = (j : Int))]
                  go_wp2_with fail
                  refine (refOne_any _).mono ?_
                  rintro e w2 ⟨ds, p7, q7, HD, rfl, od, k2⟩
                  have t2 : Below wq.heap.size wq w2 := t1.trans (k2.mono t1.size)
                  have ld : ds.length ≤ 10000 := by rw [HD.out]; simp
                  replace rc := (rc.below k2).mono k2.size
                  go_wp2_with fail
                  refine (refMake_rat rc od.rd (by omega) ld (by rw [HD.out, one_val]; decide)).mono ?_
                  intro e w3 hm6
                  rw [HD.out, one_val, sg_false, HV.out.1] at hm6
                  obtain ⟨bm6, b6, x5, n5, y5, x6, n6, y6, err, rfl, hform⟩ := (RMakes.from' t2 hm6).form
                  have RF := R.below bm6
                  have q0 := RF.box.c0
                  have q1' := RF.box.c1
                  have q2' := RF.box.c2
                  have p0 := RF.box.f0
                  have p1' := RF.box.f1
                  have p2' := RF.box.f2
                  go_wp2
                  have hR3 := RF.box.set (.bool b6) (.slice x5 n5 y5) (.slice x6 n6 y6)
                  have r0 := hR3.c0
                  have r1 := hR3.c1
                  have r2 := hR3.c2
                  try simp only [Exit.inBlock, Exit.then]
                  refine bodyPost_ret (v := .tuple #[.agg #[.bool b6, .slice x5 n5 y5, .slice x6 n6 y6], .int .i64 err]) ?_ rfl ?_
                  · simp [results, Tryz.results52, go_sem, r0, r1, r2]
                  have hfin := rmakes_count (P := RightP bx xn xd ∧ RightP cy yn yd) (C := IsCount bx xd ∧ IsCount cy yd) ⟨hx.out, hy.out⟩ HCC.out (binom_pos (n := N) (k := j) (by omega)) (rform_done g sr R.lt bm6 hform)
                  rw [← HNn.out.1, ← HKn.out.1, ← HLL.out.2]
                  exact hfin
            · rw [cmpI_eq hc]
              obtain ⟨L, hLe⟩ : ∃ L, L = K := ⟨_, rfl⟩
              have HLv : Hid (val xn = (L : Int)) := by unfold Hid; rw [hLe]; exact HKn.out.2
              have HLc : Hid (can xn) := hx.out.2.2.1
              have HLL : Hid (2 * L ≤ N ∧ binom N L = binom N K) := ⟨by omega, by rw [hLe]⟩
              have LS := X.rn
              clear hc hLe
              have hcond : 2 * L ≤ N := HLL.out.1
              have l9 : xn.length ≤ 32 := by rw [can_len_pw HLc.out]; rw [HLv.out]; have h5 := (can_len_pw hy.out.2.2.1 32).1 l3; rw [HNn.out.2] at h5; omega
              obtain ⟨Y0, Y1, Y2⟩ := Y.cells
              go_wp2_with fail
              clear Y0 Y1 Y2
              refine (refOne_any _).mono ?_
              rintro e wq ⟨t0, p1, q1, HS0, rfl, os0, kq⟩
              replace LS := (LS.below kq).mono kq.size
              replace X := X.below kq
              replace Y := Y.below kq
              replace R := R.below kq
              replace g := g.trans (kq.mono g.size)
              clear kq
              have c0 : Hid (can t0 ∧ t0.length ≤ 32 ∧ val t0 = 1) := by
                unfold Hid; rw [HS0.out]; exact ⟨can_one, by simp, one_val⟩
              have rs0 := os0.rd
              obtain ⟨Y0, Y1, Y2⟩ := Y.cells
              go_wp2
              clear Y0 Y1 Y2
              go_loopg [9, 10, 11] L (fun gk cv iv tv wr => ∃ (j : Nat) (cs is ts : List Int) (a : Option Addr) (c : Nat) (a' : Option Addr) (c' : Nat) (a'' : Option Addr) (c'' : Nat), Hid (gk = L - j) ∧ cv = .slice a cs.length c ∧ iv = .slice a' is.length c' ∧ tv = .slice a'' ts.length c'' ∧ j ≤ L ∧ can cs ∧ can is ∧ can ts ∧ Hid (val cs = (binom N j : Int) ∧ val is = (j : Int) ∧ val ts = (N : Int) - (j : Int)) ∧ cs.length ≤ 32 ∧ is.length ≤ 32 ∧ ts.length ≤ 32 ∧ Rd wr.heap.size wr (.slice a cs.length c) cs ∧ Rd wr.heap.size wr (.slice a' is.length c') is ∧ Rd wr.heap.size wr (.slice a'' ts.length c'') ts ∧ Below wq.heap.size wq wr)
              case atStart => exact ⟨0, t0, [], yn, p1, q1, none, 0, a3, c3, rfl, rfl, rfl, rfl, Nat.zero_le _, c0.out.1, ⟨lim_nil, Or.inl rfl⟩, hy.out.2.2.1, ⟨by rw [c0.out.2.2, binom_zero]; rfl, rfl, by rw [HNn.out.2]; omega⟩, c0.out.2.1, by simp, l3, rs0, nil_rd _, Y.rn, Below.refl _ _⟩
              case round =>
                obtain ⟨j, cs, is, ts, a, c, a', c', a'', c'', hgk, rfl, rfl, rfl, hj, hcs, hci, hct, HV, lc, li, lt, rc, ri, rt, tr⟩ := hrel
                have LR := (LS.below tr).mono tr.size
                go_wp2_with fail
                refine (refCompare_rd ri LR (Nat.le_refl _) (by omega) (by omega)).mono ?_
                rintro e w1 ⟨rfl, k1⟩
                have t1 : Below wq.heap.size wq w1 := tr.trans (k1.mono tr.size)
                rw [HV.out.2.1, HLv.out]
                replace rc := (rc.below k1).mono k1.size
                replace ri := (ri.below k1).mono k1.size
                replace rt := (rt.below k1).mono k1.size
                by_cases hlt : j < L
                · rw [cmpI_lt (show (j : Int) < (L : Int) by omega)]
                  go_wp2_with fail
                  refine (refOne_any _).mono ?_
                  rintro e w2 ⟨ds, p7, q7, HD, rfl, od, k2⟩
                  have t2 : Below wq.heap.size wq w2 := t1.trans (k2.mono t1.size)
                  have ld : ds.length ≤ 1 := by rw [HD.out]; exact Nat.le_refl _
                  replace rc := (rc.below k2).mono k2.size
                  replace ri := (ri.below k2).mono k2.size
                  replace rt := (rt.below k2).mono k2.size
                  go_wp2_with fail
                  refine (refAdd_any ri (Nat.le_refl _) od.rd (Nat.le_refl _) (by omega) (by omega)).mono ?_
                  rintro e w3 ⟨us, cu, vu, lu, p4, q4, rfl, ou, k3⟩
                  have t3 : Below wq.heap.size wq w3 := t2.trans (k3.mono t2.size)
                  replace rc := (rc.below k3).mono k3.size
                  replace rt := (rt.below k3).mono k3.size
                  have HU : Hid (val us = (j : Int) + 1 ∧ can us) := ⟨by rw [vu, HV.out.2.1, HD.out, one_val], cu⟩
                  clear vu cu
                  have ru := ou.rd
                  go_wp2_with fail
                  refine (refMul_any rc (Nat.le_refl _) rt (Nat.le_refl _) (by omega) (by omega)).mono ?_
                  rintro e w4 ⟨zs, cz, vz, lz, p5, q5, rfl, oz, k4⟩
                  have t4 : Below wq.heap.size wq w4 := t3.trans (k4.mono t3.size)
                  replace ru := (ru.below k4).mono k4.size
                  replace rt := (rt.below k4).mono k4.size
                  have HZ : Hid (val zs = (binom N (j + 1) : Int) * ((j : Int) + 1)) := by
                    unfold Hid
                    rw [vz, HV.out.1, HV.out.2.2]
                    have h5 := binom_up (n := N) (j := j) (by omega)
                    have h6 : ((binom N (j + 1) * (j + 1) : Nat) : Int) = ((binom N j * (N - j) : Nat) : Int) := by rw [h5]
                    rw [Int.natCast_mul, Int.natCast_mul, Int.natCast_sub (by omega)] at h6
                    exact h6.symm
                  clear vz
                  go_wp2_with fail
                  refine (refDivMod_form oz.rd (Nat.le_refl _) ru (Nat.le_refl _) (by omega) (by omega)).mono ?_
                  rintro e w5 ⟨qs, rs, p6, q6, p8, q8, bq, rfl, oq, or, HQ0, k5⟩
                  have t5 : Below wq.heap.size wq w5 := t4.trans (k5.mono t4.size)
                  replace ru := (ru.below k5).mono k5.size
                  replace rt := (rt.below k5).mono k5.size
                  have HQ : Hid (can qs ∧ val qs = (binom N (j + 1) : Int)) := by
                    rcases HQ0.out with ⟨h5, _⟩ | ⟨_, hb5, cq, cr, hv5, hl5⟩
                    · have := HU.out.1; omega
                    · have h5 := div_unique hv5 (val_bound cr.1).1 hl5
                      have h6 := div_unique (n := val zs) (d := val us) (q := (binom N (j + 1) : Int)) (r := 0) (by rw [HZ.out, HU.out.1, Int.add_zero]) (by omega) (by rw [HU.out.1]; omega)
                      exact ⟨cq, by rw [h5.1, h6.1]⟩
                  clear HQ0
                  have rq := oq.rd
                  go_wp2_with fail
                  refine (refOne_any _).mono ?_
                  rintro e w6 ⟨es, p9, q9, HE, rfl, oe, k6⟩
                  have t6 : Below wq.heap.size wq w6 := t5.trans (k6.mono t5.size)
                  have le1 : es.length ≤ 1 := by rw [HE.out]; exact Nat.le_refl _
                  replace ru := (ru.below k6).mono k6.size
                  replace rt := (rt.below k6).mono k6.size
                  replace rq := (rq.below k6).mono k6.size
                  go_wp2_with fail
                  refine (refMinus_any rt (Nat.le_refl _) oe.rd (Nat.le_refl _) (by omega) (by omega)).mono ?_
                  rintro e w7 ⟨k7, hm⟩
                  rw [if_neg (by rw [HV.out.2.2, HE.out, one_val]; omega)] at hm
                  obtain ⟨ms, p10, q10, cm, vm, rfl, om⟩ := hm
                  have t7 : Below wq.heap.size wq w7 := t6.trans (k7.mono t6.size)
                  replace ru := (ru.below k7).mono k7.size
                  replace rq := (rq.below k7).mono k7.size
                  have HM : Hid (val ms = (N : Int) - ((j + 1 : Nat) : Int)) := by unfold Hid; rw [vm, HV.out.2.2, HE.out, one_val]; omega
                  have lm : ms.length ≤ 32 := by
                    rw [can_len_pw cm, vm]
                    have h5 := (can_len_pw hct 32).1 lt
                    rw [HE.out, one_val]
                    omega
                  clear vm
                  have lu2 : us.length ≤ 32 := by
                    rw [can_len_pw HU.out.2, HU.out.1]
                    have h5 := (can_len_pw HLc.out 32).1 l9
                    rw [HLv.out] at h5
                    omega
                  by_cases hbig : 32 < qs.length
                  · have HB : Great (binom N L) := by
                      constructor
                      have h5 : ¬ val qs < pw 32 := fun h => by have := (can_len_pw HQ.out.1 32).2 h; omega
                      have h6 := binom_below hcond (L - (j + 1)) (j + 1) (by omega)
                      rw [HQ.out.2] at h5
                      omega
                    have R4 := R.below t7
                    have q0 := R4.box.c0
                    have q1' := R4.box.c1
                    have q2' := R4.box.c2
                    have p0 := R4.box.f0
                    have p1' := R4.box.f1
                    have p2' := R4.box.f2
                    go_wp2
                    have hR3 := R4.box.set (.bool false) (.slice none 0 0) (.slice none 0 0)
                    have r0 := hR3.c0
                    have r1 := hR3.c1
                    have r2 := hR3.c2
                    try simp only [Exit.inBlock, Exit.then]
                    refine bodyPost_ret (v := .tuple #[.agg #[.bool false, .slice none 0 0, .slice none 0 0], .int .i64 8]) ?_ rfl ?_
                    · simp [results, Tryz.results52, go_sem, r0, r1, r2]
                    exact ⟨false, [], [], 8, Or.inr (Or.inr (Or.inl ⟨⟨hx.out, hy.out⟩, HCC.out, by rw [← HNn.out.1, ← HKn.out.1, ← HLL.out.2]; exact HB.is, rfl, rfl, rfl, rfl⟩)), Below.set3 (g.trans (t7.mono g.size)) sr _ _ _, none, 0, none, 0, rfl, nil_rd _, nil_rd _⟩
                  · go_wp2
                    go_roundg (L - (j + 1))
                    case rel => exact ⟨j + 1, qs, us, ms, p6, q6, p4, q4, p10, q10, rfl, rfl, rfl, rfl, by omega, HQ.out.1, HU.out.2, cm, ⟨HQ.out.2, by rw [HU.out.1]; rfl, HM.out⟩, by omega, lu2, lm, rq, ru, om.rd, t7⟩
                    case measure => rw [hgk.out]; omega
                · obtain rfl : j = L := by omega
                  rw [cmpI_eq (rfl : (j : Int) = (j : Int))]
                  go_wp2_with fail
                  refine (refOne_any _).mono ?_
                  rintro e w2 ⟨ds, p7, q7, HD, rfl, od, k2⟩
                  have t2 : Below wq.heap.size wq w2 := t1.trans (k2.mono t1.size)
                  have ld : ds.length ≤ 10000 := by rw [HD.out]; simp
                  replace rc := (rc.below k2).mono k2.size
                  go_wp2_with fail
                  refine (refMake_rat rc od.rd (by omega) ld (by rw [HD.out, one_val]; decide)).mono ?_
                  intro e w3 hm6
                  rw [HD.out, one_val, sg_false, HV.out.1] at hm6
                  obtain ⟨bm6, b6, x5, n5, y5, x6, n6, y6, err, rfl, hform⟩ := (RMakes.from' t2 hm6).form
                  have RF := R.below bm6
                  have q0 := RF.box.c0
                  have q1' := RF.box.c1
                  have q2' := RF.box.c2
                  have p0 := RF.box.f0
                  have p1' := RF.box.f1
                  have p2' := RF.box.f2
                  go_wp2
                  have hR3 := RF.box.set (.bool b6) (.slice x5 n5 y5) (.slice x6 n6 y6)
                  have r0 := hR3.c0
                  have r1 := hR3.c1
                  have r2 := hR3.c2
                  try simp only [Exit.inBlock, Exit.then]
                  refine bodyPost_ret (v := .tuple #[.agg #[.bool b6, .slice x5 n5 y5, .slice x6 n6 y6], .int .i64 err]) ?_ rfl ?_
                  · simp [results, Tryz.results52, go_sem, r0, r1, r2]
                  have hfin := rmakes_count (P := RightP bx xn xd ∧ RightP cy yn yd) (C := IsCount bx xd ∧ IsCount cy yd) ⟨hx.out, hy.out⟩ HCC.out (binom_pos (n := N) (k := j) (by omega)) (rform_done g sr R.lt bm6 hform)
                  rw [← HNn.out.1, ← HKn.out.1, ← HLL.out.2]
                  exact hfin
            · rw [cmpI_gt hc]
              obtain ⟨L, hLe⟩ : ∃ L, L = K := ⟨_, rfl⟩
              have HLv : Hid (val xn = (L : Int)) := by unfold Hid; rw [hLe]; exact HKn.out.2
              have HLc : Hid (can xn) := hx.out.2.2.1
              have HLL : Hid (2 * L ≤ N ∧ binom N L = binom N K) := ⟨by omega, by rw [hLe]⟩
              have LS := X.rn
              clear hc hLe
              have hcond : 2 * L ≤ N := HLL.out.1
              have l9 : xn.length ≤ 32 := by rw [can_len_pw HLc.out]; rw [HLv.out]; have h5 := (can_len_pw hy.out.2.2.1 32).1 l3; rw [HNn.out.2] at h5; omega
              obtain ⟨Y0, Y1, Y2⟩ := Y.cells
              go_wp2_with fail
              clear Y0 Y1 Y2
              refine (refOne_any _).mono ?_
              rintro e wq ⟨t0, p1, q1, HS0, rfl, os0, kq⟩
              replace LS := (LS.below kq).mono kq.size
              replace X := X.below kq
              replace Y := Y.below kq
              replace R := R.below kq
              replace g := g.trans (kq.mono g.size)
              clear kq
              have c0 : Hid (can t0 ∧ t0.length ≤ 32 ∧ val t0 = 1) := by
                unfold Hid; rw [HS0.out]; exact ⟨can_one, by simp, one_val⟩
              have rs0 := os0.rd
              obtain ⟨Y0, Y1, Y2⟩ := Y.cells
              go_wp2
              clear Y0 Y1 Y2
              go_loopg [9, 10, 11] L (fun gk cv iv tv wr => ∃ (j : Nat) (cs is ts : List Int) (a : Option Addr) (c : Nat) (a' : Option Addr) (c' : Nat) (a'' : Option Addr) (c'' : Nat), Hid (gk = L - j) ∧ cv = .slice a cs.length c ∧ iv = .slice a' is.length c' ∧ tv = .slice a'' ts.length c'' ∧ j ≤ L ∧ can cs ∧ can is ∧ can ts ∧ Hid (val cs = (binom N j : Int) ∧ val is = (j : Int) ∧ val ts = (N : Int) - (j : Int)) ∧ cs.length ≤ 32 ∧ is.length ≤ 32 ∧ ts.length ≤ 32 ∧ Rd wr.heap.size wr (.slice a cs.length c) cs ∧ Rd wr.heap.size wr (.slice a' is.length c') is ∧ Rd wr.heap.size wr (.slice a'' ts.length c'') ts ∧ Below wq.heap.size wq wr)
              case atStart => exact ⟨0, t0, [], yn, p1, q1, none, 0, a3, c3, rfl, rfl, rfl, rfl, Nat.zero_le _, c0.out.1, ⟨lim_nil, Or.inl rfl⟩, hy.out.2.2.1, ⟨by rw [c0.out.2.2, binom_zero]; rfl, rfl, by rw [HNn.out.2]; omega⟩, c0.out.2.1, by simp, l3, rs0, nil_rd _, Y.rn, Below.refl _ _⟩
              case round =>
                obtain ⟨j, cs, is, ts, a, c, a', c', a'', c'', hgk, rfl, rfl, rfl, hj, hcs, hci, hct, HV, lc, li, lt, rc, ri, rt, tr⟩ := hrel
                have LR := (LS.below tr).mono tr.size
                go_wp2_with fail
                refine (refCompare_rd ri LR (Nat.le_refl _) (by omega) (by omega)).mono ?_
                rintro e w1 ⟨rfl, k1⟩
                have t1 : Below wq.heap.size wq w1 := tr.trans (k1.mono tr.size)
                rw [HV.out.2.1, HLv.out]
                replace rc := (rc.below k1).mono k1.size
                replace ri := (ri.below k1).mono k1.size
                replace rt := (rt.below k1).mono k1.size
                by_cases hlt : j < L
                · rw [cmpI_lt (show (j : Int) < (L : Int) by omega)]
                  go_wp2_with fail
                  refine (refOne_any _).mono ?_
                  rintro e w2 ⟨ds, p7, q7, HD, rfl, od, k2⟩
                  have t2 : Below wq.heap.size wq w2 := t1.trans (k2.mono t1.size)
                  have ld : ds.length ≤ 1 := by rw [HD.out]; exact Nat.le_refl _
                  replace rc := (rc.below k2).mono k2.size
                  replace ri := (ri.below k2).mono k2.size
                  replace rt := (rt.below k2).mono k2.size
                  go_wp2_with fail
                  refine (refAdd_any ri (Nat.le_refl _) od.rd (Nat.le_refl _) (by omega) (by omega)).mono ?_
                  rintro e w3 ⟨us, cu, vu, lu, p4, q4, rfl, ou, k3⟩
                  have t3 : Below wq.heap.size wq w3 := t2.trans (k3.mono t2.size)
                  replace rc := (rc.below k3).mono k3.size
                  replace rt := (rt.below k3).mono k3.size
                  have HU : Hid (val us = (j : Int) + 1 ∧ can us) := ⟨by rw [vu, HV.out.2.1, HD.out, one_val], cu⟩
                  clear vu cu
                  have ru := ou.rd
                  go_wp2_with fail
                  refine (refMul_any rc (Nat.le_refl _) rt (Nat.le_refl _) (by omega) (by omega)).mono ?_
                  rintro e w4 ⟨zs, cz, vz, lz, p5, q5, rfl, oz, k4⟩
                  have t4 : Below wq.heap.size wq w4 := t3.trans (k4.mono t3.size)
                  replace ru := (ru.below k4).mono k4.size
                  replace rt := (rt.below k4).mono k4.size
                  have HZ : Hid (val zs = (binom N (j + 1) : Int) * ((j : Int) + 1)) := by
                    unfold Hid
                    rw [vz, HV.out.1, HV.out.2.2]
                    have h5 := binom_up (n := N) (j := j) (by omega)
                    have h6 : ((binom N (j + 1) * (j + 1) : Nat) : Int) = ((binom N j * (N - j) : Nat) : Int) := by rw [h5]
                    rw [Int.natCast_mul, Int.natCast_mul, Int.natCast_sub (by omega)] at h6
                    exact h6.symm
                  clear vz
                  go_wp2_with fail
                  refine (refDivMod_form oz.rd (Nat.le_refl _) ru (Nat.le_refl _) (by omega) (by omega)).mono ?_
                  rintro e w5 ⟨qs, rs, p6, q6, p8, q8, bq, rfl, oq, or, HQ0, k5⟩
                  have t5 : Below wq.heap.size wq w5 := t4.trans (k5.mono t4.size)
                  replace ru := (ru.below k5).mono k5.size
                  replace rt := (rt.below k5).mono k5.size
                  have HQ : Hid (can qs ∧ val qs = (binom N (j + 1) : Int)) := by
                    rcases HQ0.out with ⟨h5, _⟩ | ⟨_, hb5, cq, cr, hv5, hl5⟩
                    · have := HU.out.1; omega
                    · have h5 := div_unique hv5 (val_bound cr.1).1 hl5
                      have h6 := div_unique (n := val zs) (d := val us) (q := (binom N (j + 1) : Int)) (r := 0) (by rw [HZ.out, HU.out.1, Int.add_zero]) (by omega) (by rw [HU.out.1]; omega)
                      exact ⟨cq, by rw [h5.1, h6.1]⟩
                  clear HQ0
                  have rq := oq.rd
                  go_wp2_with fail
                  refine (refOne_any _).mono ?_
                  rintro e w6 ⟨es, p9, q9, HE, rfl, oe, k6⟩
                  have t6 : Below wq.heap.size wq w6 := t5.trans (k6.mono t5.size)
                  have le1 : es.length ≤ 1 := by rw [HE.out]; exact Nat.le_refl _
                  replace ru := (ru.below k6).mono k6.size
                  replace rt := (rt.below k6).mono k6.size
                  replace rq := (rq.below k6).mono k6.size
                  go_wp2_with fail
                  refine (refMinus_any rt (Nat.le_refl _) oe.rd (Nat.le_refl _) (by omega) (by omega)).mono ?_
                  rintro e w7 ⟨k7, hm⟩
                  rw [if_neg (by rw [HV.out.2.2, HE.out, one_val]; omega)] at hm
                  obtain ⟨ms, p10, q10, cm, vm, rfl, om⟩ := hm
                  have t7 : Below wq.heap.size wq w7 := t6.trans (k7.mono t6.size)
                  replace ru := (ru.below k7).mono k7.size
                  replace rq := (rq.below k7).mono k7.size
                  have HM : Hid (val ms = (N : Int) - ((j + 1 : Nat) : Int)) := by unfold Hid; rw [vm, HV.out.2.2, HE.out, one_val]; omega
                  have lm : ms.length ≤ 32 := by
                    rw [can_len_pw cm, vm]
                    have h5 := (can_len_pw hct 32).1 lt
                    rw [HE.out, one_val]
                    omega
                  clear vm
                  have lu2 : us.length ≤ 32 := by
                    rw [can_len_pw HU.out.2, HU.out.1]
                    have h5 := (can_len_pw HLc.out 32).1 l9
                    rw [HLv.out] at h5
                    omega
                  by_cases hbig : 32 < qs.length
                  · have HB : Great (binom N L) := by
                      constructor
                      have h5 : ¬ val qs < pw 32 := fun h => by have := (can_len_pw HQ.out.1 32).2 h; omega
                      have h6 := binom_below hcond (L - (j + 1)) (j + 1) (by omega)
                      rw [HQ.out.2] at h5
                      omega
                    have R4 := R.below t7
                    have q0 := R4.box.c0
                    have q1' := R4.box.c1
                    have q2' := R4.box.c2
                    have p0 := R4.box.f0
                    have p1' := R4.box.f1
                    have p2' := R4.box.f2
                    go_wp2
                    have hR3 := R4.box.set (.bool false) (.slice none 0 0) (.slice none 0 0)
                    have r0 := hR3.c0
                    have r1 := hR3.c1
                    have r2 := hR3.c2
                    try simp only [Exit.inBlock, Exit.then]
                    refine bodyPost_ret (v := .tuple #[.agg #[.bool false, .slice none 0 0, .slice none 0 0], .int .i64 8]) ?_ rfl ?_
                    · simp [results, Tryz.results52, go_sem, r0, r1, r2]
                    exact ⟨false, [], [], 8, Or.inr (Or.inr (Or.inl ⟨⟨hx.out, hy.out⟩, HCC.out, by rw [← HNn.out.1, ← HKn.out.1, ← HLL.out.2]; exact HB.is, rfl, rfl, rfl, rfl⟩)), Below.set3 (g.trans (t7.mono g.size)) sr _ _ _, none, 0, none, 0, rfl, nil_rd _, nil_rd _⟩
                  · go_wp2
                    go_roundg (L - (j + 1))
                    case rel => exact ⟨j + 1, qs, us, ms, p6, q6, p4, q4, p10, q10, rfl, rfl, rfl, rfl, by omega, HQ.out.1, HU.out.2, cm, ⟨HQ.out.2, by rw [HU.out.1]; rfl, HM.out⟩, by omega, lu2, lm, rq, ru, om.rd, t7⟩
                    case measure => rw [hgk.out]; omega
                · obtain rfl : j = L := by omega
                  rw [cmpI_eq (rfl : (j : Int) = (j : Int))]
                  go_wp2_with fail
                  refine (refOne_any _).mono ?_
                  rintro e w2 ⟨ds, p7, q7, HD, rfl, od, k2⟩
                  have t2 : Below wq.heap.size wq w2 := t1.trans (k2.mono t1.size)
                  have ld : ds.length ≤ 10000 := by rw [HD.out]; simp
                  replace rc := (rc.below k2).mono k2.size
                  go_wp2_with fail
                  refine (refMake_rat rc od.rd (by omega) ld (by rw [HD.out, one_val]; decide)).mono ?_
                  intro e w3 hm6
                  rw [HD.out, one_val, sg_false, HV.out.1] at hm6
                  obtain ⟨bm6, b6, x5, n5, y5, x6, n6, y6, err, rfl, hform⟩ := (RMakes.from' t2 hm6).form
                  have RF := R.below bm6
                  have q0 := RF.box.c0
                  have q1' := RF.box.c1
                  have q2' := RF.box.c2
                  have p0 := RF.box.f0
                  have p1' := RF.box.f1
                  have p2' := RF.box.f2
                  go_wp2
                  have hR3 := RF.box.set (.bool b6) (.slice x5 n5 y5) (.slice x6 n6 y6)
                  have r0 := hR3.c0
                  have r1 := hR3.c1
                  have r2 := hR3.c2
                  try simp only [Exit.inBlock, Exit.then]
                  refine bodyPost_ret (v := .tuple #[.agg #[.bool b6, .slice x5 n5 y5, .slice x6 n6 y6], .int .i64 err]) ?_ rfl ?_
                  · simp [results, Tryz.results52, go_sem, r0, r1, r2]
                  have hfin := rmakes_count (P := RightP bx xn xd ∧ RightP cy yn yd) (C := IsCount bx xd ∧ IsCount cy yd) ⟨hx.out, hy.out⟩ HCC.out (binom_pos (n := N) (k := j) (by omega)) (rform_done g sr R.lt bm6 hform)
                  rw [← HNn.out.1, ← HKn.out.1, ← HLL.out.2]
                  exact hfin
end
end Go.Proofs.YtidbebfendjnlaaGreatDoor

/- The document's Power. -/
namespace Go.Proofs.YtidbebfendjnlaaGreatDoor
set_option linter.unusedVariables false
set_option linter.unusedSimpArgs false
open Go.RowKit
section
variable {w : World} {bx cy : Bool} {a1 a2 a3 a4 : Option Addr} {c1 c2 c3 c4 : Nat} {xn xd yn yd : List Int}
set_option maxRecDepth 100000 in
set_option maxHeartbeats 32000000 in
theorem refPower_rat (h1 : Rd w.heap.size w (.slice a1 xn.length c1) xn) (h2 : Rd w.heap.size w (.slice a2 xd.length c2) xd) (h3 : Rd w.heap.size w (.slice a3 yn.length c3) yn) (h4 : Rd w.heap.size w (.slice a4 yd.length c4) yd) :
    Calls Tryz.prog 48 #[.agg #[.bool bx, .slice a1 xn.length c1, .slice a2 xd.length c2], .agg #[.bool cy, .slice a3 yn.length c3, .slice a4 yd.length c4]] w fun e w' => ∃ c ns ds err, Hid (PowSpec (RightP bx xn xd ∧ RightP cy yn yd) bx xn xd cy yn yd c ns ds err) ∧ RAns w c ns ds err e w' := by
  obtain ⟨X, Y, R, g⟩ := in2_r (bx := bx) (cy := cy) w h1 h2 h3 h4
  have sr : w.heap.size ≤ w.heap.size + 1 + 1 := by omega
  have nx : w.heap.size ≠ w.heap.size + 1 + 1 := by omega
  have ny : w.heap.size + 1 ≠ w.heap.size + 1 + 1 := by omega
  clear h1 h2 h3 h4
  go_enter Tryz.func48, Tryz.ntmps48
  obtain ⟨X0, X1, X2⟩ := X.cells
  go_wp2_with fail
  clear X0 X1 X2
  generalize hA : ((w.alloc (.cells #[.bool bx, .slice a1 xn.length c1, .slice a2 xd.length c2] 25)).alloc (.cells #[.bool cy, .slice a3 yn.length c3, .slice a4 yd.length c4] 25)).alloc (.cells #[.bool false, .slice none 0 0, .slice none 0 0] 25) = v at *
  clear hA
  refine (refRight_rat X.rn X.rd).mono ?_
  rintro e wa ⟨⟨r, rfl, hr⟩, ka⟩
  replace X := X.below ka
  replace Y := Y.below ka
  replace R := R.below ka
  replace g := g.trans (ka.mono g.size)
  clear ka
  cases r with
  | false =>
    have HP : Hid (¬ RightP bx xn xd) := fun h => by have := hr.2 h; cases this
    clear hr
    have q0 := R.box.c0
    have q1 := R.box.c1
    have q2 := R.box.c2
    have p0 := R.box.f0
    have p1 := R.box.f1
    have p2 := R.box.f2
    go_wp2
    have hR3 := R.box.set (.bool false) (.slice none 0 0) (.slice none 0 0)
    have r0 := hR3.c0
    have r1 := hR3.c1
    have r2 := hR3.c2
    refine bodyPost_ret (v := .tuple #[.agg #[.bool false, .slice none 0 0, .slice none 0 0], .int .i64 22]) (by simp [results, Tryz.results48, go_sem, r0, r1, r2]) rfl ?_
    exact ⟨false, [], [], 22, Or.inl ⟨fun h => HP.out h.1, rfl, rfl, rfl, rfl⟩, Below.set3 g sr _ _ _, none, 0, none, 0, rfl, nil_rd _, nil_rd _⟩
  | true =>
    have hx : Hid (RightP bx xn xd) := hr.1 rfl
    clear hr
    obtain ⟨Y0, Y1, Y2⟩ := Y.cells
    go_wp2_with fail
    clear Y0 Y1 Y2
    refine (refRight_rat Y.rn Y.rd).mono ?_
    rintro e wb ⟨⟨r, rfl, hr⟩, kb⟩
    replace X := X.below kb
    replace Y := Y.below kb
    replace R := R.below kb
    replace g := g.trans (kb.mono g.size)
    clear kb
    cases r with
    | false =>
      have HP : Hid (¬ RightP cy yn yd) := fun h => by have := hr.2 h; cases this
      clear hr
      have q0 := R.box.c0
      have q1 := R.box.c1
      have q2 := R.box.c2
      have p0 := R.box.f0
      have p1 := R.box.f1
      have p2 := R.box.f2
      go_wp2
      have hR3 := R.box.set (.bool false) (.slice none 0 0) (.slice none 0 0)
      have r0 := hR3.c0
      have r1 := hR3.c1
      have r2 := hR3.c2
      refine bodyPost_ret (v := .tuple #[.agg #[.bool false, .slice none 0 0, .slice none 0 0], .int .i64 22]) (by simp [results, Tryz.results48, go_sem, r0, r1, r2]) rfl ?_
      exact ⟨false, [], [], 22, Or.inl ⟨fun h => HP.out h.2, rfl, rfl, rfl, rfl⟩, Below.set3 g sr _ _ _, none, 0, none, 0, rfl, nil_rd _, nil_rd _⟩
    | true =>
      have hy : Hid (RightP cy yn yd) := hr.1 rfl
      clear hr
      have l1 := hx.out.1
      have l2 := hx.out.2.1
      have l3 := hy.out.1
      have l4 := hy.out.2.1
      obtain ⟨Y0, Y1, Y2⟩ := Y.cells
      go_wp2_with fail
      clear Y0 Y1 Y2
      refine (refIsInt_rat Y.rn Y.rd).mono ?_
      rintro e wd ⟨⟨r, rfl, hr⟩, kd⟩
      replace X := X.below kd
      replace Y := Y.below kd
      replace R := R.below kd
      replace g := g.trans (kd.mono g.size)
      clear kd
      cases r with
      | false =>
        have HC : Hid (¬ yd = [1]) := fun h => by have := hr.2 ⟨hy.out, h⟩; cases this
        clear hr
        have q0 := R.box.c0
        have q1 := R.box.c1
        have q2 := R.box.c2
        have p0 := R.box.f0
        have p1 := R.box.f1
        have p2 := R.box.f2
        go_wp2
        have hR3 := R.box.set (.bool false) (.slice none 0 0) (.slice none 0 0)
        have r0 := hR3.c0
        have r1 := hR3.c1
        have r2 := hR3.c2
        refine bodyPost_ret (v := .tuple #[.agg #[.bool false, .slice none 0 0, .slice none 0 0], .int .i64 3]) (by simp [results, Tryz.results48, go_sem, r0, r1, r2]) rfl ?_
        exact ⟨false, [], [], 3, Or.inr (Or.inl ⟨⟨hx.out, hy.out⟩, Or.inl HC.out, rfl, rfl, rfl, rfl⟩), Below.set3 g sr _ _ _, none, 0, none, 0, rfl, nil_rd _, nil_rd _⟩
      | true =>
        have HO : Hid (yd = [1]) := (hr.1 rfl).2
        clear hr
        by_cases hy0 : 0 < yn.length
        · have hyb : ((yn.length : Int) == 0) = false := by rw [beq_eq_false_iff_ne]; omega
          by_cases hx0 : 0 < xn.length
          · have hxb : ((xn.length : Int) == 0) = false := by rw [beq_eq_false_iff_ne]; omega
            have HXZ : Hid (¬ (xn.length = 0 ∧ cy = true)) := fun h => by have := h.1; omega
            have HXZ2 : Hid (¬ (0 < yn.length ∧ xn.length = 0 ∧ cy = true)) := fun h => by have := h.2.1; omega
            have HYv : Hid (0 < val yn) := by
              have h5 := can_low hy.out.2.2.1 hy0
              have h6 := pw_pos (yn.length - 1)
              unfold Hid
              omega
            have HXp : Hid (0 < val xn) := by
              have h5 := can_low hx.out.2.2.1 hx0
              have h6 := pw_pos (xn.length - 1)
              unfold Hid
              omega
            obtain ⟨N, HN⟩ : ∃ N : Nat, Hid (N = (val yn).toNat ∧ val yn = (N : Int)) := ⟨(val yn).toNat, rfl, by have := (right_pos hy.out).2; omega⟩
            obtain ⟨pb, po, rfl, hyc, hym⟩ := rd_head Y.rn hy0
            have ho := val_odd hy.out.2.2.1.1
            have hw1 := and_one_u32 (yn.getD 0 0) ho.2.1 ho.2.2
            have hc0 := rd_cell0 Y.rn hy0
            have HOd : Hid ((yn.getD 0 0 % 2 == 1) = decide (N % 2 = 1)) := by
              unfold Hid
              have h5 := HN.out.2
              by_cases h6 : yn.getD 0 0 % 2 = 1
              · rw [beq_iff_eq.2 h6, decide_eq_true (by omega)]
              · rw [beq_eq_false_iff_ne.2 h6, decide_eq_false (by omega)]
            clear ho
            generalize hy00 : yn.getD 0 0 = y00 at *
            clear hy00
            obtain ⟨X0, X1, X2⟩ := X.cells
            obtain ⟨Y0, Y1, Y2⟩ := Y.cells
            go_upto_region 12 with fail
            go_cut [7] from 57 to 61 (fun c wx => c = .bool (bx && (y00 % 2 == 1)) ∧ wx = wd)
            case first =>
              cases bx with
              | false => go_wp2_with fail; go_meet; exact ⟨rfl, rfl⟩
              | true => go_wp2_with fail; go_meet; exact ⟨rfl, rfl⟩
            case rest =>
            obtain ⟨rfl, rfl⟩ := hcut
            have HSG0 : Hid (∀ V : Int, sg bx V ^ N = sg (bx && (y00 % 2 == 1)) (V ^ N)) := fun V => by rw [sg_pow, ← HOd.out]
            obtain ⟨ob, HOB⟩ : ∃ ob, Hid (ob = (bx && (y00 % 2 == 1))) := ⟨_, rfl⟩
            have HSG : Hid (∀ V : Int, sg bx V ^ N = sg ob (V ^ N)) := by rw [HOB.out]; exact HSG0.out
            rw [← HOB.out]
            clear HSG0 HOB HOd hw1
            clear X0 X1 X2 Y0 Y1 Y2
            go_upto_region 13 with fail
            go_cut [71] from 62 to 71 (fun c wx => c = .bool (decide (xn = [1] ∧ xd = [1])) ∧ Below wc.heap.size wc wx)
            case first =>
              have hcells : ∀ {w' : World}, Below wc.heap.size wc w' → w'.cell? ⟨w.heap.size, 0, none⟩ = some (.bool bx) ∧ w'.cell? ⟨w.heap.size, 1, none⟩ = some (.slice a1 xn.length c1) ∧ w'.cell? ⟨w.heap.size, 2, none⟩ = some (.slice a2 xd.length c2) := fun hb => (X.below hb).cells
              obtain ⟨X0, X1, X2⟩ := X.cells
              by_cases hone : xn = [1]
              · have HX1 : Hid (xn = [1]) := hone
                clear hone
                by_cases hone : xd = [1]
                · have HX2 : Hid (xd = [1]) := hone
                  clear hone
                  go_region_held3 (fun w' => w'.cell? ⟨w.heap.size, 0, none⟩ = some (.bool bx) ∧ w'.cell? ⟨w.heap.size, 1, none⟩ = some (.slice a1 xn.length c1) ∧ w'.cell? ⟨w.heap.size, 2, none⟩ = some (.slice a2 xd.length c2))
                    (first | (go_keep; done) | exact tw1 | exact tw2 | exact tw3 | exact tw4)
                    (first
                      | (have j := tw3; go_at_call_of 70 (Value.slice a2 xd.length c2); refine (refSame_any (X.below t3).rd od2.rd).mono ?_; rintro e u4 ⟨rfl, j4⟩; have t4 : Below wc.heap.size wc u4 := t3.trans (j4.mono t3.size); have tw4 := hcells t4; have he2 : decide (xd = ds2) = true := (decide_eq_true (HX2.out.trans HD2.out.symm)); rw [he2])
                      | (have j := tw2; go_at_call 66; refine (refOne_any _).mono ?_; rintro e u3 ⟨ds2, o2, oc2, HD2, rfl, od2, j3⟩; have t3 : Below wc.heap.size wc u3 := t2.trans (j3.mono t2.size); have tw3 := hcells t3)
                      | (have j := tw1; go_at_call_of 70 (Value.slice a1 xn.length c1); refine (refSame_any (X.below t1).rn od1.rd).mono ?_; rintro e u2 ⟨rfl, j2⟩; have t2 : Below wc.heap.size wc u2 := t1.trans (j2.mono t1.size); have tw2 := hcells t2; have he1 : decide (xn = ds1) = true := (decide_eq_true (HX1.out.trans HD1.out.symm)); rw [he1])
                      | (go_at_call 66; refine (refOne_any wc.drew).mono ?_; rintro e u1 ⟨ds1, o1, oc1, HD1, rfl, od1, j1⟩; have t1 : Below wc.heap.size wc u1 := below_undrew (w := wc) (B := wc.heap.size) j1; have tw1 := hcells t1))
                  all_goals
                    go_wp2_with fail
                    go_meet
                    exact ⟨by rw [decide_eq_true ⟨HX1.out, HX2.out⟩], t4⟩
                · have HX2 : Hid (¬ xd = [1]) := hone
                  clear hone
                  go_region_held3 (fun w' => w'.cell? ⟨w.heap.size, 0, none⟩ = some (.bool bx) ∧ w'.cell? ⟨w.heap.size, 1, none⟩ = some (.slice a1 xn.length c1) ∧ w'.cell? ⟨w.heap.size, 2, none⟩ = some (.slice a2 xd.length c2))
                    (first | (go_keep; done) | exact tw1 | exact tw2 | exact tw3 | exact tw4)
                    (first
                      | (have j := tw3; go_at_call_of 70 (Value.slice a2 xd.length c2); refine (refSame_any (X.below t3).rd od2.rd).mono ?_; rintro e u4 ⟨rfl, j4⟩; have t4 : Below wc.heap.size wc u4 := t3.trans (j4.mono t3.size); have tw4 := hcells t4; have he2 : decide (xd = ds2) = false := (decide_eq_false (fun h => HX2.out (h.trans HD2.out))); rw [he2])
                      | (have j := tw2; go_at_call 66; refine (refOne_any _).mono ?_; rintro e u3 ⟨ds2, o2, oc2, HD2, rfl, od2, j3⟩; have t3 : Below wc.heap.size wc u3 := t2.trans (j3.mono t2.size); have tw3 := hcells t3)
                      | (have j := tw1; go_at_call_of 70 (Value.slice a1 xn.length c1); refine (refSame_any (X.below t1).rn od1.rd).mono ?_; rintro e u2 ⟨rfl, j2⟩; have t2 : Below wc.heap.size wc u2 := t1.trans (j2.mono t1.size); have tw2 := hcells t2; have he1 : decide (xn = ds1) = true := (decide_eq_true (HX1.out.trans HD1.out.symm)); rw [he1])
                      | (go_at_call 66; refine (refOne_any wc.drew).mono ?_; rintro e u1 ⟨ds1, o1, oc1, HD1, rfl, od1, j1⟩; have t1 : Below wc.heap.size wc u1 := below_undrew (w := wc) (B := wc.heap.size) j1; have tw1 := hcells t1))
                  all_goals
                    go_wp2_with fail
                    go_meet
                    exact ⟨by rw [decide_eq_false (fun h => HX2.out h.2)], t4⟩
              · have HX1 : Hid (¬ xn = [1]) := hone
                clear hone
                first
                | go_region_with (first
                    | (have j := tw1; go_at_call_of 70 (Value.slice a1 xn.length c1); refine (refSame_any (X.below t1).rn od1.rd).mono ?_; rintro e u2 ⟨rfl, j2⟩; have t2 : Below wc.heap.size wc u2 := t1.trans (j2.mono t1.size); have tw2 := hcells t2; have he1 : decide (xn = ds1) = false := (decide_eq_false (fun h => HX1.out (h.trans HD1.out))); rw [he1])
                    | (go_at_call 66; refine (refOne_any wc.drew).mono ?_; rintro e u1 ⟨ds1, o1, oc1, HD1, rfl, od1, j1⟩; have t1 : Below wc.heap.size wc u1 := below_undrew (w := wc) (B := wc.heap.size) j1; have tw1 := hcells t1))
                | fail
                all_goals
                  go_wp2_with fail
                  go_meet
                  exact ⟨by rw [decide_eq_false (fun h => HX1.out h.1)], t2⟩
            case rest =>
            obtain ⟨rfl, t13⟩ := hcut
            replace X := X.below t13
            replace Y := Y.below t13
            replace R := R.below t13
            replace g := g.trans (t13.mono g.size)
            clear t13
            by_cases hone : xn = [1] ∧ xd = [1]
            · rw [decide_eq_true hone]
              have HX1 : Hid (xn = [1]) := hone.1
              have HX2 : Hid (xd = [1]) := hone.2
              clear hone
              have R1 := R
              go_wp2_with fail
              refine (refOne_any _).mono ?_
              rintro e wo3 ⟨ds3, o3, oc3, HD3, rfl, od3, ko3⟩
              replace X := X.below ko3
              replace Y := Y.below ko3
              replace R := R.below ko3
              replace g := g.trans (ko3.mono g.size)
              have R2 := R
              go_wp2_with fail
              refine (refOne_any _).mono ?_
              rintro e wo4 ⟨ds4, o4, oc4, HD4, rfl, od4, ko4⟩
              replace X := X.below ko4
              replace Y := Y.below ko4
              replace R := R.below ko4
              replace g := g.trans (ko4.mono g.size)
              have od3' := od3.below ko4 (Nat.le_refl _)
              have HS := pow_fin (b := ob) (A := 1) (D := 1) (N := N) (zs := ds3) (us := ds4) (by rw [HD3.out]; exact can_one) (by rw [HD4.out]; exact can_one) (by rw [HD3.out, Int.one_pow]; rfl) (by rw [HD4.out, Int.one_pow]; rfl) (by decide) (by decide) (by decide) (by rw [Int.one_pow]; exact one_lt_pw) (by rw [Int.one_pow]; exact one_lt_pw)
              have HPN : Hid (pnum cy xn xd = 1 ∧ pden cy xn xd = 1) := by
                unfold Hid pnum pden
                rw [HX1.out, HX2.out]
                cases cy <;> exact ⟨rfl, rfl⟩
              have HSS : Hid (RightP ob ds3 ds4 ∧ sg ob (val ds3) = sg ob (1 ^ N)) := HS
              clear HS
              have q0 := R.box.c0
              have q1 := R.box.c1
              have q2 := R.box.c2
              have p0 := R.box.f0
              have p1 := R.box.f1
              have p2 := R.box.f2
              go_wp2
              have hR3 := R.box.set (.bool ob) (.slice o3 ds3.length oc3) (.slice o4 ds4.length oc4)
              have r0 := hR3.c0
              have r1 := hR3.c1
              have r2 := hR3.c2
              refine bodyPost_ret (v := .tuple #[.agg #[.bool ob, .slice o3 ds3.length oc3, .slice o4 ds4.length oc4], .int .i64 0]) (by simp [results, Tryz.results48, go_sem, r0, r1, r2]) rfl ?_
              exact ⟨ob, ds3, ds4, 0, Or.inr (Or.inr (Or.inr ⟨⟨hx.out, hy.out⟩, HO.out, (by first | exact HXZ2.out | (have h5 := HXZ2.out; simpa using h5)), (by rw [HPN.out.1, Int.one_pow]; exact one_lt_pw), (by rw [HPN.out.2, Int.one_pow]; exact one_lt_pw), rfl, HSS.out.1, (by rw [← HN.out.1, HPN.out.1, HSS.out.2]; exact (HSG.out _).symm), (by rw [HPN.out.2, Int.one_pow, HD4.out]; rfl)⟩)), Below.set3 g sr _ _ _, o3, oc3, o4, oc4, rfl, (Own.set3 od3' R1.lt _ _ _).rd, (Own.set3 od4 R2.lt _ _ _).rd⟩
            · rw [decide_eq_false hone]
              have HNE : Hid (¬ (xn = [1] ∧ xd = [1])) := hone
              clear hone
              obtain ⟨X0, X1, X2⟩ := X.cells
              obtain ⟨Y0, Y1, Y2⟩ := Y.cells
              go_wp2_with fail
              clear X0 X1 X2 Y0 Y1 Y2
              refine (refSmall_any Y.rn (by omega)).mono ?_
              rintro e wc ⟨rfl, kc⟩
              replace X := X.below kc
              replace Y := Y.below kc
              replace R := R.below kc
              replace g := g.trans (kc.mono g.size)
              clear kc
              rw [HN.out.2]
              by_cases hs : (N : Int) < 9223372036854775808
              · rw [smallV_lt hs]
                by_cases hbig : 1024 < N
                · have HB : Hid (pw 32 ≤ pnum cy xn xd ^ (val yn).toNat ∨ pw 32 ≤ pden cy xn xd ^ (val yn).toNat) := pow_wide hx.out hx0 HNE.out (by rw [← HN.out.1]; omega)
                  have hd1 : decide ((N : Int) > 1024) = true := decide_eq_true (by omega)
                  have q0 := R.box.c0
                  have q1 := R.box.c1
                  have q2 := R.box.c2
                  have p0 := R.box.f0
                  have p1 := R.box.f1
                  have p2 := R.box.f2
                  go_wp2
                  have hR3 := R.box.set (.bool false) (.slice none 0 0) (.slice none 0 0)
                  have r0 := hR3.c0
                  have r1 := hR3.c1
                  have r2 := hR3.c2
                  refine bodyPost_ret (v := .tuple #[.agg #[.bool false, .slice none 0 0, .slice none 0 0], .int .i64 8]) (by simp [results, Tryz.results48, go_sem, r0, r1, r2]) rfl ?_
                  exact ⟨false, [], [], 8, Or.inr (Or.inr (Or.inl ⟨⟨hx.out, hy.out⟩, HO.out, hy0, (by first | exact HXZ.out | (have h5 := HXZ.out; simpa using h5)), HB.out, rfl, rfl, rfl, rfl⟩)), Below.set3 g sr _ _ _, none, 0, none, 0, rfl, nil_rd _, nil_rd _⟩
                · have hd1 : decide ((N : Int) > 1024) = false := decide_eq_false (by omega)
                  have g1 := g
                  have R1 := R
                  obtain ⟨X0, X1, X2⟩ := X.cells
                  obtain ⟨Y0, Y1, Y2⟩ := Y.cells
                  go_wp2_with fail
                  clear X0 X1 X2 Y0 Y1 Y2
                  have hcall := refPower_walk N 32 (val xn ^ N) X.rn (Nat.le_refl _) (by omega) (by omega) (by decide) rfl
                  refine hcall.mono ?_
                  clear hcall
                  rintro e w2 ⟨k2, hno, hyes⟩
                  replace X := X.below k2
                  replace Y := Y.below k2
                  replace R := R.below k2
                  replace g := g.trans (k2.mono g.size)
                  by_cases hf1 : val xn ^ N < pw 32
                  · obtain ⟨zs, z1, z2, cz, vz, rfl, oz⟩ := hyes hf1
                    have HZ : Hid (can zs ∧ val zs = val xn ^ N ∧ val xn ^ N < pw 32) := ⟨cz, vz, hf1⟩
                    clear hno hyes cz vz hf1
                    obtain ⟨X0, X1, X2⟩ := X.cells
                    obtain ⟨Y0, Y1, Y2⟩ := Y.cells
                    go_wp2_with fail
                    clear X0 X1 X2 Y0 Y1 Y2
                    have hcall := refPower_walk N 32 (val xd ^ N) X.rd (Nat.le_refl _) (by omega) (by omega) (by decide) rfl
                    refine hcall.mono ?_
                    clear hcall
                    rintro e w3 ⟨k3, hno, hyes⟩
                    replace X := X.below k3
                    replace Y := Y.below k3
                    replace R := R.below k3
                    replace g := g.trans (k3.mono g.size)
                    by_cases hf2 : val xd ^ N < pw 32
                    · obtain ⟨us, u1, u2, cu, vu, rfl, ou⟩ := hyes hf2
                      have HU : Hid (can us ∧ val us = val xd ^ N ∧ val xd ^ N < pw 32) := ⟨cu, vu, hf2⟩
                      clear hno hyes cu vu hf2
                      have HV : Hid (0 < val xn ∧ 0 < val xd ∧ gI (val xn) (val xd) = 1) := ⟨HXp.out, (right_pos hx.out).1, hx.out.2.2.2.2.2.2⟩
                      have ozz := oz.below k3 (Nat.le_refl _)
                      have ouu : Own w2.heap.size w3 (.slice u1 us.length u2) us := ou
                      have R2 := R1.below k2
                      cases cy with
                      | false =>
                        have HS := pow_fin (b := ob) HZ.out.1 HU.out.1 HZ.out.2.1 HU.out.2.1 HV.out.1 HV.out.2.1 HV.out.2.2 HZ.out.2.2 HU.out.2.2
                        have HSS : Hid (RightP ob zs us ∧ sg ob (val zs) = sg ob (val xn ^ N)) := HS
                        clear HS
                        obtain ⟨X0, X1, X2⟩ := X.cells
                        obtain ⟨Y0, Y1, Y2⟩ := Y.cells
                        have q0 := R.box.c0
                        have q1 := R.box.c1
                        have q2 := R.box.c2
                        have p0 := R.box.f0
                        have p1 := R.box.f1
                        have p2 := R.box.f2
                        go_wp2
                        have hR3 := R.box.set (.bool ob) (.slice z1 zs.length z2) (.slice u1 us.length u2)
                        have r0 := hR3.c0
                        have r1 := hR3.c1
                        have r2 := hR3.c2
                        refine bodyPost_ret (v := .tuple #[.agg #[.bool ob, .slice z1 zs.length z2, .slice u1 us.length u2], .int .i64 0]) (by simp [results, Tryz.results48, go_sem, r0, r1, r2]) rfl ?_
                        exact ⟨ob, zs, us, 0, Or.inr (Or.inr (Or.inr ⟨⟨hx.out, hy.out⟩, HO.out, (by first | exact HXZ2.out | (have h5 := HXZ2.out; simpa using h5)), (by rw [← HN.out.1]; exact HZ.out.2.2), (by rw [← HN.out.1]; exact HU.out.2.2), rfl, HSS.out.1, (by rw [← HN.out.1, HSS.out.2]; exact (HSG.out _).symm), (by rw [← HN.out.1]; exact HU.out.2.1)⟩)), Below.set3 g sr _ _ _, z1, z2, u1, u2, rfl, (Own.set3 ozz R1.lt _ _ _).rd, (Own.set3 ouu R2.lt _ _ _).rd⟩
                      | true =>
                        have HS := pow_fin (b := ob) HU.out.1 HZ.out.1 HU.out.2.1 HZ.out.2.1 HV.out.2.1 HV.out.1 (by rw [gI_comm]; exact HV.out.2.2) HU.out.2.2 HZ.out.2.2
                        have HSS : Hid (RightP ob us zs ∧ sg ob (val us) = sg ob (val xd ^ N)) := HS
                        clear HS
                        obtain ⟨X0, X1, X2⟩ := X.cells
                        obtain ⟨Y0, Y1, Y2⟩ := Y.cells
                        have q0 := R.box.c0
                        have q1 := R.box.c1
                        have q2 := R.box.c2
                        have p0 := R.box.f0
                        have p1 := R.box.f1
                        have p2 := R.box.f2
                        go_wp2
                        have hR3 := R.box.set (.bool ob) (.slice u1 us.length u2) (.slice z1 zs.length z2)
                        have r0 := hR3.c0
                        have r1 := hR3.c1
                        have r2 := hR3.c2
                        refine bodyPost_ret (v := .tuple #[.agg #[.bool ob, .slice u1 us.length u2, .slice z1 zs.length z2], .int .i64 0]) (by simp [results, Tryz.results48, go_sem, r0, r1, r2]) rfl ?_
                        exact ⟨ob, us, zs, 0, Or.inr (Or.inr (Or.inr ⟨⟨hx.out, hy.out⟩, HO.out, (by first | exact HXZ2.out | (have h5 := HXZ2.out; simpa using h5)), (by rw [← HN.out.1]; exact HU.out.2.2), (by rw [← HN.out.1]; exact HZ.out.2.2), rfl, HSS.out.1, (by rw [← HN.out.1, HSS.out.2]; exact (HSG.out _).symm), (by rw [← HN.out.1]; exact HZ.out.2.1)⟩)), Below.set3 g sr _ _ _, u1, u2, z1, z2, rfl, (Own.set3 ouu R2.lt _ _ _).rd, (Own.set3 ozz R1.lt _ _ _).rd⟩
                    · have he := hno (by omega)
                      subst he
                      have HB : Hid (pw 32 ≤ pnum cy xn xd ^ (val yn).toNat ∨ pw 32 ≤ pden cy xn xd ^ (val yn).toNat) := pow_big1 (by rw [← HN.out.1]; exact Or.inr (by omega))
                      clear hno hyes hf2
                      have q0 := R.box.c0
                      have q1 := R.box.c1
                      have q2 := R.box.c2
                      have p0 := R.box.f0
                      have p1 := R.box.f1
                      have p2 := R.box.f2
                      go_wp2
                      have hR3 := R.box.set (.bool false) (.slice none 0 0) (.slice none 0 0)
                      have r0 := hR3.c0
                      have r1 := hR3.c1
                      have r2 := hR3.c2
                      refine bodyPost_ret (v := .tuple #[.agg #[.bool false, .slice none 0 0, .slice none 0 0], .int .i64 8]) (by simp [results, Tryz.results48, go_sem, r0, r1, r2]) rfl ?_
                      exact ⟨false, [], [], 8, Or.inr (Or.inr (Or.inl ⟨⟨hx.out, hy.out⟩, HO.out, hy0, (by first | exact HXZ.out | (have h5 := HXZ.out; simpa using h5)), HB.out, rfl, rfl, rfl, rfl⟩)), Below.set3 g sr _ _ _, none, 0, none, 0, rfl, nil_rd _, nil_rd _⟩
                  · have he := hno (by omega)
                    subst he
                    have HBz : Hid (pw 32 ≤ val xn ^ N) := by unfold Hid; omega
                    clear hno hyes hf1
                    obtain ⟨X0, X1, X2⟩ := X.cells
                    obtain ⟨Y0, Y1, Y2⟩ := Y.cells
                    go_wp2_with fail
                    clear X0 X1 X2 Y0 Y1 Y2
                    have hcall := refPower_walk N 32 (val xd ^ N) X.rd (Nat.le_refl _) (by omega) (by omega) (by decide) rfl
                    refine hcall.mono ?_
                    clear hcall
                    rintro e w3 ⟨k3, hno, hyes⟩
                    replace X := X.below k3
                    replace Y := Y.below k3
                    replace R := R.below k3
                    replace g := g.trans (k3.mono g.size)
                    by_cases hf2 : val xd ^ N < pw 32
                    · obtain ⟨us, u1, u2, cu, vu, rfl, ou⟩ := hyes hf2
                      have HU : Hid (can us ∧ val us = val xd ^ N ∧ val xd ^ N < pw 32) := ⟨cu, vu, hf2⟩
                      clear hno hyes cu vu hf2
                      have HB : Hid (pw 32 ≤ pnum cy xn xd ^ (val yn).toNat ∨ pw 32 ≤ pden cy xn xd ^ (val yn).toNat) := pow_big1 (by rw [← HN.out.1]; exact Or.inl HBz.out)
                      have q0 := R.box.c0
                      have q1 := R.box.c1
                      have q2 := R.box.c2
                      have p0 := R.box.f0
                      have p1 := R.box.f1
                      have p2 := R.box.f2
                      go_wp2
                      have hR3 := R.box.set (.bool false) (.slice none 0 0) (.slice none 0 0)
                      have r0 := hR3.c0
                      have r1 := hR3.c1
                      have r2 := hR3.c2
                      refine bodyPost_ret (v := .tuple #[.agg #[.bool false, .slice none 0 0, .slice none 0 0], .int .i64 8]) (by simp [results, Tryz.results48, go_sem, r0, r1, r2]) rfl ?_
                      exact ⟨false, [], [], 8, Or.inr (Or.inr (Or.inl ⟨⟨hx.out, hy.out⟩, HO.out, hy0, (by first | exact HXZ.out | (have h5 := HXZ.out; simpa using h5)), HB.out, rfl, rfl, rfl, rfl⟩)), Below.set3 g sr _ _ _, none, 0, none, 0, rfl, nil_rd _, nil_rd _⟩
                    · have he := hno (by omega)
                      subst he
                      have HB : Hid (pw 32 ≤ pnum cy xn xd ^ (val yn).toNat ∨ pw 32 ≤ pden cy xn xd ^ (val yn).toNat) := pow_big1 (by rw [← HN.out.1]; exact Or.inr (by omega))
                      clear hno hyes hf2
                      have q0 := R.box.c0
                      have q1 := R.box.c1
                      have q2 := R.box.c2
                      have p0 := R.box.f0
                      have p1 := R.box.f1
                      have p2 := R.box.f2
                      go_wp2
                      have hR3 := R.box.set (.bool false) (.slice none 0 0) (.slice none 0 0)
                      have r0 := hR3.c0
                      have r1 := hR3.c1
                      have r2 := hR3.c2
                      refine bodyPost_ret (v := .tuple #[.agg #[.bool false, .slice none 0 0, .slice none 0 0], .int .i64 8]) (by simp [results, Tryz.results48, go_sem, r0, r1, r2]) rfl ?_
                      exact ⟨false, [], [], 8, Or.inr (Or.inr (Or.inl ⟨⟨hx.out, hy.out⟩, HO.out, hy0, (by first | exact HXZ.out | (have h5 := HXZ.out; simpa using h5)), HB.out, rfl, rfl, rfl, rfl⟩)), Below.set3 g sr _ _ _, none, 0, none, 0, rfl, nil_rd _, nil_rd _⟩
              · rw [smallV_ge (by omega)]
                have HB : Hid (pw 32 ≤ pnum cy xn xd ^ (val yn).toNat ∨ pw 32 ≤ pden cy xn xd ^ (val yn).toNat) := pow_wide hx.out hx0 HNE.out (by rw [← HN.out.1]; omega)
                have q0 := R.box.c0
                have q1 := R.box.c1
                have q2 := R.box.c2
                have p0 := R.box.f0
                have p1 := R.box.f1
                have p2 := R.box.f2
                go_wp2
                have hR3 := R.box.set (.bool false) (.slice none 0 0) (.slice none 0 0)
                have r0 := hR3.c0
                have r1 := hR3.c1
                have r2 := hR3.c2
                refine bodyPost_ret (v := .tuple #[.agg #[.bool false, .slice none 0 0, .slice none 0 0], .int .i64 8]) (by simp [results, Tryz.results48, go_sem, r0, r1, r2]) rfl ?_
                exact ⟨false, [], [], 8, Or.inr (Or.inr (Or.inl ⟨⟨hx.out, hy.out⟩, HO.out, hy0, (by first | exact HXZ.out | (have h5 := HXZ.out; simpa using h5)), HB.out, rfl, rfl, rfl, rfl⟩)), Below.set3 g sr _ _ _, none, 0, none, 0, rfl, nil_rd _, nil_rd _⟩
          · have hxb : ((xn.length : Int) == 0) = true := by rw [beq_iff_eq]; omega
            have Hx : Hid (xn.length = 0) := by unfold Hid; omega
            clear hx0
            cases cy with
            | true =>
              obtain ⟨X0, X1, X2⟩ := X.cells
              obtain ⟨Y0, Y1, Y2⟩ := Y.cells
              have q0 := R.box.c0
              have q1 := R.box.c1
              have q2 := R.box.c2
              have p0 := R.box.f0
              have p1 := R.box.f1
              have p2 := R.box.f2
              go_wp2
              have hR3 := R.box.set (.bool false) (.slice none 0 0) (.slice none 0 0)
              have r0 := hR3.c0
              have r1 := hR3.c1
              have r2 := hR3.c2
              refine bodyPost_ret (v := .tuple #[.agg #[.bool false, .slice none 0 0, .slice none 0 0], .int .i64 3]) (by simp [results, Tryz.results48, go_sem, r0, r1, r2]) rfl ?_
              exact ⟨false, [], [], 3, Or.inr (Or.inl ⟨⟨hx.out, hy.out⟩, Or.inr ⟨HO.out, hy0, Hx.out, rfl⟩, rfl, rfl, rfl, rfl⟩), Below.set3 g sr _ _ _, none, 0, none, 0, rfl, nil_rd _, nil_rd _⟩
            | false =>
              have HXv : Hid (val xn = 0 ∧ val xd = 1) := by
                have h5 := (can_zero hx.out.2.2.1).1 Hx.out
                have h6 := hx.out.2.2.2.2.2.2
                rw [h5, gI_zero_left _ (Int.le_of_lt (right_pos hx.out).1)] at h6
                exact ⟨h5, h6⟩
              have HYv : Hid (0 < (val yn).toNat) := by
                have h5 := can_low hy.out.2.2.1 hy0
                have h6 := pw_pos (yn.length - 1)
                unfold Hid
                omega
              have HPN : Hid (pnum false xn xd = 0 ∧ pden false xn xd = 1) := HXv
              have R9 := R
              obtain ⟨X0, X1, X2⟩ := X.cells
              obtain ⟨Y0, Y1, Y2⟩ := Y.cells
              go_wp2_with fail
              clear X0 X1 X2 Y0 Y1 Y2
              refine (refZero_any _).mono ?_
              rintro e wz ⟨ds, HD, kz, x5, y5, x6, y6, rfl, on, od⟩
              replace X := X.below kz
              replace Y := Y.below kz
              replace R := R.below kz
              replace g := g.trans (kz.mono g.size)
              have q0 := R.box.c0
              have q1 := R.box.c1
              have q2 := R.box.c2
              have p0 := R.box.f0
              have p1 := R.box.f1
              have p2 := R.box.f2
              go_wp2
              have hR3 := R.box.set (.bool false) (.slice x5 0 y5) (.slice x6 ds.length y6)
              have r0 := hR3.c0
              have r1 := hR3.c1
              have r2 := hR3.c2
              refine bodyPost_ret (v := .tuple #[.agg #[.bool false, .slice x5 0 y5, .slice x6 ds.length y6], .int .i64 0]) (by simp [results, Tryz.results48, go_sem, r0, r1, r2]) rfl ?_
              exact ⟨false, [], ds, 0, Or.inr (Or.inr (Or.inr ⟨⟨hx.out, hy.out⟩, HO.out, (fun h => by cases h.2.2), (by rw [HPN.out.1, Int.zero_pow (by have := HYv.out; omega)]; exact pw_pos 32), (by rw [HPN.out.2, Int.one_pow]; exact one_lt_pw), rfl, (by rw [HD.out]; exact right_zero), (by rw [HPN.out.1, sg_zero, Int.zero_pow (by have := HYv.out; omega)]; rfl), (by rw [HPN.out.2, Int.one_pow, HD.out]; rfl)⟩)), Below.set3 g sr _ _ _, x5, y5, x6, y6, rfl, (Own.set3 on R9.lt _ _ _).rd, (Own.set3 od R9.lt _ _ _).rd⟩
        · have hyb : ((yn.length : Int) == 0) = true := by rw [beq_iff_eq]; omega
          have HY0 : Hid ((val yn).toNat = 0 ∧ ¬ 0 < yn.length) := by
            refine ⟨?_, hy0⟩
            rw [(can_zero hy.out.2.2.1).1 (by omega)]
            rfl
          have R1 := R
          obtain ⟨Y0, Y1, Y2⟩ := Y.cells
          go_wp2_with fail
          clear Y0 Y1 Y2
          refine (refOfInt_any 1 (by omega) (by omega) _).mono ?_
          rintro e w2 ⟨k2, b1, ns, ds, x1, y1, x2, y2, HW, rfl, on, od⟩
          replace X := X.below k2
          replace Y := Y.below k2
          replace R := R.below k2
          replace g := g.trans (k2.mono g.size)
          have q0 := R.box.c0
          have q1 := R.box.c1
          have q2 := R.box.c2
          have p0 := R.box.f0
          have p1 := R.box.f1
          have p2 := R.box.f2
          go_wp2
          have hR3 := R.box.set (.bool b1) (.slice x1 ns.length y1) (.slice x2 ds.length y2)
          have r0 := hR3.c0
          have r1 := hR3.c1
          have r2 := hR3.c2
          refine bodyPost_ret (v := .tuple #[.agg #[.bool b1, .slice x1 ns.length y1, .slice x2 ds.length y2], .int .i64 0]) (by simp [results, Tryz.results48, go_sem, r0, r1, r2]) rfl ?_
          exact ⟨b1, ns, ds, 0, Or.inr (Or.inr (Or.inr ⟨⟨hx.out, hy.out⟩, HO.out, (fun h => HY0.out.2 h.1), (by rw [HY0.out.1, Int.pow_zero]; exact one_lt_pw), (by rw [HY0.out.1, Int.pow_zero]; exact one_lt_pw), rfl, HW.out.right, (by rw [HY0.out.1, HW.out.sg.1, Int.pow_zero]), (by rw [HY0.out.1, HW.out.sg.2, Int.pow_zero])⟩)), Below.set3 g sr _ _ _, x1, y1, x2, y2, rfl, (Own.set3 on R1.lt _ _ _).rd, (Own.set3 od R1.lt _ _ _).rd⟩
end
end Go.Proofs.YtidbebfendjnlaaGreatDoor

/- The walk over RatFunctions: residues, powers, factorials and binomials. -/
namespace Go.Proofs.YtidbebfendjnlaaGreatDoor
set_option linter.unusedVariables false
set_option linter.unusedSimpArgs false
open Go.RowKit

set_option maxRecDepth 100000 in
set_option maxHeartbeats 32000000 in
theorem ratFunctions_walk {w : World} {bx cy : Bool} {a1 a2 a3 a4 : Option Addr} {c1 c2 c3 c4 : Nat} {xn xd yn yd : List Int} (h1 : Rd w.heap.size w (.slice a1 xn.length c1) xn) (h2 : Rd w.heap.size w (.slice a2 xd.length c2) xd) (h3 : Rd w.heap.size w (.slice a3 yn.length c3) yn) (h4 : Rd w.heap.size w (.slice a4 yd.length c4) yd) (htab : Lib.TabIs Tryz.prog w "internal/strconv.uint64pow10" .u64 Lib.pow10Tab) :
    Calls Tryz.prog 8 #[.agg #[.bool bx, .slice a1 xn.length c1, .slice a2 xd.length c2], .agg #[.bool cy, .slice a3 yn.length c3, .slice a4 yd.length c4]] w fun e w' => e = .returned (.bool true) ∧ Below w.heap.size w w' := by
  obtain ⟨X, Y, g⟩ := nvar_in2 (bx := bx) (cy := cy) h1 h2 h3 h4
  have hD : RightP bx xn xd ∧ RightP cy yn yd → 0 < val yd * val xd := fun h => Int.mul_pos (right_pos h.2).1 (right_pos h.1).1
  clear h1 h2 h3 h4
  obtain ⟨X0, X1, X2⟩ := X.cells
  obtain ⟨Y0, Y1, Y2⟩ := Y.cells
  go_enter Tryz.func8, Tryz.ntmps8
  go_wp2_with fail
  clear X0 X1 X2 Y0 Y1 Y2
  generalize hA : ((w.alloc (.cells #[.bool bx, .slice a1 xn.length c1, .slice a2 xd.length c2] 25)).alloc (.cells #[.bool cy, .slice a3 yn.length c3, .slice a4 yd.length c4] 25)) = v1 at *
  clear hA
  refine (residue_rat X.rn X.rd Y.rn Y.rd).mono ?_
  intro e w2 hm
  obtain ⟨b1, n1, d1, e1, HS1, k3, u1p, v1p, x1p, y1p, rfl, rn1p, rd1p⟩ := hm.spec
  clear hm
  replace X := X.below k3
  replace Y := Y.below k3
  replace g := g.trans (k3.mono g.size)
  clear k3
  have neXP : w.heap.size ≠ w2.heap.size := Nat.ne_of_lt X.lt
  have neYP : (w.heap.size + 1) ≠ w2.heap.size := Nat.ne_of_lt Y.lt
  have leP : w.heap.size ≤ w2.heap.size := g.size
  have ka4 := below_alloc w2 (.cells #[.bool b1, .slice u1p n1.length v1p, .slice x1p d1.length y1p] 25)
  have P := nvar_new (b := b1) rn1p rd1p
  replace X := X.below ka4
  replace Y := Y.below ka4
  replace g := g.trans (ka4.mono g.size)
  clear ka4
  obtain ⟨X0, X1, X2⟩ := X.cells
  obtain ⟨Y0, Y1, Y2⟩ := Y.cells
  go_wp2_with fail
  clear X0 X1 X2 Y0 Y1 Y2
  generalize hA : (w2.alloc (.cells #[.bool b1, .slice u1p n1.length v1p, .slice x1p d1.length y1p] 25)) = v5 at *
  clear hA
  refine (refResidue_rat X.rn X.rd Y.rn Y.rd).mono ?_
  intro e w6 hm
  obtain ⟨k7, u1q, v1q, x1q, y1q, rfl, rn1q, rd1q⟩ := hm.same hD HS1
  clear hm HS1
  replace X := X.below k7
  replace Y := Y.below k7
  replace P := P.below k7
  replace g := g.trans (k7.mono g.size)
  clear k7
  have neXQ : w.heap.size ≠ w6.heap.size := Nat.ne_of_lt X.lt
  have neYQ : (w.heap.size + 1) ≠ w6.heap.size := Nat.ne_of_lt Y.lt
  have nePQ : w2.heap.size ≠ w6.heap.size := Nat.ne_of_lt P.lt
  have leQ : w.heap.size ≤ w6.heap.size := g.size
  have ka8 := below_alloc w6 (.cells #[.bool b1, .slice u1q n1.length v1q, .slice x1q d1.length y1q] 25)
  have Q := nvar_new (b := b1) rn1q rd1q
  replace X := X.below ka8
  replace Y := Y.below ka8
  replace P := P.below ka8
  replace g := g.trans (ka8.mono g.size)
  clear ka8
  go_wp2_with fail
  generalize hA : (w6.alloc (.cells #[.bool b1, .slice u1q n1.length v1q, .slice x1q d1.length y1q] 25)) = v9 at *
  clear hA
  refine (live_rat _ (tabIs_below htab g)).mono ?_
  rintro e w10 ⟨rfl, k11⟩
  replace X := X.below k11
  replace Y := Y.below k11
  replace P := P.below k11
  replace Q := Q.below k11
  replace g := g.trans (k11.mono g.size)
  clear k11
  obtain ⟨P0, P1, P2⟩ := P.cells
  obtain ⟨Q0, Q1, Q2⟩ := Q.cells
  go_wp2_with fail
  clear P0 P1 P2 Q0 Q1 Q2
  refine (same_ans e1 P.rn P.rd Q.rn Q.rd).mono ?_
  rintro e w12 ⟨rfl, k13⟩
  replace X := X.below k13
  replace Y := Y.below k13
  replace P := P.below k13
  replace Q := Q.below k13
  replace g := g.trans (k13.mono g.size)
  clear k13
  obtain ⟨X0, X1, X2⟩ := X.cells
  obtain ⟨Y0, Y1, Y2⟩ := Y.cells
  go_wp2_with fail
  clear X0 X1 X2 Y0 Y1 Y2
  refine (power_rat X.rn X.rd Y.rn Y.rd).mono ?_
  intro e w14 hm
  obtain ⟨b2, n2, d2, e2, HS2, k15, u2p, v2p, x2p, y2p, rfl, rn2p, rd2p⟩ := hm.spec
  clear hm
  replace X := X.below k15
  replace Y := Y.below k15
  replace P := P.below k15
  replace Q := Q.below k15
  replace g := g.trans (k15.mono g.size)
  clear k15
  have q0 := P.box.c0
  have q1 := P.box.c1
  have q2 := P.box.c2
  have p0 := P.box.f0
  have p1 := P.box.f1
  have p2 := P.box.f2
  replace X := X.by' P neXP (.bool b2) (.slice u2p n2.length v2p) (.slice x2p d2.length y2p)
  replace Y := Y.by' P neYP (.bool b2) (.slice u2p n2.length v2p) (.slice x2p d2.length y2p)
  replace Q := Q.by' P nePQ.symm (.bool b2) (.slice u2p n2.length v2p) (.slice x2p d2.length y2p)
  replace P := P.put (c := b2) rn2p rd2p
  replace g := Below.set3 g leP (.bool b2) (.slice u2p n2.length v2p) (.slice x2p d2.length y2p)
  clear rn2p rd2p
  obtain ⟨X0, X1, X2⟩ := X.cells
  obtain ⟨Y0, Y1, Y2⟩ := Y.cells
  go_wp2_with fail
  clear X0 X1 X2 Y0 Y1 Y2
  clear q0 q1 q2 p0 p1 p2
  generalize hA : (((w14.setCell ⟨w2.heap.size, 0, none⟩ (.bool b2)).setCell ⟨w2.heap.size, 1, none⟩ (.slice u2p n2.length v2p)).setCell ⟨w2.heap.size, 2, none⟩ (.slice x2p d2.length y2p)) = v16 at *
  clear hA
  refine (refPower_rat X.rn X.rd Y.rn Y.rd).mono ?_
  intro e w17 hm
  obtain ⟨k18, u2q, v2q, x2q, y2q, rfl, rn2q, rd2q⟩ := pow_same HS2 hm
  clear hm HS2
  replace X := X.below k18
  replace Y := Y.below k18
  replace P := P.below k18
  replace Q := Q.below k18
  replace g := g.trans (k18.mono g.size)
  clear k18
  have q0 := Q.box.c0
  have q1 := Q.box.c1
  have q2 := Q.box.c2
  have p0 := Q.box.f0
  have p1 := Q.box.f1
  have p2 := Q.box.f2
  replace X := X.by' Q neXQ (.bool b2) (.slice u2q n2.length v2q) (.slice x2q d2.length y2q)
  replace Y := Y.by' Q neYQ (.bool b2) (.slice u2q n2.length v2q) (.slice x2q d2.length y2q)
  replace P := P.by' Q nePQ (.bool b2) (.slice u2q n2.length v2q) (.slice x2q d2.length y2q)
  replace Q := Q.put (c := b2) rn2q rd2q
  replace g := Below.set3 g leQ (.bool b2) (.slice u2q n2.length v2q) (.slice x2q d2.length y2q)
  clear rn2q rd2q
  obtain ⟨P0, P1, P2⟩ := P.cells
  obtain ⟨Q0, Q1, Q2⟩ := Q.cells
  go_wp2_with fail
  clear P0 P1 P2 Q0 Q1 Q2
  clear q0 q1 q2 p0 p1 p2
  generalize hA : (((w17.setCell ⟨w6.heap.size, 0, none⟩ (.bool b2)).setCell ⟨w6.heap.size, 1, none⟩ (.slice u2q n2.length v2q)).setCell ⟨w6.heap.size, 2, none⟩ (.slice x2q d2.length y2q)) = v19 at *
  clear hA
  refine (same_ans e2 P.rn P.rd Q.rn Q.rd).mono ?_
  rintro e w20 ⟨rfl, k21⟩
  replace X := X.below k21
  replace Y := Y.below k21
  replace P := P.below k21
  replace Q := Q.below k21
  replace g := g.trans (k21.mono g.size)
  clear k21
  obtain ⟨X0, X1, X2⟩ := X.cells
  go_wp2_with fail
  clear X0 X1 X2
  refine (factorial_rat X.rn X.rd).mono ?_
  intro e w22 hm
  obtain ⟨b3, n3, d3, e3, HS3, k23, u3p, v3p, x3p, y3p, rfl, rn3p, rd3p⟩ := hm
  replace X := X.below k23
  replace Y := Y.below k23
  replace P := P.below k23
  replace Q := Q.below k23
  replace g := g.trans (k23.mono g.size)
  clear k23
  have q0 := P.box.c0
  have q1 := P.box.c1
  have q2 := P.box.c2
  have p0 := P.box.f0
  have p1 := P.box.f1
  have p2 := P.box.f2
  replace X := X.by' P neXP (.bool b3) (.slice u3p n3.length v3p) (.slice x3p d3.length y3p)
  replace Y := Y.by' P neYP (.bool b3) (.slice u3p n3.length v3p) (.slice x3p d3.length y3p)
  replace Q := Q.by' P nePQ.symm (.bool b3) (.slice u3p n3.length v3p) (.slice x3p d3.length y3p)
  replace P := P.put (c := b3) rn3p rd3p
  replace g := Below.set3 g leP (.bool b3) (.slice u3p n3.length v3p) (.slice x3p d3.length y3p)
  clear rn3p rd3p
  obtain ⟨X0, X1, X2⟩ := X.cells
  go_wp2_with fail
  clear X0 X1 X2
  clear q0 q1 q2 p0 p1 p2
  generalize hA : (((w22.setCell ⟨w2.heap.size, 0, none⟩ (.bool b3)).setCell ⟨w2.heap.size, 1, none⟩ (.slice u3p n3.length v3p)).setCell ⟨w2.heap.size, 2, none⟩ (.slice x3p d3.length y3p)) = v24 at *
  clear hA
  refine (refFactorial_rat X.rn X.rd).mono ?_
  intro e w25 hm
  obtain ⟨k26, u3q, v3q, x3q, y3q, rfl, rn3q, rd3q⟩ := count_same HS3 hm
  clear hm HS3
  replace X := X.below k26
  replace Y := Y.below k26
  replace P := P.below k26
  replace Q := Q.below k26
  replace g := g.trans (k26.mono g.size)
  clear k26
  have q0 := Q.box.c0
  have q1 := Q.box.c1
  have q2 := Q.box.c2
  have p0 := Q.box.f0
  have p1 := Q.box.f1
  have p2 := Q.box.f2
  replace X := X.by' Q neXQ (.bool b3) (.slice u3q n3.length v3q) (.slice x3q d3.length y3q)
  replace Y := Y.by' Q neYQ (.bool b3) (.slice u3q n3.length v3q) (.slice x3q d3.length y3q)
  replace P := P.by' Q nePQ (.bool b3) (.slice u3q n3.length v3q) (.slice x3q d3.length y3q)
  replace Q := Q.put (c := b3) rn3q rd3q
  replace g := Below.set3 g leQ (.bool b3) (.slice u3q n3.length v3q) (.slice x3q d3.length y3q)
  clear rn3q rd3q
  obtain ⟨P0, P1, P2⟩ := P.cells
  obtain ⟨Q0, Q1, Q2⟩ := Q.cells
  go_wp2_with fail
  clear P0 P1 P2 Q0 Q1 Q2
  clear q0 q1 q2 p0 p1 p2
  generalize hA : (((w25.setCell ⟨w6.heap.size, 0, none⟩ (.bool b3)).setCell ⟨w6.heap.size, 1, none⟩ (.slice u3q n3.length v3q)).setCell ⟨w6.heap.size, 2, none⟩ (.slice x3q d3.length y3q)) = v27 at *
  clear hA
  refine (same_ans e3 P.rn P.rd Q.rn Q.rd).mono ?_
  rintro e w28 ⟨rfl, k29⟩
  replace X := X.below k29
  replace Y := Y.below k29
  replace P := P.below k29
  replace Q := Q.below k29
  replace g := g.trans (k29.mono g.size)
  clear k29
  obtain ⟨X0, X1, X2⟩ := X.cells
  obtain ⟨Y0, Y1, Y2⟩ := Y.cells
  go_wp2_with fail
  clear X0 X1 X2 Y0 Y1 Y2
  refine (binomial_rat X.rn X.rd Y.rn Y.rd).mono ?_
  intro e w30 hm
  obtain ⟨b4, n4, d4, e4, HS4, k31, u4p, v4p, x4p, y4p, rfl, rn4p, rd4p⟩ := hm
  replace X := X.below k31
  replace Y := Y.below k31
  replace P := P.below k31
  replace Q := Q.below k31
  replace g := g.trans (k31.mono g.size)
  clear k31
  have q0 := P.box.c0
  have q1 := P.box.c1
  have q2 := P.box.c2
  have p0 := P.box.f0
  have p1 := P.box.f1
  have p2 := P.box.f2
  replace X := X.by' P neXP (.bool b4) (.slice u4p n4.length v4p) (.slice x4p d4.length y4p)
  replace Y := Y.by' P neYP (.bool b4) (.slice u4p n4.length v4p) (.slice x4p d4.length y4p)
  replace Q := Q.by' P nePQ.symm (.bool b4) (.slice u4p n4.length v4p) (.slice x4p d4.length y4p)
  replace P := P.put (c := b4) rn4p rd4p
  replace g := Below.set3 g leP (.bool b4) (.slice u4p n4.length v4p) (.slice x4p d4.length y4p)
  clear rn4p rd4p
  obtain ⟨X0, X1, X2⟩ := X.cells
  obtain ⟨Y0, Y1, Y2⟩ := Y.cells
  go_wp2_with fail
  clear X0 X1 X2 Y0 Y1 Y2
  clear q0 q1 q2 p0 p1 p2
  generalize hA : (((w30.setCell ⟨w2.heap.size, 0, none⟩ (.bool b4)).setCell ⟨w2.heap.size, 1, none⟩ (.slice u4p n4.length v4p)).setCell ⟨w2.heap.size, 2, none⟩ (.slice x4p d4.length y4p)) = v32 at *
  clear hA
  refine (refBinomial_rat X.rn X.rd Y.rn Y.rd).mono ?_
  intro e w33 hm
  obtain ⟨k34, u4q, v4q, x4q, y4q, rfl, rn4q, rd4q⟩ := count_same HS4 hm
  clear hm HS4
  replace X := X.below k34
  replace Y := Y.below k34
  replace P := P.below k34
  replace Q := Q.below k34
  replace g := g.trans (k34.mono g.size)
  clear k34
  have q0 := Q.box.c0
  have q1 := Q.box.c1
  have q2 := Q.box.c2
  have p0 := Q.box.f0
  have p1 := Q.box.f1
  have p2 := Q.box.f2
  replace X := X.by' Q neXQ (.bool b4) (.slice u4q n4.length v4q) (.slice x4q d4.length y4q)
  replace Y := Y.by' Q neYQ (.bool b4) (.slice u4q n4.length v4q) (.slice x4q d4.length y4q)
  replace P := P.by' Q nePQ (.bool b4) (.slice u4q n4.length v4q) (.slice x4q d4.length y4q)
  replace Q := Q.put (c := b4) rn4q rd4q
  replace g := Below.set3 g leQ (.bool b4) (.slice u4q n4.length v4q) (.slice x4q d4.length y4q)
  clear rn4q rd4q
  obtain ⟨P0, P1, P2⟩ := P.cells
  obtain ⟨Q0, Q1, Q2⟩ := Q.cells
  go_wp2_with fail
  clear P0 P1 P2 Q0 Q1 Q2
  clear q0 q1 q2 p0 p1 p2
  generalize hA : (((w33.setCell ⟨w6.heap.size, 0, none⟩ (.bool b4)).setCell ⟨w6.heap.size, 1, none⟩ (.slice u4q n4.length v4q)).setCell ⟨w6.heap.size, 2, none⟩ (.slice x4q d4.length y4q)) = v35 at *
  clear hA
  refine (same_ans e4 P.rn P.rd Q.rn Q.rd).mono ?_
  rintro e w36 ⟨rfl, k37⟩
  replace X := X.below k37
  replace Y := Y.below k37
  replace P := P.below k37
  replace Q := Q.below k37
  replace g := g.trans (k37.mono g.size)
  clear k37
  go_wp2
  go_ret
  exact ⟨rfl, g⟩
end Go.Proofs.YtidbebfendjnlaaGreatDoor
