/- Two numbers come in, a number goes out: the variables. rat.Sub, rat.Sign. -/
import Derived.Test.YtekmalpmcbjpeaaDoorJ4
import Derived.Test.YtekmalpmcbjpeaaDoorJ5
namespace Go.Proofs.YtekmalpmcbjpeaaDoor
set_option linter.unusedVariables false
set_option linter.unusedSimpArgs false
open Go.RowKit

/-- What lies in memory where two numbers have come in, a result's variable is laid, and both were laid into a list. -/
structure In2 (w W : World) (x0 x1 x2 y0 y1 y2 : Value) : Prop where
  X : Box3 W w.heap.size 24 x0 x1 x2
  Y : Box3 W (w.heap.size + 1) 24 y0 y1 y2
  R : Box3 W (w.heap.size + 1 + 1) 24 (.bool false) (.slice none 0 0) (.slice none 0 0)
  T : Two W (w.heap.size + 1 + 1 + 1) x0 x1 x2 y0 y1 y2
  b : Below w.heap.size w W
  s : w.heap.size + 1 + 1 + 1 < W.heap.size
theorem in2_new (w : World) (x0 x1 x2 y0 y1 y2 : Value) : In2 w ((((w.alloc (.cells #[x0, x1, x2] 24)).alloc (.cells #[y0, y1, y2] 24)).alloc (.cells #[.bool false, .slice none 0 0, .slice none 0 0] 24)).alloc (.cells #[x0, x1, x2, y0, y1, y2] 24)) x0 x1 x2 y0 y1 y2 where
  X := (((box3_new w _ _ _ _).below (below_alloc _ _) (by simp)).below (below_alloc _ _) (by simp <;> omega)).below (below_alloc _ _) (by simp <;> omega)
  Y := by
    have h5 := ((box3_new (w.alloc (.cells #[x0, x1, x2] 24)) y0 y1 y2 24).below (below_alloc _ (.cells #[.bool false, .slice none 0 0, .slice none 0 0] 24)) (by simp)).below (below_alloc _ (.cells #[x0, x1, x2, y0, y1, y2] 24)) (by simp <;> omega)
    simpa using h5
  R := by
    have h5 := (box3_new ((w.alloc (.cells #[x0, x1, x2] 24)).alloc (.cells #[y0, y1, y2] 24)) (.bool false) (.slice none 0 0) (.slice none 0 0) 24).below (below_alloc _ (.cells #[x0, x1, x2, y0, y1, y2] 24)) (by simp)
    simpa using h5
  T := by
    have h5 := two_new (((w.alloc (.cells #[x0, x1, x2] 24)).alloc (.cells #[y0, y1, y2] 24)).alloc (.cells #[.bool false, .slice none 0 0, .slice none 0 0] 24)) x0 x1 x2 y0 y1 y2 24
    simp only [World.size_alloc] at h5
    exact h5
  b := (((below_alloc w _).alloc (by simp) _).alloc (by simp <;> omega) _).alloc (by simp <;> omega) _
  s := by simp

/-- An answer with an error. -/
theorem gives_err {w w2 : World} {P : Prop} {N D : Int} (hP : ¬ P) (hb : Below w.heap.size w w2) : Gives w P N D (.returned (.tuple #[.agg #[.bool false, .slice none 0 0, .slice none 0 0], .int .i64 22])) w2 :=
  ⟨hb, false, none, 0, 0, none, 0, 0, 22, rfl, Or.inl ⟨hP, rfl, rfl, rfl, rfl, rfl, rfl, rfl, rfl⟩⟩
/-- What was made is what is given. -/
theorem RMakes.gives {w w' : World} {P : Prop} {N D : Int} {e : Ending} (h : RMakes w N D e w') (hP : P) : Gives w P N D e w' := by
  obtain ⟨hb, b, x1, n, y1, x2, m, y2, err, rfl, hf⟩ := h.form
  refine ⟨hb, b, x1, n, y1, x2, m, y2, err, rfl, ?_⟩
  rcases hf.out with h | h
  · exact Or.inr (Or.inl ⟨hP, h⟩)
  · exact Or.inr (Or.inr ⟨hP, h⟩)

theorem Box3.set0 {w : World} {B ty : Nat} {x y z : Value} (h : Box3 w B ty x y z) (v : Value) : Box3 (w.setCell ⟨B, 0, none⟩ v) B ty v y z := by
  unfold Box3 at h ⊢; simp [World.setCell, Array.getElem?_modify, h]
theorem Box3.apart {w : World} {B ty : Nat} {x y z : Value} (h : Box3 w B ty x y z) {p : Addr} (hp : p.block ≠ B) (v : Value) : Box3 (w.setCell p v) B ty x y z := by
  unfold Box3 at h ⊢
  have : ¬ p.block = B := hp
  simp [World.setCell, Array.getElem?_modify, h, this]

section
variable {B : Nat} {w : World} {bx cy : Bool} {a1 a2 a3 a4 : Option Addr} {c1 c2 c3 c4 : Nat} {xn xd yn yd : List Int}

set_option maxRecDepth 100000 in
set_option maxHeartbeats 3200000 in
theorem sub_rat (h1 : Rd B w (.slice a1 xn.length c1) xn) (h2 : Rd B w (.slice a2 xd.length c2) xd) (h3 : Rd B w (.slice a3 yn.length c3) yn) (h4 : Rd B w (.slice a4 yd.length c4) yd) (hB : B ≤ w.heap.size) :
    Calls Tryd.prog 12 #[.agg #[.bool bx, .slice a1 xn.length c1, .slice a2 xd.length c2], .agg #[.bool cy, .slice a3 yn.length c3, .slice a4 yd.length c4]] w fun e w' => Gives w (RightP bx xn xd ∧ RightP cy yn yd) (sg bx (val xn) * val yd + sg (!cy) (val yn) * val xd) (val xd * val yd) e w' := by
  have I := in2_new w (.bool bx) (.slice a1 xn.length c1) (.slice a2 xd.length c2) (.bool cy) (.slice a3 yn.length c3) (.slice a4 yd.length c4)
  go_enter Tryd.func12, Tryd.ntmps12
  go_wp2_with fail
  generalize hA : ((((w.alloc (.cells #[.bool bx, .slice a1 xn.length c1, .slice a2 xd.length c2] 24)).alloc (.cells #[.bool cy, .slice a3 yn.length c3, .slice a4 yd.length c4] 24)).alloc (.cells #[.bool false, .slice none 0 0, .slice none 0 0] 24)).alloc (.cells #[.bool bx, .slice a1 xn.length c1, .slice a2 xd.length c2, .bool cy, .slice a3 yn.length c3, .slice a4 yd.length c4] 24)) = wQ at *
  clear hA
  obtain ⟨hX, hY, hR, hT, b0, s0⟩ := I
  refine (allRight2 hT (h1.below (b0.mono hB)) (h2.below (b0.mono hB)) (h3.below (b0.mono hB)) (h4.below (b0.mono hB)) (by omega)).mono ?_
  rintro e wa ⟨⟨r, rfl, hr⟩, ba⟩
  have sa := ba.size
  have bwa : Below w.heap.size w wa := b0.trans (ba.mono (by omega))
  have hRa := hR.below ba (by omega)
  cases r with
  | false =>
    have HP : Hid (¬ (RightP bx xn xd ∧ RightP cy yn yd)) := fun h => by have := hr.2 h; cases this
    clear hr
    have q0 := hRa.c0
    have q1 := hRa.c1
    have q2 := hRa.c2
    have p0 := hRa.f0
    have p1 := hRa.f1
    have p2 := hRa.f2
    go_wp2
    have hR3 := hRa.set (.bool false) (.slice none 0 0) (.slice none 0 0)
    have r0 := hR3.c0
    have r1 := hR3.c1
    have r2 := hR3.c2
    refine bodyPost_ret (v := .tuple #[.agg #[.bool false, .slice none 0 0, .slice none 0 0], .int .i64 22]) (by simp [results, Tryd.results12, go_sem, r0, r1, r2]) rfl ?_
    exact gives_err HP.out (Below.set3 bwa (by omega) _ _ _)
  | true =>
    have HP : Hid (RightP bx xn xd ∧ RightP cy yn yd) := hr.1 rfl
    clear hr
    have hXa := hX.below ba (by omega)
    have hYa := hY.below ba (by omega)
    have y0 := hYa.c0
    have y3 := hYa.f0
    have hYb := hYa.set0 (.bool (!cy))
    have hXb := hXa.apart (p := ⟨w.heap.size + 1, 0, none⟩) (by simp) (.bool (!cy))
    have hRb := hRa.apart (p := ⟨w.heap.size + 1, 0, none⟩) (by simp) (.bool (!cy))
    have bwb : Below w.heap.size w (wa.setCell ⟨w.heap.size + 1, 0, none⟩ (.bool (!cy))) := bwa.setCell (p := ⟨w.heap.size + 1, 0, none⟩) (by simp) _
    have sb : (wa.setCell ⟨w.heap.size + 1, 0, none⟩ (.bool (!cy))).heap.size = wa.heap.size := by simp [World.setCell]
    have k0 := hXb.c0
    have k1 := hXb.c1
    have k2 := hXb.c2
    have k3 := hYb.c0
    have k4 := hYb.c1
    have k5 := hYb.c2
    have hpl := plus_weak (bx := bx) (cy := !cy) (h1.below (bwb.mono hB)) (h2.below (bwb.mono hB)) (h3.below (bwb.mono hB)) (h4.below (bwb.mono hB)) (by omega) HP.out.1.weak HP.out.2.weak
    go_wp2_with fail
    clear k0 k1 k2 k3 k4 k5 y0 y3
    generalize hA : wa.setCell ⟨w.heap.size + 1, 0, none⟩ (.bool (!cy)) = wb at *
    clear hA
    refine hpl.mono ?_
    intro e w6 hm6
    obtain ⟨bm6, b6, x5, n5, y5, x6, n6, y6, err, rfl, hform⟩ := hm6.form
    have hRc := hRb.below bm6 (by omega)
    have q0 := hRc.c0
    have q1 := hRc.c1
    have q2 := hRc.c2
    have p0 := hRc.f0
    have p1 := hRc.f1
    have p2 := hRc.f2
    clear hpl hm6
    go_wp2
    have hR3 := hRc.set (.bool b6) (.slice x5 n5 y5) (.slice x6 n6 y6)
    have r0 := hR3.c0
    have r1 := hR3.c1
    have r2 := hR3.c2
    refine bodyPost_ret (v := .tuple #[.agg #[.bool b6, .slice x5 n5 y5, .slice x6 n6 y6], .int .i64 err]) (by simp [results, Tryd.results12, go_sem, r0, r1, r2]) rfl ?_
    exact (rform_done bwb (by omega) (by omega) bm6 hform).gives HP.out

/-- What rat.Sign answers. -/
def Signs (P : Prop) (b : Bool) (ns : List Int) (e : Ending) : Prop := ∃ r : Int, e = .returned (.int .i64 r) ∧ Hid ((¬ P → r = 0) ∧ (P → r = cmpI (sg b (val ns)) 0))

set_option maxRecDepth 100000 in
set_option maxHeartbeats 1600000 in
theorem sign_rat (h1 : Rd w.heap.size w (.slice a1 xn.length c1) xn) (h2 : Rd w.heap.size w (.slice a2 xd.length c2) xd) :
    Calls Tryd.prog 14 #[.agg #[.bool bx, .slice a1 xn.length c1, .slice a2 xd.length c2]] w fun e w' => Below w.heap.size w w' ∧ Signs (RightP bx xn xd) bx xn e := by
  have X := nvar_new (b := bx) h1 h2
  have b0 := below_alloc w (.cells #[.bool bx, .slice a1 xn.length c1, .slice a2 xd.length c2] 24)
  obtain ⟨k0, k1, k2⟩ := X.cells
  go_enter Tryd.func14, Tryd.ntmps14
  go_wp2_with fail
  clear k0 k1 k2
  generalize hA : w.alloc (.cells #[.bool bx, .slice a1 xn.length c1, .slice a2 xd.length c2] 24) = v at *
  clear hA
  refine (right_rat X.rn X.rd (Nat.le_refl _)).mono ?_
  rintro e wa ⟨⟨r, rfl, hr⟩, ba⟩
  replace X := X.below ba
  have g1 : Below w.heap.size w wa := b0.trans (ba.mono b0.size)
  obtain ⟨k0, k1, k2⟩ := X.cells
  cases r with
  | false =>
    have HP : Hid (¬ RightP bx xn xd) := fun h => by have := hr.2 h; cases this
    clear hr
    go_wp2
    go_ret
    exact ⟨g1, 0, rfl, fun _ => rfl, fun h => absurd h HP.out⟩
  | true =>
    have HP : Hid (RightP bx xn xd) := hr.1 rfl
    clear hr
    by_cases h0 : 0 < xn.length
    · have hb : ((xn.length : Int) == 0) = false := by rw [beq_eq_false_iff_ne]; omega
      have HV : Hid (0 < val xn) := by
        have h5 := can_low HP.out.2.2.1 h0
        have h6 := pw_pos (xn.length - 1)
        unfold Hid; omega
      cases bx with
      | false =>
        go_wp2
        go_ret
        exact ⟨g1, 1, rfl, fun h => absurd HP.out h, fun _ => (cmpI_gt (by have := HV.out; simpa [sg] using this)).symm⟩
      | true =>
        go_wp2
        go_ret
        exact ⟨g1, -1, rfl, fun h => absurd HP.out h, fun _ => (cmpI_lt (by have := HV.out; simp [sg]; omega)).symm⟩
    · have hb : ((xn.length : Int) == 0) = true := by rw [beq_iff_eq]; omega
      have HV : Hid (val xn = 0) := (can_zero HP.out.2.2.1).1 (by omega)
      go_wp2
      go_ret
      exact ⟨g1, 0, rfl, fun h => absurd HP.out h, fun _ => (cmpI_eq (by rw [HV.out, sg_zero])).symm⟩
end
end Go.Proofs.YtekmalpmcbjpeaaDoor

/- What a reckoning answers, where the number is known. -/
namespace Go.Proofs.YtekmalpmcbjpeaaDoor
set_option linter.unusedVariables false
set_option linter.unusedSimpArgs false
open Go.RowKit

/-- Lowest terms are unique, however many limbs. -/
theorem lowest_can {b c : Bool} {ns ds ms es : List Int} {N D : Int} (cn : can ns) (cd : can ds) (hd : 0 < ds.length) (hg : gI (val ns) (val ds) = 1) (h : sg b (val ns) * D = N * val ds) (hD : 0 < D) (cm : can ms) (ce : can es) (he : 0 < es.length) (kg : gI (val ms) (val es) = 1) (k : sg c (val ms) * D = N * val es) : ns = ms ∧ ds = es ∧ (0 < val ns → b = c) := by
  have dp : 0 < val ds := by have := can_low cd hd; have := pw_pos (ds.length - 1); omega
  have ep : 0 < val es := by have := can_low ce he; have := pw_pos (es.length - 1); omega
  have np := (val_bound cn.1).1
  have mp := (val_bound cm.1).1
  have e1 : sg b (val ns) * val es = sg c (val ms) * val ds := by
    refine cancel hD ?_
    have q1 : sg b (val ns) * val es * D = sg b (val ns) * D * val es := by ac_rfl
    have q2 : sg c (val ms) * val ds * D = sg c (val ms) * D * val ds := by ac_rfl
    rw [q1, q2, h, k]
    ac_rfl
  rw [← sg_mul, ← sg_mul] at e1
  have n1 : 0 ≤ val ns * val es := Int.mul_nonneg np (by omega)
  have n2 : 0 ≤ val ms * val ds := Int.mul_nonneg mp (by omega)
  have hab : val ns * val es = val ms * val ds ∧ (0 < val ns * val es → b = c) := by
    unfold sg at e1
    generalize val ns * val es = p at *
    generalize val ms * val ds = q at *
    cases b <;> cases c <;> simp at e1
    · exact ⟨e1, fun _ => rfl⟩
    · exact ⟨by omega, fun _ => by omega⟩
    · exact ⟨by omega, fun _ => by omega⟩
    · exact ⟨by omega, fun _ => rfl⟩
  obtain ⟨n, en⟩ := Int.eq_ofNat_of_zero_le np
  obtain ⟨d, ed⟩ := Int.eq_ofNat_of_zero_le (Int.le_of_lt dp)
  obtain ⟨m, em⟩ := Int.eq_ofNat_of_zero_le mp
  obtain ⟨f, ef⟩ := Int.eq_ofNat_of_zero_le (Int.le_of_lt ep)
  have g1 : Nat.gcd n d = 1 := by
    rw [en, ed] at hg
    unfold gI at hg
    simp only [Int.toNat_natCast] at hg
    omega
  have g2 : Nat.gcd m f = 1 := by
    rw [em, ef] at kg
    unfold gI at kg
    simp only [Int.toNat_natCast] at kg
    omega
  have hm := hab.1
  rw [en, ed, em, ef] at hm
  have hmn : n * f = m * d := by exact_mod_cast hm
  have d1 : d ∣ f := (Nat.Coprime.dvd_of_dvd_mul_left (show Nat.Coprime d n by rw [Nat.coprime_comm]; exact g1) ⟨m, by rw [hmn, Nat.mul_comm]⟩)
  have d2 : f ∣ d := (Nat.Coprime.dvd_of_dvd_mul_left (show Nat.Coprime f m by rw [Nat.coprime_comm]; exact g2) ⟨n, by rw [← hmn, Nat.mul_comm]⟩)
  have hdf : d = f := Nat.dvd_antisymm d1 d2
  subst hdf
  have hd0 : 0 < d := by omega
  have hnm : n = m := Nat.eq_of_mul_eq_mul_right hd0 hmn
  exact ⟨can_inj cn cm (by rw [en, em, hnm]), can_inj cd ce (by rw [ed, ef]), fun h0 => hab.2 (Int.mul_pos h0 ep)⟩

/-- What fits is not too great. -/
theorem not_big {b : Bool} {ns ds : List Int} {N D : Int} (hr : RightP b ns ds) (h : sg b (val ns) * D = N * val ds) (hD : 0 < D) : ¬ Big N D := by
  rintro ⟨c, ms, es, cm, ce, he, kg, k, hl⟩
  obtain ⟨rfl, rfl, _⟩ := lowest_can hr.2.2.1 hr.2.2.2.1 hr.2.2.2.2.2.1 hr.2.2.2.2.2.2 h hD cm ce he kg k
  have := hr.1
  have := hr.2.1
  omega
theorem right_is {b c : Bool} {ns ds ms es : List Int} {N D : Int} (hr : RightP b ns ds) (h : sg b (val ns) * D = N * val ds) (hD : 0 < D) (kr : RightP c ms es) (k : sg c (val ms) * D = N * val es) : c = b ∧ ms = ns ∧ es = ds := by
  refine lowest kr hr (cancel hD ?_)
  have q1 : sg c (val ms) * val ds * D = sg c (val ms) * D * val ds := by ac_rfl
  have q2 : sg b (val ns) * val es * D = sg b (val ns) * D * val es := by ac_rfl
  rw [q1, q2, h, k]
  ac_rfl

/-- A known number is answered. -/
def IsNum' (w : World) (b : Bool) (ns ds : List Int) (e : Ending) (w' : World) : Prop :=
  Below w.heap.size w w' ∧ ∃ a1 c1 a2 c2, e = .returned (.tuple #[.agg #[.bool b, .slice a1 ns.length c1, .slice a2 ds.length c2], .int .i64 0]) ∧ Own w.heap.size w' (.slice a1 ns.length c1) ns ∧ Own w.heap.size w' (.slice a2 ds.length c2) ds
theorem gives_is {w w' : World} {P : Prop} {N D : Int} {e : Ending} {b : Bool} {ns ds : List Int} (h : Gives w P N D e w') (hP : P) (hD : 0 < D) (hr : RightP b ns ds) (hv : sg b (val ns) * D = N * val ds) : IsNum' w b ns ds e w' := by
  obtain ⟨hb, c, x1, n, y1, x2, m, y2, err, rfl, ho⟩ := h
  refine ⟨hb, ?_⟩
  rcases ho.out with ⟨hn, _⟩ | ⟨_, _, _, _, _, _, _, _, _, hbig⟩ | ⟨_, rfl, ms, es, rfl, rfl, on, od, kr, kv⟩
  · exact absurd hP hn
  · exact absurd hbig (not_big hr hv hD)
  · obtain ⟨rfl, rfl, rfl⟩ := right_is hr hv hD kr kv
    exact ⟨x1, y1, x2, y2, rfl, on, od⟩
/-- What a reckoning answers: too great, or a right number. -/
theorem gives_or {w w' : World} {P : Prop} {N D : Int} {e : Ending} (h : Gives w P N D e w') (hP : P) : Below w.heap.size w w' ∧ ((e = .returned (.tuple #[.agg #[.bool false, .slice none 0 0, .slice none 0 0], .int .i64 8]) ∧ Big N D) ∨ ∃ b ns ds a1 c1 a2 c2, e = .returned (.tuple #[.agg #[.bool b, .slice a1 ns.length c1, .slice a2 ds.length c2], .int .i64 0]) ∧ Own w.heap.size w' (.slice a1 ns.length c1) ns ∧ Own w.heap.size w' (.slice a2 ds.length c2) ds ∧ RightP b ns ds ∧ sg b (val ns) * D = N * val ds) := by
  obtain ⟨hb, c, x1, n, y1, x2, m, y2, err, rfl, ho⟩ := h
  refine ⟨hb, ?_⟩
  rcases ho.out with ⟨hn, _⟩ | ⟨_, rfl, rfl, rfl, rfl, rfl, rfl, rfl, rfl, hbig⟩ | ⟨_, rfl, ms, es, rfl, rfl, on, od, kr, kv⟩
  · exact absurd hP hn
  · exact Or.inl ⟨rfl, hbig⟩
  · exact Or.inr ⟨c, ms, es, x1, y1, x2, y2, rfl, on, od, kr, kv⟩
theorem nil_rd (w : World) : Rd w.heap.size w (.slice none ([] : List Int).length 0) [] := Own.rd (base := 0) ⟨lim_nil, World.ownsRow_nil _ _ _ _⟩

section
variable {B : Nat} {w : World} {bx cy : Bool} {a1 a2 a3 a4 : Option Addr} {c1 c2 c3 c4 : Nat} {xn xd yn yd : List Int}
set_option maxRecDepth 100000 in
set_option maxHeartbeats 3200000 in
/-- rat.Div by what is not 0. -/
theorem div_nz (h1 : Rd B w (.slice a1 xn.length c1) xn) (h2 : Rd B w (.slice a2 xd.length c2) xd) (h3 : Rd B w (.slice a3 yn.length c3) yn) (h4 : Rd B w (.slice a4 yd.length c4) yd) (hB : B ≤ w.heap.size) (h0 : 0 < yn.length) :
    Calls Tryd.prog 15 #[.agg #[.bool bx, .slice a1 xn.length c1, .slice a2 xd.length c2], .agg #[.bool cy, .slice a3 yn.length c3, .slice a4 yd.length c4]] w fun e w' => Gives w (RightP bx xn xd ∧ RightP cy yn yd) (sg bx (val xn) * sg cy (val yd)) (val xd * val yn) e w' := by
  have I := in2_new w (.bool bx) (.slice a1 xn.length c1) (.slice a2 xd.length c2) (.bool cy) (.slice a3 yn.length c3) (.slice a4 yd.length c4)
  go_enter Tryd.func15, Tryd.ntmps15
  go_wp2_with fail
  generalize hA : ((((w.alloc (.cells #[.bool bx, .slice a1 xn.length c1, .slice a2 xd.length c2] 24)).alloc (.cells #[.bool cy, .slice a3 yn.length c3, .slice a4 yd.length c4] 24)).alloc (.cells #[.bool false, .slice none 0 0, .slice none 0 0] 24)).alloc (.cells #[.bool bx, .slice a1 xn.length c1, .slice a2 xd.length c2, .bool cy, .slice a3 yn.length c3, .slice a4 yd.length c4] 24)) = wQ at *
  clear hA
  obtain ⟨hX, hY, hR, hT, b0, s0⟩ := I
  refine (allRight2 hT (h1.below (b0.mono hB)) (h2.below (b0.mono hB)) (h3.below (b0.mono hB)) (h4.below (b0.mono hB)) (by omega)).mono ?_
  rintro e wa ⟨⟨r, rfl, hr⟩, ba⟩
  have sa := ba.size
  have bwa : Below w.heap.size w wa := b0.trans (ba.mono (by omega))
  have hRa := hR.below ba (by omega)
  cases r with
  | false =>
    have HP : Hid (¬ (RightP bx xn xd ∧ RightP cy yn yd)) := fun h => by have := hr.2 h; cases this
    clear hr
    have q0 := hRa.c0
    have q1 := hRa.c1
    have q2 := hRa.c2
    have p0 := hRa.f0
    have p1 := hRa.f1
    have p2 := hRa.f2
    go_wp2
    have hR3 := hRa.set (.bool false) (.slice none 0 0) (.slice none 0 0)
    have r0 := hR3.c0
    have r1 := hR3.c1
    have r2 := hR3.c2
    refine bodyPost_ret (v := .tuple #[.agg #[.bool false, .slice none 0 0, .slice none 0 0], .int .i64 22]) (by simp [results, Tryd.results15, go_sem, r0, r1, r2]) rfl ?_
    exact gives_err HP.out (Below.set3 bwa (by omega) _ _ _)
  | true =>
    have HP : Hid (RightP bx xn xd ∧ RightP cy yn yd) := hr.1 rfl
    clear hr
    have hXa := hX.below ba (by omega)
    have hYa := hY.below ba (by omega)
    have k0 := hXa.c0
    have k1 := hXa.c1
    have k2 := hXa.c2
    have k3 := hYa.c0
    have k4 := hYa.c1
    have k5 := hYa.c2
    have hpl := by_rat (bx := bx) (cy := cy) (h1.below (bwa.mono hB)) (h2.below (bwa.mono hB)) (h3.below (bwa.mono hB)) (h4.below (bwa.mono hB)) (by omega) HP.out.1 HP.out.2 h0
    go_wp2_with fail
    clear k0 k1 k2 k3 k4 k5
    refine hpl.mono ?_
    intro e w6 hm6
    obtain ⟨bm6, b6, x5, n5, y5, x6, n6, y6, err, rfl, hform⟩ := hm6.form
    have hRc := hRa.below bm6 (by omega)
    have q0 := hRc.c0
    have q1 := hRc.c1
    have q2 := hRc.c2
    have p0 := hRc.f0
    have p1 := hRc.f1
    have p2 := hRc.f2
    clear hpl hm6
    go_wp2
    have hR3 := hRc.set (.bool b6) (.slice x5 n5 y5) (.slice x6 n6 y6)
    have r0 := hR3.c0
    have r1 := hR3.c1
    have r2 := hR3.c2
    refine bodyPost_ret (v := .tuple #[.agg #[.bool b6, .slice x5 n5 y5, .slice x6 n6 y6], .int .i64 err]) (by simp [results, Tryd.results15, go_sem, r0, r1, r2]) rfl ?_
    exact (rform_done bwa (by omega) (by omega) bm6 hform).gives HP.out
end
end Go.Proofs.YtekmalpmcbjpeaaDoor

/- The walk over RatBack: what was added is taken back, what was multiplied is divided back. -/
namespace Go.Proofs.YtekmalpmcbjpeaaDoor
set_option linter.unusedVariables false
set_option linter.unusedSimpArgs false
open Go.RowKit

theorem back_sum {X Y S xd yd sd : Int} (h : S * (xd * yd) = (X * yd + Y * xd) * sd) : X * (sd * yd) = (S * yd + -Y * sd) * xd := by
  rw [Int.add_mul, Int.neg_mul, Int.neg_mul]
  have e1 : S * yd * xd = S * (xd * yd) := by ac_rfl
  rw [e1, h, Int.add_mul]
  have e2 : X * yd * sd = X * (sd * yd) := by ac_rfl
  have e3 : Y * xd * sd = Y * sd * xd := by ac_rfl
  rw [e2, e3]
  omega
theorem sg_sg (b : Bool) (x : Int) : sg b (sg b x) = x := by unfold sg; cases b <;> simp
theorem sg_eq_mul (b : Bool) (x : Int) : sg b x = sg b 1 * x := by unfold sg; cases b <;> simp
theorem back_prod {X P xd yd yn pd : Int} {c : Bool} (h : P * (xd * yd) = X * sg c yn * pd) : X * (pd * yn) = P * sg c yd * xd := by
  have e1 : P * sg c yd * xd = sg c 1 * (P * (xd * yd)) := by rw [sg_eq_mul c yd]; ac_rfl
  rw [e1, h, sg_eq_mul c yn]
  have e2 : sg c 1 * sg c 1 = 1 := by unfold sg; cases c <;> simp
  have e3 : sg c 1 * (X * (sg c 1 * yn) * pd) = (sg c 1 * sg c 1) * (X * (pd * yn)) := by ac_rfl
  rw [e3, e2, Int.one_mul]

set_option maxRecDepth 100000 in
set_option maxHeartbeats 16000000 in
theorem ratBack_walk {w : World} {bx cy : Bool} {a1 a2 a3 a4 : Option Addr} {c1 c2 c3 c4 : Nat} {xn xd yn yd : List Int} (h1 : Rd w.heap.size w (.slice a1 xn.length c1) xn) (h2 : Rd w.heap.size w (.slice a2 xd.length c2) xd) (h3 : Rd w.heap.size w (.slice a3 yn.length c3) yn) (h4 : Rd w.heap.size w (.slice a4 yd.length c4) yd) (htab : Lib.TabIs Tryd.prog w "internal/strconv.uint64pow10" .u64 Lib.pow10Tab) :
    Calls Tryd.prog 3 #[.agg #[.bool bx, .slice a1 xn.length c1, .slice a2 xd.length c2], .agg #[.bool cy, .slice a3 yn.length c3, .slice a4 yd.length c4]] w fun e w' => e = .returned (.bool true) ∧ Below w.heap.size w w' := by
  obtain ⟨X, Y, g⟩ := nvar_in2 (bx := bx) (cy := cy) h1 h2 h3 h4
  clear h1 h2 h3 h4
  obtain ⟨X0, X1, X2⟩ := X.cells
  obtain ⟨Y0, Y1, Y2⟩ := Y.cells
  go_enter Tryd.func3, Tryd.ntmps3
  go_wp2_with fail
  clear X0 X1 X2 Y0 Y1 Y2
  generalize hA : ((w.alloc (.cells #[.bool bx, .slice a1 xn.length c1, .slice a2 xd.length c2] 24)).alloc (.cells #[.bool cy, .slice a3 yn.length c3, .slice a4 yd.length c4] 24)) = v1 at *
  clear hA
  refine (right_rat X.rn X.rd (Nat.le_refl _)).mono ?_
  rintro e w2 ⟨⟨r, rfl, hr⟩, k3⟩
  replace X := X.below k3
  replace Y := Y.below k3
  replace g := g.trans (k3.mono g.size)
  cases r with
  | false =>
    clear hr
    obtain ⟨X0, X1, X2⟩ := X.cells
    obtain ⟨Y0, Y1, Y2⟩ := Y.cells
    go_wp2_with fail
    refine (live_rat _ (tabIs_below htab g)).mono ?_
    rintro e wl4 ⟨rfl, kl5⟩
    go_wp2
    go_ret
    exact ⟨rfl, g.trans (kl5.mono g.size)⟩
  | true =>
    have PX : Hid (RightP bx xn xd) := hr.1 rfl
    clear hr
    obtain ⟨X0, X1, X2⟩ := X.cells
    obtain ⟨Y0, Y1, Y2⟩ := Y.cells
    go_wp2_with fail
    clear X0 X1 X2 Y0 Y1 Y2
    refine (right_rat Y.rn Y.rd (Nat.le_refl _)).mono ?_
    rintro e w6 ⟨⟨r, rfl, hr⟩, k7⟩
    replace X := X.below k7
    replace Y := Y.below k7
    replace g := g.trans (k7.mono g.size)
    cases r with
    | false =>
      clear hr
      obtain ⟨X0, X1, X2⟩ := X.cells
      obtain ⟨Y0, Y1, Y2⟩ := Y.cells
      go_wp2_with fail
      refine (live_rat _ (tabIs_below htab g)).mono ?_
      rintro e wl8 ⟨rfl, kl9⟩
      go_wp2
      go_ret
      exact ⟨rfl, g.trans (kl9.mono g.size)⟩
    | true =>
      have PY : Hid (RightP cy yn yd) := hr.1 rfl
      clear hr
      have HD : Hid (0 < val xd * val yd ∧ 0 < val yd * val xd) := ⟨Int.mul_pos (right_pos PX.out).1 (right_pos PY.out).1, Int.mul_pos (right_pos PY.out).1 (right_pos PX.out).1⟩
      obtain ⟨Y0, Y1, Y2⟩ := Y.cells
      obtain ⟨X0, X1, X2⟩ := X.cells
      obtain ⟨TL, _, _, kb10⟩ := nvar_two X Y
      replace X := X.below kb10
      replace Y := Y.below kb10
      replace g := g.trans (kb10.mono g.size)
      clear kb10
      go_wp2_with fail
      clear X0 X1 X2 Y0 Y1 Y2
      generalize hA : (w6.alloc (.cells #[.bool bx, .slice a1 xn.length c1, .slice a2 xd.length c2, .bool cy, .slice a3 yn.length c3, .slice a4 yd.length c4] 24)) = v11 at *
      clear hA
      refine (add2 TL X.rn X.rd Y.rn Y.rd (Nat.le_refl _)).mono ?_
      intro e w12 hm
      obtain ⟨k13, ⟨rfl, hbig⟩ | ⟨bs, sn, sd, s1, s2, s3, s4, rfl, os, ot, PS, hs⟩⟩ := gives_or hm ⟨PX.out, PY.out⟩
      · replace X := X.below k13
        replace Y := Y.below k13
        replace g := g.trans (k13.mono g.size)
        have HB : Hid (Big (sg bx (val xn) * val yd + sg cy (val yn) * val xd) (val xd * val yd)) := hbig
        clear hbig hm TL
        have kz14 := below_alloc w12 (.cells #[.bool false, .slice none 0 0, .slice none 0 0] 24)
        replace X := X.below kz14
        replace Y := Y.below kz14
        replace g := g.trans (kz14.mono g.size)
        clear kz14
        obtain ⟨Y0, Y1, Y2⟩ := Y.cells
        obtain ⟨X0, X1, X2⟩ := X.cells
        obtain ⟨TL, _, _, kb15⟩ := nvar_two Y X
        replace X := X.below kb15
        replace Y := Y.below kb15
        replace g := g.trans (kb15.mono g.size)
        clear kb15
        go_wp2_with fail
        clear X0 X1 X2 Y0 Y1 Y2
        rw [World.size_alloc] at TL
        generalize hA : ((w12.alloc (.cells #[.bool false, .slice none 0 0, .slice none 0 0] 24)).alloc (.cells #[.bool cy, .slice a3 yn.length c3, .slice a4 yd.length c4, .bool bx, .slice a1 xn.length c1, .slice a2 xd.length c2] 24)) = v16 at *
        clear hA
        refine (add2 TL Y.rn Y.rd X.rn X.rd (Nat.le_refl _)).mono ?_
        intro e w17 hm
        obtain ⟨k18, ⟨rfl, _⟩ | ⟨bt, tn, td, t1, t2, t3, t4, rfl, os, ot, PT, ht⟩⟩ := gives_or hm ⟨PY.out, PX.out⟩
        rotate_left
        · exfalso
          rw [Int.add_comm, Int.mul_comm (val yd)] at ht
          exact not_big PT ht HD.out.1 HB.out
        replace X := X.below k18
        replace Y := Y.below k18
        replace g := g.trans (k18.mono g.size)
        clear hm TL
        have kz19 := below_alloc w17 (.cells #[.bool false, .slice none 0 0, .slice none 0 0] 24)
        replace X := X.below kz19
        replace Y := Y.below kz19
        replace g := g.trans (kz19.mono g.size)
        clear kz19
        obtain ⟨Y0, Y1, Y2⟩ := Y.cells
        obtain ⟨X0, X1, X2⟩ := X.cells
        obtain ⟨TM, _, _, kb20⟩ := nvar_two X Y
        replace X := X.below kb20
        replace Y := Y.below kb20
        replace g := g.trans (kb20.mono g.size)
        clear kb20
        go_wp2_with fail
        clear X0 X1 X2 Y0 Y1 Y2
        rw [World.size_alloc] at TM
        generalize hA : ((w17.alloc (.cells #[.bool false, .slice none 0 0, .slice none 0 0] 24)).alloc (.cells #[.bool bx, .slice a1 xn.length c1, .slice a2 xd.length c2, .bool cy, .slice a3 yn.length c3, .slice a4 yd.length c4] 24)) = v21 at *
        clear hA
        refine (mul2 TM X.rn X.rd Y.rn Y.rd (Nat.le_refl _)).mono ?_
        intro e w22 hm
        obtain ⟨k23, ⟨rfl, _⟩ | ⟨bp, pn, pd, p1, p2, p3, p4, rfl, op, oq, PP, hp⟩⟩ := gives_or hm ⟨PX.out, PY.out⟩
        · replace X := X.below k23
          replace Y := Y.below k23
          replace g := g.trans (k23.mono g.size)
          clear hm TM
          have kz24 := below_alloc w22 (.cells #[.bool false, .slice none 0 0, .slice none 0 0] 24)
          replace X := X.below kz24
          replace Y := Y.below kz24
          replace g := g.trans (kz24.mono g.size)
          clear kz24
          go_wp2_with fail
          generalize hA : (w22.alloc (.cells #[.bool false, .slice none 0 0, .slice none 0 0] 24)) = v27 at *
          clear hA
          refine (live_rat _ (tabIs_below htab g)).mono ?_
          rintro e wl25 ⟨rfl, kl26⟩
          go_wp2
          go_ret
          exact ⟨rfl, g.trans (kl26.mono g.size)⟩
        · replace X := X.below k23
          replace Y := Y.below k23
          replace g := g.trans (k23.mono g.size)
          have HPr : Hid (sg bp (val pn) * (val xd * val yd) = sg bx (val xn) * sg cy (val yn) * val pd) := hp
          have PPr : Hid (RightP bp pn pd) := PP
          clear hp PP hm TM
          have ka29 := below_alloc w22 (.cells #[.bool bp, .slice p1 pn.length p2, .slice p3 pd.length p4] 24)
          have P := nvar_new (b := bp) op.rd oq.rd
          replace X := X.below ka29
          replace Y := Y.below ka29
          replace g := g.trans (ka29.mono g.size)
          clear ka29
          obtain ⟨Y0, Y1, Y2⟩ := Y.cells
          go_wp2_with fail
          clear Y0 Y1 Y2
          generalize hA : (w22.alloc (.cells #[.bool bp, .slice p1 pn.length p2, .slice p3 pd.length p4] 24)) = v30 at *
          clear hA
          refine (sign_rat Y.rn Y.rd).mono ?_
          rintro e w31 ⟨k32, rs, rfl, HS⟩
          replace X := X.below k32
          replace Y := Y.below k32
          replace P := P.below k32
          replace g := g.trans (k32.mono g.size)
          by_cases hs : rs = 0
          · subst hs
            go_wp2_with fail
            refine (live_rat _ (tabIs_below htab g)).mono ?_
            rintro e wl33 ⟨rfl, kl34⟩
            go_wp2
            go_ret
            exact ⟨rfl, g.trans (kl34.mono g.size)⟩
          · have hsb : (rs == 0) = false := by rw [beq_eq_false_iff_ne]; exact hs
            have HY0 : Hid (0 < yn.length) := by
              have h5 := HS.out.2 PY.out
              have h6 : ¬ val yn = 0 := fun h7 => hs (by rw [h5, h7, sg_zero]; exact cmpI_eq rfl)
              have h8 := can_zero PY.out.2.2.1
              unfold Hid
              omega
            have HYp : Hid (0 < val pd * val yn) := by
              have h5 := can_low PY.out.2.2.1 HY0.out
              have h6 := pw_pos (yn.length - 1)
              exact Int.mul_pos (right_pos PPr.out).1 (by omega)
            obtain ⟨P0, P1, P2⟩ := P.cells
            obtain ⟨Y0, Y1, Y2⟩ := Y.cells
            go_wp2_with fail
            clear P0 P1 P2 Y0 Y1 Y2
            refine (div_nz P.rn P.rd Y.rn Y.rd (Nat.le_refl _) HY0.out).mono ?_
            intro e w35 hm
            obtain ⟨k36, q1, q2, q3, q4, rfl, on, od⟩ := gives_is hm ⟨PPr.out, PY.out⟩ HYp.out PX.out (back_prod HPr.out)
            clear hm
            replace X := X.below k36
            replace Y := Y.below k36
            replace P := P.below k36
            replace g := g.trans (k36.mono g.size)
            have ka37 := below_alloc w35 (.cells #[.bool bx, .slice q1 xn.length q2, .slice q3 xd.length q4] 24)
            have Q := nvar_new (b := bx) on.rd od.rd
            replace X := X.below ka37
            replace Y := Y.below ka37
            replace P := P.below ka37
            replace g := g.trans (ka37.mono g.size)
            clear ka37
            go_wp2_with fail
            generalize hA : (w35.alloc (.cells #[.bool bx, .slice q1 xn.length q2, .slice q3 xd.length q4] 24)) = v38 at *
            clear hA
            refine (live_rat _ (tabIs_below htab g)).mono ?_
            rintro e w39 ⟨rfl, k40⟩
            replace X := X.below k40
            replace Y := Y.below k40
            replace P := P.below k40
            replace Q := Q.below k40
            replace g := g.trans (k40.mono g.size)
            obtain ⟨Q0, Q1, Q2⟩ := Q.cells
            obtain ⟨X0, X1, X2⟩ := X.cells
            go_wp2_with fail
            clear Q0 Q1 Q2 X0 X1 X2
            refine (same_rat Q.rn Q.rd X.rn X.rd).mono ?_
            rintro e w41 ⟨rfl, k42⟩
            go_wp2
            go_ret
            exact ⟨rfl, g.trans (k42.mono g.size)⟩
      · replace X := X.below k13
        replace Y := Y.below k13
        replace g := g.trans (k13.mono g.size)
        have HSu : Hid (sg bs (val sn) * (val xd * val yd) = (sg bx (val xn) * val yd + sg cy (val yn) * val xd) * val sd) := hs
        have PSu : Hid (RightP bs sn sd) := PS
        clear hs PS hm TL
        have ka55 := below_alloc w12 (.cells #[.bool bs, .slice s1 sn.length s2, .slice s3 sd.length s4] 24)
        have S := nvar_new (b := bs) os.rd ot.rd
        replace X := X.below ka55
        replace Y := Y.below ka55
        replace g := g.trans (ka55.mono g.size)
        clear ka55
        obtain ⟨Y0, Y1, Y2⟩ := Y.cells
        obtain ⟨X0, X1, X2⟩ := X.cells
        obtain ⟨TL, _, _, kb56⟩ := nvar_two Y X
        replace X := X.below kb56
        replace Y := Y.below kb56
        replace S := S.below kb56
        replace g := g.trans (kb56.mono g.size)
        clear kb56
        go_wp2_with fail
        clear X0 X1 X2 Y0 Y1 Y2
        rw [World.size_alloc] at TL
        generalize hA : ((w12.alloc (.cells #[.bool bs, .slice s1 sn.length s2, .slice s3 sd.length s4] 24)).alloc (.cells #[.bool cy, .slice a3 yn.length c3, .slice a4 yd.length c4, .bool bx, .slice a1 xn.length c1, .slice a2 xd.length c2] 24)) = v57 at *
        clear hA
        refine (add2 TL Y.rn Y.rd X.rn X.rd (Nat.le_refl _)).mono ?_
        intro e w58 hm
        obtain ⟨k59, t1, t2, t3, t4, rfl, on, od⟩ := gives_is hm ⟨PY.out, PX.out⟩ HD.out.2 PSu.out (by rw [Int.mul_comm (val yd), Int.add_comm (sg cy (val yn) * val xd)]; exact HSu.out)
        clear hm TL
        replace X := X.below k59
        replace Y := Y.below k59
        replace S := S.below k59
        replace g := g.trans (k59.mono g.size)
        have ka60 := below_alloc w58 (.cells #[.bool bs, .slice t1 sn.length t2, .slice t3 sd.length t4] 24)
        have U := nvar_new (b := bs) on.rd od.rd
        replace X := X.below ka60
        replace Y := Y.below ka60
        replace S := S.below ka60
        replace g := g.trans (ka60.mono g.size)
        clear ka60
        obtain ⟨S0, S1, S2⟩ := S.cells
        obtain ⟨U0, U1, U2⟩ := U.cells
        go_wp2_with fail
        clear S0 S1 S2 U0 U1 U2
        generalize hA : (w58.alloc (.cells #[.bool bs, .slice t1 sn.length t2, .slice t3 sd.length t4] 24)) = v61 at *
        clear hA
        refine (same_rat S.rn S.rd U.rn U.rd).mono ?_
        rintro e w62 ⟨rfl, k63⟩
        replace X := X.below k63
        replace Y := Y.below k63
        replace S := S.below k63
        replace U := U.below k63
        replace g := g.trans (k63.mono g.size)
        obtain ⟨S0, S1, S2⟩ := S.cells
        obtain ⟨Y0, Y1, Y2⟩ := Y.cells
        go_wp2_with fail
        clear S0 S1 S2 Y0 Y1 Y2
        refine (sub_rat S.rn S.rd Y.rn Y.rd (Nat.le_refl _)).mono ?_
        intro e w64 hm
        obtain ⟨k65, d1, d2, d3, d4, rfl, on', od'⟩ := gives_is hm ⟨PSu.out, PY.out⟩ (Int.mul_pos (right_pos PSu.out).1 (right_pos PY.out).1) PX.out (by rw [sg_not]; exact back_sum HSu.out)
        clear hm
        replace X := X.below k65
        replace Y := Y.below k65
        replace S := S.below k65
        replace U := U.below k65
        replace g := g.trans (k65.mono g.size)
        have ka66 := below_alloc w64 (.cells #[.bool bx, .slice d1 xn.length d2, .slice d3 xd.length d4] 24)
        have D := nvar_new (b := bx) on'.rd od'.rd
        replace X := X.below ka66
        replace Y := Y.below ka66
        replace S := S.below ka66
        replace U := U.below ka66
        replace g := g.trans (ka66.mono g.size)
        clear ka66
        obtain ⟨D0, D1, D2⟩ := D.cells
        obtain ⟨X0, X1, X2⟩ := X.cells
        go_wp2_with fail
        clear D0 D1 D2 X0 X1 X2
        generalize hA : (w64.alloc (.cells #[.bool bx, .slice d1 xn.length d2, .slice d3 xd.length d4] 24)) = v67 at *
        clear hA
        refine (same_rat D.rn D.rd X.rn X.rd).mono ?_
        rintro e w68 ⟨rfl, k69⟩
        replace X := X.below k69
        replace Y := Y.below k69
        replace S := S.below k69
        replace U := U.below k69
        replace D := D.below k69
        replace g := g.trans (k69.mono g.size)
        clear S U D
        obtain ⟨Y0, Y1, Y2⟩ := Y.cells
        obtain ⟨X0, X1, X2⟩ := X.cells
        obtain ⟨TM, _, _, kb70⟩ := nvar_two X Y
        replace X := X.below kb70
        replace Y := Y.below kb70
        replace g := g.trans (kb70.mono g.size)
        clear kb70
        go_wp2_with fail
        clear X0 X1 X2 Y0 Y1 Y2
        generalize hA : (w68.alloc (.cells #[.bool bx, .slice a1 xn.length c1, .slice a2 xd.length c2, .bool cy, .slice a3 yn.length c3, .slice a4 yd.length c4] 24)) = v71 at *
        clear hA
        refine (mul2 TM X.rn X.rd Y.rn Y.rd (Nat.le_refl _)).mono ?_
        intro e w72 hm
        obtain ⟨k73, ⟨rfl, _⟩ | ⟨bp, pn, pd, p1, p2, p3, p4, rfl, op, oq, PP, hp⟩⟩ := gives_or hm ⟨PX.out, PY.out⟩
        · replace X := X.below k73
          replace Y := Y.below k73
          replace g := g.trans (k73.mono g.size)
          clear hm TM
          have kz74 := below_alloc w72 (.cells #[.bool false, .slice none 0 0, .slice none 0 0] 24)
          replace X := X.below kz74
          replace Y := Y.below kz74
          replace g := g.trans (kz74.mono g.size)
          clear kz74
          go_wp2_with fail
          generalize hA : (w72.alloc (.cells #[.bool false, .slice none 0 0, .slice none 0 0] 24)) = v77 at *
          clear hA
          refine (live_rat _ (tabIs_below htab g)).mono ?_
          rintro e wl75 ⟨rfl, kl76⟩
          go_wp2
          go_ret
          exact ⟨rfl, g.trans (kl76.mono g.size)⟩
        · replace X := X.below k73
          replace Y := Y.below k73
          replace g := g.trans (k73.mono g.size)
          have HPr : Hid (sg bp (val pn) * (val xd * val yd) = sg bx (val xn) * sg cy (val yn) * val pd) := hp
          have PPr : Hid (RightP bp pn pd) := PP
          clear hp PP hm TM
          have ka79 := below_alloc w72 (.cells #[.bool bp, .slice p1 pn.length p2, .slice p3 pd.length p4] 24)
          have P := nvar_new (b := bp) op.rd oq.rd
          replace X := X.below ka79
          replace Y := Y.below ka79
          replace g := g.trans (ka79.mono g.size)
          clear ka79
          obtain ⟨Y0, Y1, Y2⟩ := Y.cells
          go_wp2_with fail
          clear Y0 Y1 Y2
          generalize hA : (w72.alloc (.cells #[.bool bp, .slice p1 pn.length p2, .slice p3 pd.length p4] 24)) = v80 at *
          clear hA
          refine (sign_rat Y.rn Y.rd).mono ?_
          rintro e w81 ⟨k82, rs, rfl, HS⟩
          replace X := X.below k82
          replace Y := Y.below k82
          replace P := P.below k82
          replace g := g.trans (k82.mono g.size)
          by_cases hs : rs = 0
          · subst hs
            go_wp2_with fail
            refine (live_rat _ (tabIs_below htab g)).mono ?_
            rintro e wl83 ⟨rfl, kl84⟩
            go_wp2
            go_ret
            exact ⟨rfl, g.trans (kl84.mono g.size)⟩
          · have hsb : (rs == 0) = false := by rw [beq_eq_false_iff_ne]; exact hs
            have HY0 : Hid (0 < yn.length) := by
              have h5 := HS.out.2 PY.out
              have h6 : ¬ val yn = 0 := fun h7 => hs (by rw [h5, h7, sg_zero]; exact cmpI_eq rfl)
              have h8 := can_zero PY.out.2.2.1
              unfold Hid
              omega
            have HYp : Hid (0 < val pd * val yn) := by
              have h5 := can_low PY.out.2.2.1 HY0.out
              have h6 := pw_pos (yn.length - 1)
              exact Int.mul_pos (right_pos PPr.out).1 (by omega)
            obtain ⟨P0, P1, P2⟩ := P.cells
            obtain ⟨Y0, Y1, Y2⟩ := Y.cells
            go_wp2_with fail
            clear P0 P1 P2 Y0 Y1 Y2
            refine (div_nz P.rn P.rd Y.rn Y.rd (Nat.le_refl _) HY0.out).mono ?_
            intro e w85 hm
            obtain ⟨k86, q1, q2, q3, q4, rfl, on, od⟩ := gives_is hm ⟨PPr.out, PY.out⟩ HYp.out PX.out (back_prod HPr.out)
            clear hm
            replace X := X.below k86
            replace Y := Y.below k86
            replace P := P.below k86
            replace g := g.trans (k86.mono g.size)
            have ka87 := below_alloc w85 (.cells #[.bool bx, .slice q1 xn.length q2, .slice q3 xd.length q4] 24)
            have Q := nvar_new (b := bx) on.rd od.rd
            replace X := X.below ka87
            replace Y := Y.below ka87
            replace P := P.below ka87
            replace g := g.trans (ka87.mono g.size)
            clear ka87
            go_wp2_with fail
            generalize hA : (w85.alloc (.cells #[.bool bx, .slice q1 xn.length q2, .slice q3 xd.length q4] 24)) = v88 at *
            clear hA
            refine (live_rat _ (tabIs_below htab g)).mono ?_
            rintro e w89 ⟨rfl, k90⟩
            replace X := X.below k90
            replace Y := Y.below k90
            replace P := P.below k90
            replace Q := Q.below k90
            replace g := g.trans (k90.mono g.size)
            obtain ⟨Q0, Q1, Q2⟩ := Q.cells
            obtain ⟨X0, X1, X2⟩ := X.cells
            go_wp2_with fail
            clear Q0 Q1 Q2 X0 X1 X2
            refine (same_rat Q.rn Q.rd X.rn X.rd).mono ?_
            rintro e w91 ⟨rfl, k92⟩
            go_wp2
            go_ret
            exact ⟨rfl, g.trans (k92.mono g.size)⟩
end Go.Proofs.YtekmalpmcbjpeaaDoor
