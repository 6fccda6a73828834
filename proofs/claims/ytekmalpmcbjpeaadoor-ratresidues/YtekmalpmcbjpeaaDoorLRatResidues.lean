/- Two numbers come in, a number goes out: the variables. rat.Sub, rat.Sign. -/
import Derived.Test.YtekmalpmcbjpeaaDoorJ4
import Derived.Test.YtekmalpmcbjpeaaDoorJ5
namespace Go.Proofs.YtekmalpmcbjpeaaDoor
set_option linter.unusedVariables false
set_option linter.unusedSimpArgs false
open Go.RowKit

/-- What lies in memory where two numbers have come in, a result's variable is laid, and both were laid into a list. -/
structure In2 (w W : World) (x0 x1 x2 y0 y1 y2 : Value) : Prop where
  X : Box3 W w.heap.size 24 x0 x1 x2
  Y : Box3 W (w.heap.size + 1) 24 y0 y1 y2
  R : Box3 W (w.heap.size + 1 + 1) 24 (.bool false) (.slice none 0 0) (.slice none 0 0)
  T : Two W (w.heap.size + 1 + 1 + 1) x0 x1 x2 y0 y1 y2
  b : Below w.heap.size w W
  s : w.heap.size + 1 + 1 + 1 < W.heap.size
theorem in2_new (w : World) (x0 x1 x2 y0 y1 y2 : Value) : In2 w ((((w.alloc (.cells #[x0, x1, x2] 24)).alloc (.cells #[y0, y1, y2] 24)).alloc (.cells #[.bool false, .slice none 0 0, .slice none 0 0] 24)).alloc (.cells #[x0, x1, x2, y0, y1, y2] 24)) x0 x1 x2 y0 y1 y2 where
  X := (((box3_new w _ _ _ _).below (below_alloc _ _) (by simp)).below (below_alloc _ _) (by simp <;> omega)).below (below_alloc _ _) (by simp <;> omega)
  Y := by
    have h5 := ((box3_new (w.alloc (.cells #[x0, x1, x2] 24)) y0 y1 y2 24).below (below_alloc _ (.cells #[.bool false, .slice none 0 0, .slice none 0 0] 24)) (by simp)).below (below_alloc _ (.cells #[x0, x1, x2, y0, y1, y2] 24)) (by simp <;> omega)
    simpa using h5
  R := by
    have h5 := (box3_new ((w.alloc (.cells #[x0, x1, x2] 24)).alloc (.cells #[y0, y1, y2] 24)) (.bool false) (.slice none 0 0) (.slice none 0 0) 24).below (below_alloc _ (.cells #[x0, x1, x2, y0, y1, y2] 24)) (by simp)
    simpa using h5
  T := by
    have h5 := two_new (((w.alloc (.cells #[x0, x1, x2] 24)).alloc (.cells #[y0, y1, y2] 24)).alloc (.cells #[.bool false, .slice none 0 0, .slice none 0 0] 24)) x0 x1 x2 y0 y1 y2 24
    simp only [World.size_alloc] at h5
    exact h5
  b := (((below_alloc w _).alloc (by simp) _).alloc (by simp <;> omega) _).alloc (by simp <;> omega) _
  s := by simp

/-- An answer with an error. -/
theorem gives_err {w w2 : World} {P : Prop} {N D : Int} (hP : ¬ P) (hb : Below w.heap.size w w2) : Gives w P N D (.returned (.tuple #[.agg #[.bool false, .slice none 0 0, .slice none 0 0], .int .i64 22])) w2 :=
  ⟨hb, false, none, 0, 0, none, 0, 0, 22, rfl, Or.inl ⟨hP, rfl, rfl, rfl, rfl, rfl, rfl, rfl, rfl⟩⟩
/-- What was made is what is given. -/
theorem RMakes.gives {w w' : World} {P : Prop} {N D : Int} {e : Ending} (h : RMakes w N D e w') (hP : P) : Gives w P N D e w' := by
  obtain ⟨hb, b, x1, n, y1, x2, m, y2, err, rfl, hf⟩ := h.form
  refine ⟨hb, b, x1, n, y1, x2, m, y2, err, rfl, ?_⟩
  rcases hf.out with h | h
  · exact Or.inr (Or.inl ⟨hP, h⟩)
  · exact Or.inr (Or.inr ⟨hP, h⟩)

theorem Box3.set0 {w : World} {B ty : Nat} {x y z : Value} (h : Box3 w B ty x y z) (v : Value) : Box3 (w.setCell ⟨B, 0, none⟩ v) B ty v y z := by
  unfold Box3 at h ⊢; simp [World.setCell, Array.getElem?_modify, h]
theorem Box3.apart {w : World} {B ty : Nat} {x y z : Value} (h : Box3 w B ty x y z) {p : Addr} (hp : p.block ≠ B) (v : Value) : Box3 (w.setCell p v) B ty x y z := by
  unfold Box3 at h ⊢
  have : ¬ p.block = B := hp
  simp [World.setCell, Array.getElem?_modify, h, this]

section
variable {B : Nat} {w : World} {bx cy : Bool} {a1 a2 a3 a4 : Option Addr} {c1 c2 c3 c4 : Nat} {xn xd yn yd : List Int}

set_option maxRecDepth 100000 in
set_option maxHeartbeats 3200000 in
theorem sub_rat (h1 : Rd B w (.slice a1 xn.length c1) xn) (h2 : Rd B w (.slice a2 xd.length c2) xd) (h3 : Rd B w (.slice a3 yn.length c3) yn) (h4 : Rd B w (.slice a4 yd.length c4) yd) (hB : B ≤ w.heap.size) :
    Calls Tryd.prog 12 #[.agg #[.bool bx, .slice a1 xn.length c1, .slice a2 xd.length c2], .agg #[.bool cy, .slice a3 yn.length c3, .slice a4 yd.length c4]] w fun e w' => Gives w (RightP bx xn xd ∧ RightP cy yn yd) (sg bx (val xn) * val yd + sg (!cy) (val yn) * val xd) (val xd * val yd) e w' := by
  have I := in2_new w (.bool bx) (.slice a1 xn.length c1) (.slice a2 xd.length c2) (.bool cy) (.slice a3 yn.length c3) (.slice a4 yd.length c4)
  go_enter Tryd.func12, Tryd.ntmps12
  go_wp2_with fail
  generalize hA : ((((w.alloc (.cells #[.bool bx, .slice a1 xn.length c1, .slice a2 xd.length c2] 24)).alloc (.cells #[.bool cy, .slice a3 yn.length c3, .slice a4 yd.length c4] 24)).alloc (.cells #[.bool false, .slice none 0 0, .slice none 0 0] 24)).alloc (.cells #[.bool bx, .slice a1 xn.length c1, .slice a2 xd.length c2, .bool cy, .slice a3 yn.length c3, .slice a4 yd.length c4] 24)) = wQ at *
  clear hA
  obtain ⟨hX, hY, hR, hT, b0, s0⟩ := I
  refine (allRight2 hT (h1.below (b0.mono hB)) (h2.below (b0.mono hB)) (h3.below (b0.mono hB)) (h4.below (b0.mono hB)) (by omega)).mono ?_
  rintro e wa ⟨⟨r, rfl, hr⟩, ba⟩
  have sa := ba.size
  have bwa : Below w.heap.size w wa := b0.trans (ba.mono (by omega))
  have hRa := hR.below ba (by omega)
  cases r with
  | false =>
    have HP : Hid (¬ (RightP bx xn xd ∧ RightP cy yn yd)) := fun h => by have := hr.2 h; cases this
    clear hr
    have q0 := hRa.c0
    have q1 := hRa.c1
    have q2 := hRa.c2
    have p0 := hRa.f0
    have p1 := hRa.f1
    have p2 := hRa.f2
    go_wp2
    have hR3 := hRa.set (.bool false) (.slice none 0 0) (.slice none 0 0)
    have r0 := hR3.c0
    have r1 := hR3.c1
    have r2 := hR3.c2
    refine bodyPost_ret (v := .tuple #[.agg #[.bool false, .slice none 0 0, .slice none 0 0], .int .i64 22]) (by simp [results, Tryd.results12, go_sem, r0, r1, r2]) rfl ?_
    exact gives_err HP.out (Below.set3 bwa (by omega) _ _ _)
  | true =>
    have HP : Hid (RightP bx xn xd ∧ RightP cy yn yd) := hr.1 rfl
    clear hr
    have hXa := hX.below ba (by omega)
    have hYa := hY.below ba (by omega)
    have y0 := hYa.c0
    have y3 := hYa.f0
    have hYb := hYa.set0 (.bool (!cy))
    have hXb := hXa.apart (p := ⟨w.heap.size + 1, 0, none⟩) (by simp) (.bool (!cy))
    have hRb := hRa.apart (p := ⟨w.heap.size + 1, 0, none⟩) (by simp) (.bool (!cy))
    have bwb : Below w.heap.size w (wa.setCell ⟨w.heap.size + 1, 0, none⟩ (.bool (!cy))) := bwa.setCell (p := ⟨w.heap.size + 1, 0, none⟩) (by simp) _
    have sb : (wa.setCell ⟨w.heap.size + 1, 0, none⟩ (.bool (!cy))).heap.size = wa.heap.size := by simp [World.setCell]
    have k0 := hXb.c0
    have k1 := hXb.c1
    have k2 := hXb.c2
    have k3 := hYb.c0
    have k4 := hYb.c1
    have k5 := hYb.c2
    have hpl := plus_weak (bx := bx) (cy := !cy) (h1.below (bwb.mono hB)) (h2.below (bwb.mono hB)) (h3.below (bwb.mono hB)) (h4.below (bwb.mono hB)) (by omega) HP.out.1.weak HP.out.2.weak
    go_wp2_with fail
    clear k0 k1 k2 k3 k4 k5 y0 y3
    generalize hA : wa.setCell ⟨w.heap.size + 1, 0, none⟩ (.bool (!cy)) = wb at *
    clear hA
    refine hpl.mono ?_
    intro e w6 hm6
    obtain ⟨bm6, b6, x5, n5, y5, x6, n6, y6, err, rfl, hform⟩ := hm6.form
    have hRc := hRb.below bm6 (by omega)
    have q0 := hRc.c0
    have q1 := hRc.c1
    have q2 := hRc.c2
    have p0 := hRc.f0
    have p1 := hRc.f1
    have p2 := hRc.f2
    clear hpl hm6
    go_wp2
    have hR3 := hRc.set (.bool b6) (.slice x5 n5 y5) (.slice x6 n6 y6)
    have r0 := hR3.c0
    have r1 := hR3.c1
    have r2 := hR3.c2
    refine bodyPost_ret (v := .tuple #[.agg #[.bool b6, .slice x5 n5 y5, .slice x6 n6 y6], .int .i64 err]) (by simp [results, Tryd.results12, go_sem, r0, r1, r2]) rfl ?_
    exact (rform_done bwb (by omega) (by omega) bm6 hform).gives HP.out

/-- What rat.Sign answers. -/
def Signs (P : Prop) (b : Bool) (ns : List Int) (e : Ending) : Prop := ∃ r : Int, e = .returned (.int .i64 r) ∧ Hid ((¬ P → r = 0) ∧ (P → r = cmpI (sg b (val ns)) 0))

set_option maxRecDepth 100000 in
set_option maxHeartbeats 1600000 in
theorem sign_rat (h1 : Rd w.heap.size w (.slice a1 xn.length c1) xn) (h2 : Rd w.heap.size w (.slice a2 xd.length c2) xd) :
    Calls Tryd.prog 14 #[.agg #[.bool bx, .slice a1 xn.length c1, .slice a2 xd.length c2]] w fun e w' => Below w.heap.size w w' ∧ Signs (RightP bx xn xd) bx xn e := by
  have X := nvar_new (b := bx) h1 h2
  have b0 := below_alloc w (.cells #[.bool bx, .slice a1 xn.length c1, .slice a2 xd.length c2] 24)
  obtain ⟨k0, k1, k2⟩ := X.cells
  go_enter Tryd.func14, Tryd.ntmps14
  go_wp2_with fail
  clear k0 k1 k2
  generalize hA : w.alloc (.cells #[.bool bx, .slice a1 xn.length c1, .slice a2 xd.length c2] 24) = v at *
  clear hA
  refine (right_rat X.rn X.rd (Nat.le_refl _)).mono ?_
  rintro e wa ⟨⟨r, rfl, hr⟩, ba⟩
  replace X := X.below ba
  have g1 : Below w.heap.size w wa := b0.trans (ba.mono b0.size)
  obtain ⟨k0, k1, k2⟩ := X.cells
  cases r with
  | false =>
    have HP : Hid (¬ RightP bx xn xd) := fun h => by have := hr.2 h; cases this
    clear hr
    go_wp2
    go_ret
    exact ⟨g1, 0, rfl, fun _ => rfl, fun h => absurd h HP.out⟩
  | true =>
    have HP : Hid (RightP bx xn xd) := hr.1 rfl
    clear hr
    by_cases h0 : 0 < xn.length
    · have hb : ((xn.length : Int) == 0) = false := by rw [beq_eq_false_iff_ne]; omega
      have HV : Hid (0 < val xn) := by
        have h5 := can_low HP.out.2.2.1 h0
        have h6 := pw_pos (xn.length - 1)
        unfold Hid; omega
      cases bx with
      | false =>
        go_wp2
        go_ret
        exact ⟨g1, 1, rfl, fun h => absurd HP.out h, fun _ => (cmpI_gt (by have := HV.out; simpa [sg] using this)).symm⟩
      | true =>
        go_wp2
        go_ret
        exact ⟨g1, -1, rfl, fun h => absurd HP.out h, fun _ => (cmpI_lt (by have := HV.out; simp [sg]; omega)).symm⟩
    · have hb : ((xn.length : Int) == 0) = true := by rw [beq_iff_eq]; omega
      have HV : Hid (val xn = 0) := (can_zero HP.out.2.2.1).1 (by omega)
      go_wp2
      go_ret
      exact ⟨g1, 0, rfl, fun h => absurd HP.out h, fun _ => (cmpI_eq (by rw [HV.out, sg_zero])).symm⟩
end
end Go.Proofs.YtekmalpmcbjpeaaDoor

/- What a reckoning answers, where the number is known. -/
namespace Go.Proofs.YtekmalpmcbjpeaaDoor
set_option linter.unusedVariables false
set_option linter.unusedSimpArgs false
open Go.RowKit

/-- Lowest terms are unique, however many limbs. -/
theorem lowest_can {b c : Bool} {ns ds ms es : List Int} {N D : Int} (cn : can ns) (cd : can ds) (hd : 0 < ds.length) (hg : gI (val ns) (val ds) = 1) (h : sg b (val ns) * D = N * val ds) (hD : 0 < D) (cm : can ms) (ce : can es) (he : 0 < es.length) (kg : gI (val ms) (val es) = 1) (k : sg c (val ms) * D = N * val es) : ns = ms ∧ ds = es ∧ (0 < val ns → b = c) := by
  have dp : 0 < val ds := by have := can_low cd hd; have := pw_pos (ds.length - 1); omega
  have ep : 0 < val es := by have := can_low ce he; have := pw_pos (es.length - 1); omega
  have np := (val_bound cn.1).1
  have mp := (val_bound cm.1).1
  have e1 : sg b (val ns) * val es = sg c (val ms) * val ds := by
    refine cancel hD ?_
    have q1 : sg b (val ns) * val es * D = sg b (val ns) * D * val es := by ac_rfl
    have q2 : sg c (val ms) * val ds * D = sg c (val ms) * D * val ds := by ac_rfl
    rw [q1, q2, h, k]
    ac_rfl
  rw [← sg_mul, ← sg_mul] at e1
  have n1 : 0 ≤ val ns * val es := Int.mul_nonneg np (by omega)
  have n2 : 0 ≤ val ms * val ds := Int.mul_nonneg mp (by omega)
  have hab : val ns * val es = val ms * val ds ∧ (0 < val ns * val es → b = c) := by
    unfold sg at e1
    generalize val ns * val es = p at *
    generalize val ms * val ds = q at *
    cases b <;> cases c <;> simp at e1
    · exact ⟨e1, fun _ => rfl⟩
    · exact ⟨by omega, fun _ => by omega⟩
    · exact ⟨by omega, fun _ => by omega⟩
    · exact ⟨by omega, fun _ => rfl⟩
  obtain ⟨n, en⟩ := Int.eq_ofNat_of_zero_le np
  obtain ⟨d, ed⟩ := Int.eq_ofNat_of_zero_le (Int.le_of_lt dp)
  obtain ⟨m, em⟩ := Int.eq_ofNat_of_zero_le mp
  obtain ⟨f, ef⟩ := Int.eq_ofNat_of_zero_le (Int.le_of_lt ep)
  have g1 : Nat.gcd n d = 1 := by
    rw [en, ed] at hg
    unfold gI at hg
    simp only [Int.toNat_natCast] at hg
    omega
  have g2 : Nat.gcd m f = 1 := by
    rw [em, ef] at kg
    unfold gI at kg
    simp only [Int.toNat_natCast] at kg
    omega
  have hm := hab.1
  rw [en, ed, em, ef] at hm
  have hmn : n * f = m * d := by exact_mod_cast hm
  have d1 : d ∣ f := (Nat.Coprime.dvd_of_dvd_mul_left (show Nat.Coprime d n by rw [Nat.coprime_comm]; exact g1) ⟨m, by rw [hmn, Nat.mul_comm]⟩)
  have d2 : f ∣ d := (Nat.Coprime.dvd_of_dvd_mul_left (show Nat.Coprime f m by rw [Nat.coprime_comm]; exact g2) ⟨n, by rw [← hmn, Nat.mul_comm]⟩)
  have hdf : d = f := Nat.dvd_antisymm d1 d2
  subst hdf
  have hd0 : 0 < d := by omega
  have hnm : n = m := Nat.eq_of_mul_eq_mul_right hd0 hmn
  exact ⟨can_inj cn cm (by rw [en, em, hnm]), can_inj cd ce (by rw [ed, ef]), fun h0 => hab.2 (Int.mul_pos h0 ep)⟩

/-- What fits is not too great. -/
theorem not_big {b : Bool} {ns ds : List Int} {N D : Int} (hr : RightP b ns ds) (h : sg b (val ns) * D = N * val ds) (hD : 0 < D) : ¬ Big N D := by
  rintro ⟨c, ms, es, cm, ce, he, kg, k, hl⟩
  obtain ⟨rfl, rfl, _⟩ := lowest_can hr.2.2.1 hr.2.2.2.1 hr.2.2.2.2.2.1 hr.2.2.2.2.2.2 h hD cm ce he kg k
  have := hr.1
  have := hr.2.1
  omega
theorem right_is {b c : Bool} {ns ds ms es : List Int} {N D : Int} (hr : RightP b ns ds) (h : sg b (val ns) * D = N * val ds) (hD : 0 < D) (kr : RightP c ms es) (k : sg c (val ms) * D = N * val es) : c = b ∧ ms = ns ∧ es = ds := by
  refine lowest kr hr (cancel hD ?_)
  have q1 : sg c (val ms) * val ds * D = sg c (val ms) * D * val ds := by ac_rfl
  have q2 : sg b (val ns) * val es * D = sg b (val ns) * D * val es := by ac_rfl
  rw [q1, q2, h, k]
  ac_rfl

/-- A known number is answered. -/
def IsNum' (w : World) (b : Bool) (ns ds : List Int) (e : Ending) (w' : World) : Prop :=
  Below w.heap.size w w' ∧ ∃ a1 c1 a2 c2, e = .returned (.tuple #[.agg #[.bool b, .slice a1 ns.length c1, .slice a2 ds.length c2], .int .i64 0]) ∧ Own w.heap.size w' (.slice a1 ns.length c1) ns ∧ Own w.heap.size w' (.slice a2 ds.length c2) ds
theorem gives_is {w w' : World} {P : Prop} {N D : Int} {e : Ending} {b : Bool} {ns ds : List Int} (h : Gives w P N D e w') (hP : P) (hD : 0 < D) (hr : RightP b ns ds) (hv : sg b (val ns) * D = N * val ds) : IsNum' w b ns ds e w' := by
  obtain ⟨hb, c, x1, n, y1, x2, m, y2, err, rfl, ho⟩ := h
  refine ⟨hb, ?_⟩
  rcases ho.out with ⟨hn, _⟩ | ⟨_, _, _, _, _, _, _, _, _, hbig⟩ | ⟨_, rfl, ms, es, rfl, rfl, on, od, kr, kv⟩
  · exact absurd hP hn
  · exact absurd hbig (not_big hr hv hD)
  · obtain ⟨rfl, rfl, rfl⟩ := right_is hr hv hD kr kv
    exact ⟨x1, y1, x2, y2, rfl, on, od⟩
/-- What a reckoning answers: too great, or a right number. -/
theorem gives_or {w w' : World} {P : Prop} {N D : Int} {e : Ending} (h : Gives w P N D e w') (hP : P) : Below w.heap.size w w' ∧ ((e = .returned (.tuple #[.agg #[.bool false, .slice none 0 0, .slice none 0 0], .int .i64 8]) ∧ Big N D) ∨ ∃ b ns ds a1 c1 a2 c2, e = .returned (.tuple #[.agg #[.bool b, .slice a1 ns.length c1, .slice a2 ds.length c2], .int .i64 0]) ∧ Own w.heap.size w' (.slice a1 ns.length c1) ns ∧ Own w.heap.size w' (.slice a2 ds.length c2) ds ∧ RightP b ns ds ∧ sg b (val ns) * D = N * val ds) := by
  obtain ⟨hb, c, x1, n, y1, x2, m, y2, err, rfl, ho⟩ := h
  refine ⟨hb, ?_⟩
  rcases ho.out with ⟨hn, _⟩ | ⟨_, rfl, rfl, rfl, rfl, rfl, rfl, rfl, rfl, hbig⟩ | ⟨_, rfl, ms, es, rfl, rfl, on, od, kr, kv⟩
  · exact absurd hP hn
  · exact Or.inl ⟨rfl, hbig⟩
  · exact Or.inr ⟨c, ms, es, x1, y1, x2, y2, rfl, on, od, kr, kv⟩
theorem nil_rd (w : World) : Rd w.heap.size w (.slice none ([] : List Int).length 0) [] := Own.rd (base := 0) ⟨lim_nil, World.ownsRow_nil _ _ _ _⟩

section
variable {B : Nat} {w : World} {bx cy : Bool} {a1 a2 a3 a4 : Option Addr} {c1 c2 c3 c4 : Nat} {xn xd yn yd : List Int}
set_option maxRecDepth 100000 in
set_option maxHeartbeats 3200000 in
/-- rat.Div by what is not 0. -/
theorem div_nz (h1 : Rd B w (.slice a1 xn.length c1) xn) (h2 : Rd B w (.slice a2 xd.length c2) xd) (h3 : Rd B w (.slice a3 yn.length c3) yn) (h4 : Rd B w (.slice a4 yd.length c4) yd) (hB : B ≤ w.heap.size) (h0 : 0 < yn.length) :
    Calls Tryd.prog 15 #[.agg #[.bool bx, .slice a1 xn.length c1, .slice a2 xd.length c2], .agg #[.bool cy, .slice a3 yn.length c3, .slice a4 yd.length c4]] w fun e w' => Gives w (RightP bx xn xd ∧ RightP cy yn yd) (sg bx (val xn) * sg cy (val yd)) (val xd * val yn) e w' := by
  have I := in2_new w (.bool bx) (.slice a1 xn.length c1) (.slice a2 xd.length c2) (.bool cy) (.slice a3 yn.length c3) (.slice a4 yd.length c4)
  go_enter Tryd.func15, Tryd.ntmps15
  go_wp2_with fail
  generalize hA : ((((w.alloc (.cells #[.bool bx, .slice a1 xn.length c1, .slice a2 xd.length c2] 24)).alloc (.cells #[.bool cy, .slice a3 yn.length c3, .slice a4 yd.length c4] 24)).alloc (.cells #[.bool false, .slice none 0 0, .slice none 0 0] 24)).alloc (.cells #[.bool bx, .slice a1 xn.length c1, .slice a2 xd.length c2, .bool cy, .slice a3 yn.length c3, .slice a4 yd.length c4] 24)) = wQ at *
  clear hA
  obtain ⟨hX, hY, hR, hT, b0, s0⟩ := I
  refine (allRight2 hT (h1.below (b0.mono hB)) (h2.below (b0.mono hB)) (h3.below (b0.mono hB)) (h4.below (b0.mono hB)) (by omega)).mono ?_
  rintro e wa ⟨⟨r, rfl, hr⟩, ba⟩
  have sa := ba.size
  have bwa : Below w.heap.size w wa := b0.trans (ba.mono (by omega))
  have hRa := hR.below ba (by omega)
  cases r with
  | false =>
    have HP : Hid (¬ (RightP bx xn xd ∧ RightP cy yn yd)) := fun h => by have := hr.2 h; cases this
    clear hr
    have q0 := hRa.c0
    have q1 := hRa.c1
    have q2 := hRa.c2
    have p0 := hRa.f0
    have p1 := hRa.f1
    have p2 := hRa.f2
    go_wp2
    have hR3 := hRa.set (.bool false) (.slice none 0 0) (.slice none 0 0)
    have r0 := hR3.c0
    have r1 := hR3.c1
    have r2 := hR3.c2
    refine bodyPost_ret (v := .tuple #[.agg #[.bool false, .slice none 0 0, .slice none 0 0], .int .i64 22]) (by simp [results, Tryd.results15, go_sem, r0, r1, r2]) rfl ?_
    exact gives_err HP.out (Below.set3 bwa (by omega) _ _ _)
  | true =>
    have HP : Hid (RightP bx xn xd ∧ RightP cy yn yd) := hr.1 rfl
    clear hr
    have hXa := hX.below ba (by omega)
    have hYa := hY.below ba (by omega)
    have k0 := hXa.c0
    have k1 := hXa.c1
    have k2 := hXa.c2
    have k3 := hYa.c0
    have k4 := hYa.c1
    have k5 := hYa.c2
    have hpl := by_rat (bx := bx) (cy := cy) (h1.below (bwa.mono hB)) (h2.below (bwa.mono hB)) (h3.below (bwa.mono hB)) (h4.below (bwa.mono hB)) (by omega) HP.out.1 HP.out.2 h0
    go_wp2_with fail
    clear k0 k1 k2 k3 k4 k5
    refine hpl.mono ?_
    intro e w6 hm6
    obtain ⟨bm6, b6, x5, n5, y5, x6, n6, y6, err, rfl, hform⟩ := hm6.form
    have hRc := hRa.below bm6 (by omega)
    have q0 := hRc.c0
    have q1 := hRc.c1
    have q2 := hRc.c2
    have p0 := hRc.f0
    have p1 := hRc.f1
    have p2 := hRc.f2
    clear hpl hm6
    go_wp2
    have hR3 := hRc.set (.bool b6) (.slice x5 n5 y5) (.slice x6 n6 y6)
    have r0 := hR3.c0
    have r1 := hR3.c1
    have r2 := hR3.c2
    refine bodyPost_ret (v := .tuple #[.agg #[.bool b6, .slice x5 n5 y5, .slice x6 n6 y6], .int .i64 err]) (by simp [results, Tryd.results15, go_sem, r0, r1, r2]) rfl ?_
    exact (rform_done bwa (by omega) (by omega) bm6 hform).gives HP.out
end
end Go.Proofs.YtekmalpmcbjpeaaDoor

/- rat.wholeNextTo, rat.Floor: the whole numbers next to a number. -/
namespace Go.Proofs.YtekmalpmcbjpeaaDoor
set_option linter.unusedVariables false
set_option linter.unusedSimpArgs false
open Go.RowKit

/-- A result's variable. -/
structure RVar (w : World) (k : Nat) : Prop where
  lt : k < w.heap.size
  box : Box3 w k 24 (.bool false) (.slice none 0 0) (.slice none 0 0)
theorem RVar.below {w w' : World} {k : Nat} (h : RVar w k) (hb : Below w.heap.size w w') : RVar w' k := ⟨Nat.lt_of_lt_of_le h.lt hb.size, h.box.below hb h.lt⟩
theorem rvar_new (w : World) : RVar (w.alloc (.cells #[.bool false, .slice none 0 0, .slice none 0 0] 24)) w.heap.size := ⟨by simp, box3_new _ _ _ _ _⟩

/-- The size of the whole number next to a number: further away from 0, or nearer. -/
def wholeM (f : Bool) (n d : Int) : Int := n / d + if f = true ∧ ¬ n % d = 0 then 1 else 0

theorem div_unique {n d q r : Int} (h : n = q * d + r) (h0 : 0 ≤ r) (h1 : r < d) : q = n / d ∧ r = n % d := by
  have hd : 0 < d := by omega
  have e1 : n / d = q := by
    rw [h, Int.add_comm, Int.add_mul_ediv_right _ _ (by omega), Int.ediv_eq_zero_of_lt h0 h1]
    omega
  refine ⟨e1.symm, ?_⟩
  have e2 := Int.emod_def n d
  rw [e1] at e2
  rw [e2, h, Int.mul_comm d]
  omega

theorem floor_whole (b : Bool) (n d : Int) (hn : 0 ≤ n) (hd : 0 < d) : sg b (wholeM b n d) = sg b n / d := by
  have hm0 := Int.emod_nonneg n (show d ≠ 0 by omega)
  have hm1 := Int.emod_lt_of_pos n hd
  have he : n / d * d + n % d = n := by rw [Int.mul_comm]; exact Int.mul_ediv_add_emod n d
  unfold wholeM sg
  cases b with
  | false => simp
  | true =>
    by_cases h0 : n % d = 0
    · simp only [h0, not_true_eq_false, and_false, if_false, if_true, Int.add_zero]
      exact (div_unique (r := 0) (by rw [Int.neg_mul]; omega) (by omega) hd).1
    · simp only [h0, not_false_eq_true, and_true, if_true]
      refine (div_unique (r := d - n % d) ?_ (by omega) (by omega)).1
      rw [Int.neg_mul, Int.add_mul]
      omega

theorem one_val : val [(1 : Int)] = 1 := by decide
theorem can_add_one {q r : List Int} (c : can r) : (0 < r.length ↔ ¬ val r = 0) := by
  have := can_zero c
  omega

section
variable {B : Nat} {w : World} {bx : Bool} {a1 a2 : Option Addr} {c1 c2 : Nat} {xn xd : List Int}

set_option maxRecDepth 100000 in
set_option maxHeartbeats 8000000 in
theorem whole_rat (f : Bool) (h1 : Rd w.heap.size w (.slice a1 xn.length c1) xn) (h2 : Rd w.heap.size w (.slice a2 xd.length c2) xd) :
    Calls Tryd.prog 55 #[.agg #[.bool bx, .slice a1 xn.length c1, .slice a2 xd.length c2], .bool f] w fun e w' => Gives w (RightP bx xn xd) (sg bx (wholeM f (val xn) (val xd))) 1 e w' := by
  have X := nvar_new (b := bx) h1 h2
  have g := below_alloc w (.cells #[.bool bx, .slice a1 xn.length c1, .slice a2 xd.length c2] 24)
  have R := rvar_new (w.alloc (.cells #[.bool bx, .slice a1 xn.length c1, .slice a2 xd.length c2] 24))
  have ka := below_alloc (w.alloc (.cells #[.bool bx, .slice a1 xn.length c1, .slice a2 xd.length c2] 24)) (.cells #[.bool false, .slice none 0 0, .slice none 0 0] 24)
  rw [World.size_alloc] at R
  replace X := X.below ka
  replace g := g.trans (ka.mono g.size)
  clear ka h1 h2
  obtain ⟨x0, x1, x2⟩ := X.cells
  go_enter Tryd.func55, Tryd.ntmps55
  go_wp2_with fail
  clear x0 x1 x2
  generalize hA : (w.alloc (.cells #[.bool bx, .slice a1 xn.length c1, .slice a2 xd.length c2] 24)).alloc (.cells #[.bool false, .slice none 0 0, .slice none 0 0] 24) = v at *
  clear hA
  refine (right_rat X.rn X.rd (Nat.le_refl _)).mono ?_
  rintro e wa ⟨⟨r, rfl, hr⟩, ka⟩
  replace X := X.below ka
  replace R := R.below ka
  replace g := g.trans (ka.mono g.size)
  cases r with
  | false =>
    have HP : Hid (¬ RightP bx xn xd) := fun h => by have := hr.2 h; cases this
    clear hr
    have q0 := R.box.c0
    have q1 := R.box.c1
    have q2 := R.box.c2
    have p0 := R.box.f0
    have p1 := R.box.f1
    have p2 := R.box.f2
    go_wp2
    have hR3 := R.box.set (.bool false) (.slice none 0 0) (.slice none 0 0)
    have r0 := hR3.c0
    have r1 := hR3.c1
    have r2 := hR3.c2
    refine bodyPost_ret (v := .tuple #[.agg #[.bool false, .slice none 0 0, .slice none 0 0], .int .i64 22]) (by simp [results, Tryd.results55, go_sem, r0, r1, r2]) rfl ?_
    exact gives_err HP.out (Below.set3 g (by omega) _ _ _)
  | true =>
    have HP : Hid (RightP bx xn xd) := hr.1 rfl
    clear hr
    have l1 := HP.out.1
    have l2 := HP.out.2.1
    have l3 := HP.out.2.2.2.2.2.1
    have ga := g
    have Ra := R
    have s1 : w.heap.size ≤ wa.heap.size := g.size
    have hcells2 : ∀ {w' : World}, Below wa.heap.size wa w' → w'.cell? ⟨w.heap.size, 0, none⟩ = some (.bool bx) := fun hb => (X.below hb).k0
    have X2 : ∀ {w' : World}, Below wa.heap.size wa w' → NVar w' w.heap.size bx a1 xn c1 a2 xd c2 := fun hb => X.below hb
    obtain ⟨x0, x1, x2⟩ := X.cells
    go_wp2_with fail
    clear x0 x1 x2
    refine (divMod_any X.rn (Nat.le_refl _) X.rd (Nat.le_refl _) (by have := (right_pos HP.out).1; omega) (by omega) (by omega)).mono ?_
    rintro e wb ⟨qs, rs, a5, c5, a6, c6, rfl, oq, or, cq, cr, hv, hl, lq, lr, kb⟩
    have HU : Hid (val qs = val xn / val xd ∧ val rs = val xn % val xd) := div_unique hv (val_bound cr.1).1 hl
    clear hv hl
    replace X := X.below kb
    have t1 : Below wa.heap.size wa wb := kb
    clear kb R g
    have HRS : Hid (0 < rs.length ↔ ¬ val rs = 0) := can_add_one (q := qs) cr
    by_cases hcs : f = true ∧ 0 < rs.length
    · obtain ⟨rfl, hrl⟩ := hcs
      have HM : Hid (wholeM true (val xn) (val xd) = val qs + 1) := by
        unfold Hid wholeM
        rw [if_pos ⟨rfl, by rw [← HU.out.2]; exact HRS.out.1 hrl⟩, HU.out.1]
      have HF : Hid (wholeM true (val xn) (val xd) = val qs + 1) := HM
      go_wp2_with fail
      refine (one_any _).mono ?_
      rintro e wc ⟨a7, c7, rfl, o7, kc⟩
      replace X := X.below kc
      have t3 : Below wa.heap.size wa wc := t1.trans (kc.mono t1.size)
      have oqc := oq.below kc (Nat.le_refl _)
      go_wp2_with fail
      refine (sum2 oqc.rd o7.rd (Nat.le_refl _) (Nat.le_refl _) (by omega) (by simp)).mono ?_
      rintro e wd ⟨zs, cz, vz, lz, a8, c8, rfl, o8, kd⟩
      have HZ : Hid (val zs = wholeM true (val xn) (val xd)) := by
        unfold Hid; rw [vz, HM.out, one_val]
      clear vz
      replace X := X.below kd
      have t4 : Below wa.heap.size wa wd := t3.trans (kd.mono t3.size)
      have o9 : Own wa.heap.size wd (.slice a8 zs.length c8) zs := o8.mono t3.size
      have x0 := X.k0
      have hcells : ∀ {w' : World}, Below wd.heap.size wd w' → w'.cell? ⟨w.heap.size, 0, none⟩ = some (.bool bx) := fun hb => (X.below hb).k0
      have hne : w.heap.size + 1 ≠ w.heap.size := by omega
      go_wp2
      go_region_held3 (fun w' => w'.cell? ⟨w.heap.size, 0, none⟩ = some (.bool bx))
        (first | (go_keep; done) | exact tw | exact tw2 | exact (((Xf.box.apart (p := ⟨w.heap.size + 1, 0, none⟩) (by exact hne) _).apart (p := ⟨w.heap.size + 1, 1, none⟩) (by exact hne) _).apart (p := ⟨w.heap.size + 1, 2, none⟩) (by exact hne) _).c0)
        (first
          | (go_at_call 38; refine (one_any _).mono ?_; intro e we hm; obtain ⟨x2, y2, rfl, o3, bf⟩ := Makes.undrew hm; have tw := hcells bf; have t2 : Below wa.heap.size wa we := t4.trans (bf.mono t4.size))
          | (go_at_call 36; refine (limited_any (b := bx) (sg bx (wholeM true (val xn) (val xd))) 1 t2 (o9.below bf (Nat.le_refl _)) (o3.mono t4.size) cz can_one (by simp) (by rw [one_val]; exact gI_one_right _) (by rw [one_val, HZ.out])).mono ?_; intro e wf hm6; obtain ⟨bm6, b6, x5, n5, y5, x6, n6, y6, err, rfl, hform⟩ := hm6.form; have tw2 := hcells2 bm6; have Xf := X2 bm6; have Rf := Ra.below bm6; have q0 := Rf.box.c0; have q1 := Rf.box.c1; have q2 := Rf.box.c2; have p0 := Rf.box.f0; have p1 := Rf.box.f1; have p2 := Rf.box.f2))
      all_goals
        go_wp2
        have hR3 := Rf.box.set (.bool b6) (.slice x5 n5 y5) (.slice x6 n6 y6)
        have r0 := hR3.c0
        have r1 := hR3.c1
        have r2 := hR3.c2
        refine bodyPost_ret (v := .tuple #[.agg #[.bool b6, .slice x5 n5 y5, .slice x6 n6 y6], .int .i64 err]) (by simp [results, Tryd.results55, go_sem, r0, r1, r2]) rfl ?_
        exact (rform_done ga (by omega) Ra.lt bm6 hform).gives HP.out
    · have HM : Hid (val qs = wholeM f (val xn) (val xd)) := by
        unfold Hid wholeM
        rw [if_neg, Int.add_zero]
        · exact HU.out.1
        · rintro ⟨hf, h0⟩
          exact hcs ⟨hf, HRS.out.2 (by rw [HU.out.2]; exact h0)⟩
      have hcs2 : f = false ∨ (f = true ∧ ¬ 0 < rs.length) := by
        cases f with
        | false => exact Or.inl rfl
        | true => exact Or.inr ⟨rfl, fun h => hcs ⟨rfl, h⟩⟩
      clear hcs
      have hqo : Own wa.heap.size wb (.slice a5 qs.length c5) qs := oq
      rcases hcs2 with rfl | ⟨rfl, hr0⟩
      · have x0 := X.k0
        have hcells : ∀ {w' : World}, Below wb.heap.size wb w' → w'.cell? ⟨w.heap.size, 0, none⟩ = some (.bool bx) := fun hb => (X.below hb).k0
        have hne : w.heap.size + 1 ≠ w.heap.size := by omega
        go_wp2
        go_region_held3 (fun w' => w'.cell? ⟨w.heap.size, 0, none⟩ = some (.bool bx))
          (first | (go_keep; done) | exact tw | exact tw2 | exact (((Xf.box.apart (p := ⟨w.heap.size + 1, 0, none⟩) (by exact hne) _).apart (p := ⟨w.heap.size + 1, 1, none⟩) (by exact hne) _).apart (p := ⟨w.heap.size + 1, 2, none⟩) (by exact hne) _).c0)
          (first
            | (go_at_call 38; refine (one_any _).mono ?_; intro e we hm; obtain ⟨x2, y2, rfl, o3, bf⟩ := Makes.undrew hm; have tw := hcells bf; have t2 : Below wa.heap.size wa we := t1.trans (bf.mono t1.size))
            | (go_at_call 36; refine (limited_any (b := bx) (sg bx (wholeM false (val xn) (val xd))) 1 t2 (hqo.below bf (Nat.le_refl _)) (o3.mono t1.size) cq can_one (by simp) (by rw [one_val]; exact gI_one_right _) (by rw [one_val, HM.out])).mono ?_; intro e wf hm6; obtain ⟨bm6, b6, x5, n5, y5, x6, n6, y6, err, rfl, hform⟩ := hm6.form; have tw2 := hcells2 bm6; have Xf := X2 bm6; have Rf := Ra.below bm6; have q0 := Rf.box.c0; have q1 := Rf.box.c1; have q2 := Rf.box.c2; have p0 := Rf.box.f0; have p1 := Rf.box.f1; have p2 := Rf.box.f2))
        all_goals
          go_wp2
          have hR3 := Rf.box.set (.bool b6) (.slice x5 n5 y5) (.slice x6 n6 y6)
          have r0 := hR3.c0
          have r1 := hR3.c1
          have r2 := hR3.c2
          refine bodyPost_ret (v := .tuple #[.agg #[.bool b6, .slice x5 n5 y5, .slice x6 n6 y6], .int .i64 err]) (by simp [results, Tryd.results55, go_sem, r0, r1, r2]) rfl ?_
          exact (rform_done ga (by omega) Ra.lt bm6 hform).gives HP.out
      · have x0 := X.k0
        have hcells : ∀ {w' : World}, Below wb.heap.size wb w' → w'.cell? ⟨w.heap.size, 0, none⟩ = some (.bool bx) := fun hb => (X.below hb).k0
        have hne : w.heap.size + 1 ≠ w.heap.size := by omega
        go_wp2
        go_region_held3 (fun w' => w'.cell? ⟨w.heap.size, 0, none⟩ = some (.bool bx))
          (first | (go_keep; done) | exact tw | exact tw2 | exact (((Xf.box.apart (p := ⟨w.heap.size + 1, 0, none⟩) (by exact hne) _).apart (p := ⟨w.heap.size + 1, 1, none⟩) (by exact hne) _).apart (p := ⟨w.heap.size + 1, 2, none⟩) (by exact hne) _).c0)
          (first
            | (go_at_call 38; refine (one_any _).mono ?_; intro e we hm; obtain ⟨x2, y2, rfl, o3, bf⟩ := Makes.undrew hm; have tw := hcells bf; have t2 : Below wa.heap.size wa we := t1.trans (bf.mono t1.size))
            | (go_at_call 36; refine (limited_any (b := bx) (sg bx (wholeM true (val xn) (val xd))) 1 t2 (hqo.below bf (Nat.le_refl _)) (o3.mono t1.size) cq can_one (by simp) (by rw [one_val]; exact gI_one_right _) (by rw [one_val, HM.out])).mono ?_; intro e wf hm6; obtain ⟨bm6, b6, x5, n5, y5, x6, n6, y6, err, rfl, hform⟩ := hm6.form; have tw2 := hcells2 bm6; have Xf := X2 bm6; have Rf := Ra.below bm6; have q0 := Rf.box.c0; have q1 := Rf.box.c1; have q2 := Rf.box.c2; have p0 := Rf.box.f0; have p1 := Rf.box.f1; have p2 := Rf.box.f2))
        all_goals
          go_wp2
          have hR3 := Rf.box.set (.bool b6) (.slice x5 n5 y5) (.slice x6 n6 y6)
          have r0 := hR3.c0
          have r1 := hR3.c1
          have r2 := hR3.c2
          refine bodyPost_ret (v := .tuple #[.agg #[.bool b6, .slice x5 n5 y5, .slice x6 n6 y6], .int .i64 err]) (by simp [results, Tryd.results55, go_sem, r0, r1, r2]) rfl ?_
          exact (rform_done ga (by omega) Ra.lt bm6 hform).gives HP.out

set_option maxRecDepth 100000 in
set_option maxHeartbeats 3200000 in
theorem floor_rat (h1 : Rd w.heap.size w (.slice a1 xn.length c1) xn) (h2 : Rd w.heap.size w (.slice a2 xd.length c2) xd) :
    Calls Tryd.prog 33 #[.agg #[.bool bx, .slice a1 xn.length c1, .slice a2 xd.length c2]] w fun e w' => Gives w (RightP bx xn xd) (sg bx (val xn) / val xd) 1 e w' := by
  have X := nvar_new (b := bx) h1 h2
  have g := below_alloc w (.cells #[.bool bx, .slice a1 xn.length c1, .slice a2 xd.length c2] 24)
  have R := rvar_new (w.alloc (.cells #[.bool bx, .slice a1 xn.length c1, .slice a2 xd.length c2] 24))
  have ka := below_alloc (w.alloc (.cells #[.bool bx, .slice a1 xn.length c1, .slice a2 xd.length c2] 24)) (.cells #[.bool false, .slice none 0 0, .slice none 0 0] 24)
  rw [World.size_alloc] at R
  replace X := X.below ka
  replace g := g.trans (ka.mono g.size)
  clear ka h1 h2
  obtain ⟨x0, x1, x2⟩ := X.cells
  go_enter Tryd.func33, Tryd.ntmps33
  go_wp2_with fail
  clear x0 x1 x2
  generalize hA : (w.alloc (.cells #[.bool bx, .slice a1 xn.length c1, .slice a2 xd.length c2] 24)).alloc (.cells #[.bool false, .slice none 0 0, .slice none 0 0] 24) = v at *
  clear hA
  refine (whole_rat bx X.rn X.rd).mono ?_
  rintro e wa ⟨ka, b6, x5, n5, y5, x6, n6, y6, err, rfl, ho⟩
  have Ra := R.below ka
  have q0 := Ra.box.c0
  have q1 := Ra.box.c1
  have q2 := Ra.box.c2
  have p0 := Ra.box.f0
  have p1 := Ra.box.f1
  have p2 := Ra.box.f2
  go_wp2
  have hR3 := Ra.box.set (.bool b6) (.slice x5 n5 y5) (.slice x6 n6 y6)
  have r0 := hR3.c0
  have r1 := hR3.c1
  have r2 := hR3.c2
  refine bodyPost_ret (v := .tuple #[.agg #[.bool b6, .slice x5 n5 y5, .slice x6 n6 y6], .int .i64 err]) (by simp [results, Tryd.results33, go_sem, r0, r1, r2]) rfl ?_
  have hd := gives_done g (by omega) R.lt ka (Nat.le_refl _) ho
  by_cases hP : RightP bx xn xd
  · rw [floor_whole bx _ _ (right_pos hP).2 (right_pos hP).1] at hd
    exact hd
  · obtain ⟨k1, c, z1, n, z2, z3, m, z4, er, he, hO⟩ := hd
    refine ⟨k1, c, z1, n, z2, z3, m, z4, er, he, ?_⟩
    rcases hO.out with h | ⟨h, _⟩ | ⟨h, _⟩
    · exact Or.inl h
    · exact absurd h hP
    · exact absurd h hP
end
end Go.Proofs.YtekmalpmcbjpeaaDoor

/- rat.Residue. -/
namespace Go.Proofs.YtekmalpmcbjpeaaDoor
set_option linter.unusedVariables false
set_option linter.unusedSimpArgs false
open Go.RowKit

theorem big_cross {N D N' D' : Int} (hD : 0 < D) (h : N * D' = N' * D) (hb : Big N D) : Big N' D' := by
  obtain ⟨b, ns, ds, cn, cd, hd, hg, hv, hl⟩ := hb
  refine ⟨b, ns, ds, cn, cd, hd, hg, cancel hD ?_, hl⟩
  have e1 : sg b (val ns) * D' * D = sg b (val ns) * D * D' := by ac_rfl
  have e2 : N' * val ds * D = N' * D * val ds := by ac_rfl
  rw [e1, hv, e2, ← h]
  ac_rfl
theorem floor_cross {N D Q q : Int} (hD : 0 < D) (hq : 0 < q) (h : Q * D = N * q) : Q / q = N / D := by
  have e1 : Q * D / (q * D) = Q / q := Int.mul_ediv_mul_of_pos_left Q q hD
  have e2 : N * q / (D * q) = N / D := Int.mul_ediv_mul_of_pos_left N D hq
  rw [← e1, h, Int.mul_comm q D, e2]

theorem res_cross {Y T xd yd td : Int} {K : Int} (h : T * xd = K * td) : (Y * td + -T * yd) * (yd * xd) = (Y * xd + -K * yd) * (yd * td) := by
  have e1 : (Y * td + -T * yd) * (yd * xd) = Y * td * (yd * xd) + -(T * xd) * (yd * yd) := by
    rw [Int.add_mul, Int.neg_mul, Int.neg_mul, Int.neg_mul]
    congr 2
    ac_rfl
  have e2 : (Y * xd + -K * yd) * (yd * td) = Y * xd * (yd * td) + -(K * td) * (yd * yd) := by
    rw [Int.add_mul, Int.neg_mul, Int.neg_mul, Int.neg_mul]
    congr 2
    ac_rfl
  rw [e1, e2, h]
  congr 1
  ac_rfl
theorem whole_den {b : Bool} {ns ds : List Int} {F : Int} (cn : can ns) (cd : can ds) (hd : 0 < ds.length) (hg : gI (val ns) (val ds) = 1) (h : sg b (val ns) = F * val ds) : ds = [1] := by
  have dp : 0 < val ds := by have := can_low cd hd; have := pw_pos (ds.length - 1); omega
  have np := (val_bound cn.1).1
  refine limbs_of cd 1 (by omega) (by omega) ?_
  obtain ⟨n, en⟩ := Int.eq_ofNat_of_zero_le np
  obtain ⟨d, ed⟩ := Int.eq_ofNat_of_zero_le (Int.le_of_lt dp)
  rw [en, ed] at h
  have hdv : (d : Int) ∣ (n : Int) := by
    cases b with
    | false => exact ⟨F, by rw [sg_false] at h; rw [h, Int.mul_comm]⟩
    | true => exact ⟨-F, by simp [sg] at h; rw [Int.mul_neg, Int.mul_comm, ← h, Int.neg_neg]⟩
  have hdn : d ∣ n := Int.natCast_dvd_natCast.1 hdv
  rw [en, ed] at hg
  rw [ed]
  unfold gI at hg
  simp only [Int.toNat_natCast] at hg
  rw [Nat.gcd_eq_right hdn] at hg
  exact hg

/-- What stands in a residue's way. -/
def ResBig (N1 D1 X xd Y yd : Int) : Prop := Big N1 D1 ∨ Big (N1 / D1) 1 ∨ Big (X * (N1 / D1)) xd ∨ Big (Y * xd + -(X * (N1 / D1)) * yd) (yd * xd)
/-- What rat.Residue answers. -/
def Residues (w' : World) (k : Nat) (P : Prop) (bx : Bool) (xn xd : List Int) (cy : Bool) (yn yd : List Int) (b : Bool) (x1 : Option Addr) (n y1 : Nat) (x2 : Option Addr) (m y2 : Nat) (err : Int) : Prop :=
  (¬ P ∧ err = 22 ∧ b = false ∧ x1 = none ∧ n = 0 ∧ y1 = 0 ∧ x2 = none ∧ m = 0 ∧ y2 = 0) ∨
  (P ∧ xn.length = 0 ∧ err = 0 ∧ b = cy ∧ n = yn.length ∧ m = yd.length ∧ Own k w' (.slice x1 n y1) yn ∧ Own k w' (.slice x2 m y2) yd) ∨
  (P ∧ 0 < xn.length ∧ err = 8 ∧ b = false ∧ x1 = none ∧ n = 0 ∧ y1 = 0 ∧ x2 = none ∧ m = 0 ∧ y2 = 0 ∧ ResBig (sg cy (val yn) * sg bx (val xd)) (val yd * val xn) (sg bx (val xn)) (val xd) (sg cy (val yn)) (val yd)) ∨
  (P ∧ 0 < xn.length ∧ err = 0 ∧ ¬ ResBig (sg cy (val yn) * sg bx (val xd)) (val yd * val xn) (sg bx (val xn)) (val xd) (sg cy (val yn)) (val yd) ∧ ∃ ns ds, n = ns.length ∧ m = ds.length ∧ Own k w' (.slice x1 n y1) ns ∧ Own k w' (.slice x2 m y2) ds ∧ RightP b ns ds ∧ sg b (val ns) * (val yd * val xd) = (sg cy (val yn) * val xd + -(sg bx (val xn) * ((sg cy (val yn) * sg bx (val xd)) / (val yd * val xn))) * val yd) * val ds)
def ResGives (w : World) (P : Prop) (bx : Bool) (xn xd : List Int) (cy : Bool) (yn yd : List Int) (e : Ending) (w' : World) : Prop :=
  Below w.heap.size w w' ∧ ∃ b x1 n y1 x2 m y2 err, e = .returned (.tuple #[.agg #[.bool b, .slice x1 n y1, .slice x2 m y2], .int .i64 err]) ∧ Hid (Residues w' w.heap.size P bx xn xd cy yn yd b x1 n y1 x2 m y2 err)

section
variable {w : World} {bx cy : Bool} {a1 a2 a3 a4 : Option Addr} {c1 c2 c3 c4 : Nat} {xn xd yn yd : List Int}
theorem res_small {w' : World} {P : Prop} {e : Ending} (hb : Below w.heap.size w w') (he : e = .returned (.tuple #[.agg #[.bool false, .slice none 0 0, .slice none 0 0], .int .i64 22])) (hP : ¬ P) : ResGives w P bx xn xd cy yn yd e w' :=
  ⟨hb, false, none, 0, 0, none, 0, 0, 22, he, Or.inl ⟨hP, rfl, rfl, rfl, rfl, rfl, rfl, rfl, rfl⟩⟩
theorem res_big {w' : World} {P : Prop} {e : Ending} (hb : Below w.heap.size w w') (he : e = .returned (.tuple #[.agg #[.bool false, .slice none 0 0, .slice none 0 0], .int .i64 8])) (hP : P) (h0 : 0 < xn.length) (hB : ResBig (sg cy (val yn) * sg bx (val xd)) (val yd * val xn) (sg bx (val xn)) (val xd) (sg cy (val yn)) (val yd)) : ResGives w P bx xn xd cy yn yd e w' :=
  ⟨hb, false, none, 0, 0, none, 0, 0, 8, he, Or.inr (Or.inr (Or.inl ⟨hP, h0, rfl, rfl, rfl, rfl, rfl, rfl, rfl, rfl, hB⟩))⟩

set_option maxRecDepth 100000 in
set_option maxHeartbeats 16000000 in
theorem residue_rat (h1 : Rd w.heap.size w (.slice a1 xn.length c1) xn) (h2 : Rd w.heap.size w (.slice a2 xd.length c2) xd) (h3 : Rd w.heap.size w (.slice a3 yn.length c3) yn) (h4 : Rd w.heap.size w (.slice a4 yd.length c4) yd) :
    Calls Tryd.prog 16 #[.agg #[.bool bx, .slice a1 xn.length c1, .slice a2 xd.length c2], .agg #[.bool cy, .slice a3 yn.length c3, .slice a4 yd.length c4]] w fun e w' => ResGives w (RightP bx xn xd ∧ RightP cy yn yd) bx xn xd cy yn yd e w' := by
  have I := in2_new w (.bool bx) (.slice a1 xn.length c1) (.slice a2 xd.length c2) (.bool cy) (.slice a3 yn.length c3) (.slice a4 yd.length c4)
  go_enter Tryd.func16, Tryd.ntmps16
  go_wp2_with fail
  generalize hA : ((((w.alloc (.cells #[.bool bx, .slice a1 xn.length c1, .slice a2 xd.length c2] 24)).alloc (.cells #[.bool cy, .slice a3 yn.length c3, .slice a4 yd.length c4] 24)).alloc (.cells #[.bool false, .slice none 0 0, .slice none 0 0] 24)).alloc (.cells #[.bool bx, .slice a1 xn.length c1, .slice a2 xd.length c2, .bool cy, .slice a3 yn.length c3, .slice a4 yd.length c4] 24)) = v0 at *
  clear hA
  obtain ⟨hX, hY, hR, hT, g, s0⟩ := I
  have X : NVar v0 w.heap.size bx a1 xn c1 a2 xd c2 := ⟨by omega, hX, (h1.below g).mono g.size, (h2.below g).mono g.size⟩
  have Y : NVar v0 (w.heap.size + 1) cy a3 yn c3 a4 yd c4 := ⟨by omega, hY, (h3.below g).mono g.size, (h4.below g).mono g.size⟩
  have R : RVar v0 (w.heap.size + 1 + 1) := ⟨by omega, hR⟩
  have s1 : w.heap.size ≤ w.heap.size + 1 + 1 := by omega
  clear hX hY hR h1 h2 h3 h4 s0
  refine (allRight2 hT X.rn X.rd Y.rn Y.rd (Nat.le_refl _)).mono ?_
  rintro e w0 ⟨⟨r, rfl, hr⟩, k0⟩
  replace X := X.below k0
  replace Y := Y.below k0
  replace R := R.below k0
  replace g := g.trans (k0.mono g.size)
  clear hT k0
  cases r with
  | false =>
    have HP : Hid (¬ (RightP bx xn xd ∧ RightP cy yn yd)) := fun h => by have := hr.2 h; cases this
    clear hr
    have q0 := R.box.c0
    have q1 := R.box.c1
    have q2 := R.box.c2
    have p0 := R.box.f0
    have p1 := R.box.f1
    have p2 := R.box.f2
    go_wp2
    have hR3 := R.box.set (.bool false) (.slice none 0 0) (.slice none 0 0)
    have r0 := hR3.c0
    have r1 := hR3.c1
    have r2 := hR3.c2
    refine bodyPost_ret (v := .tuple #[.agg #[.bool false, .slice none 0 0, .slice none 0 0], .int .i64 22]) (by simp [results, Tryd.results16, go_sem, r0, r1, r2]) rfl ?_
    exact res_small (Below.set3 g s1 _ _ _) rfl HP.out
  | true =>
    have HP : Hid (RightP bx xn xd ∧ RightP cy yn yd) := hr.1 rfl
    clear hr
    by_cases hx0 : 0 < xn.length
    · have hxb : ((xn.length : Int) == 0) = false := by rw [beq_eq_false_iff_ne]; omega
      have HX0 : Hid (0 < val xn) := by
        have h5 := can_low HP.out.1.2.2.1 hx0
        have h6 := pw_pos (xn.length - 1)
        unfold Hid
        omega
      have HD1 : Hid (0 < val yd * val xn) := Int.mul_pos (right_pos HP.out.2).1 HX0.out
      obtain ⟨X0, X1, X2⟩ := X.cells
      obtain ⟨Y0, Y1, Y2⟩ := Y.cells
      go_wp2_with fail
      clear X0 X1 X2 Y0 Y1 Y2
      refine (by_rat Y.rn Y.rd X.rn X.rd (Nat.le_refl _) HP.out.2 HP.out.1 hx0).mono ?_
      intro e w1 hm
      obtain ⟨k2, ⟨rfl, hbig⟩ | ⟨bq, nq, dq, xq, yq, uq, tq, rfl, oq, qq, Pq, hq⟩⟩ := gives_or (hm.gives True.intro) True.intro
      · replace X := X.below k2
        replace Y := Y.below k2
        replace R := R.below k2
        replace g := g.trans (k2.mono g.size)
        have HB : Hid (ResBig (sg cy (val yn) * sg bx (val xd)) (val yd * val xn) (sg bx (val xn)) (val xd) (sg cy (val yn)) (val yd)) := Or.inl hbig
        clear hbig hm
        have kz3 := below_alloc w1 (.cells #[.bool false, .slice none 0 0, .slice none 0 0] 24)
        replace X := X.below kz3
        replace Y := Y.below kz3
        replace R := R.below kz3
        replace g := g.trans (kz3.mono g.size)
        clear kz3
        replace R := R
        have q0 := R.box.c0
        have q1 := R.box.c1
        have q2 := R.box.c2
        have p0 := R.box.f0
        have p1 := R.box.f1
        have p2 := R.box.f2
        go_wp2
        have hR3 := R.box.set (.bool false) (.slice none 0 0) (.slice none 0 0)
        have r0 := hR3.c0
        have r1 := hR3.c1
        have r2 := hR3.c2
        refine bodyPost_ret (v := .tuple #[.agg #[.bool false, .slice none 0 0, .slice none 0 0], .int .i64 8]) (by simp [results, Tryd.results16, go_sem, r0, r1, r2]) rfl ?_
        exact res_big (Below.set3 g s1 _ _ _) rfl HP.out hx0 HB.out
      · replace X := X.below k2
        replace Y := Y.below k2
        replace R := R.below k2
        replace g := g.trans (k2.mono g.size)
        clear hm
        have HQ : Hid (RightP bq nq dq ∧ sg bq (val nq) / val dq = (sg cy (val yn) * sg bx (val xd)) / (val yd * val xn) ∧ ¬ Big (sg cy (val yn) * sg bx (val xd)) (val yd * val xn)) := ⟨Pq, floor_cross HD1.out (right_pos Pq).1 hq, not_big Pq hq HD1.out⟩
        clear Pq hq
        have ka4 := below_alloc w1 (.cells #[.bool bq, .slice xq nq.length yq, .slice uq dq.length tq] 24)
        have Q := nvar_new (b := bq) oq.rd qq.rd
        replace X := X.below ka4
        replace Y := Y.below ka4
        replace R := R.below ka4
        replace g := g.trans (ka4.mono g.size)
        clear ka4
        obtain ⟨Q0, Q1, Q2⟩ := Q.cells
        go_wp2_with fail
        clear Q0 Q1 Q2
        generalize hA : (w1.alloc (.cells #[.bool bq, .slice xq nq.length yq, .slice uq dq.length tq] 24)) = v5 at *
        clear hA
        refine (floor_rat Q.rn Q.rd).mono ?_
        intro e w6 hm
        obtain ⟨k7, ⟨rfl, hbig⟩ | ⟨bf, nf, df, xf, yf, uf, tf, rfl, of, qf, Pf, hf⟩⟩ := gives_or hm HQ.out.1
        · replace X := X.below k7
          replace Y := Y.below k7
          replace Q := Q.below k7
          replace R := R.below k7
          replace g := g.trans (k7.mono g.size)
          have HB : Hid (ResBig (sg cy (val yn) * sg bx (val xd)) (val yd * val xn) (sg bx (val xn)) (val xd) (sg cy (val yn)) (val yd)) := Or.inr (Or.inl (by rw [HQ.out.2.1] at hbig; exact hbig))
          clear hbig hm
          have kz8 := below_alloc w6 (.cells #[.bool false, .slice none 0 0, .slice none 0 0] 24)
          replace X := X.below kz8
          replace Y := Y.below kz8
          replace Q := Q.below kz8
          replace R := R.below kz8
          replace g := g.trans (kz8.mono g.size)
          clear kz8
          replace R := R
          have q0 := R.box.c0
          have q1 := R.box.c1
          have q2 := R.box.c2
          have p0 := R.box.f0
          have p1 := R.box.f1
          have p2 := R.box.f2
          go_wp2
          have hR3 := R.box.set (.bool false) (.slice none 0 0) (.slice none 0 0)
          have r0 := hR3.c0
          have r1 := hR3.c1
          have r2 := hR3.c2
          refine bodyPost_ret (v := .tuple #[.agg #[.bool false, .slice none 0 0, .slice none 0 0], .int .i64 8]) (by simp [results, Tryd.results16, go_sem, r0, r1, r2]) rfl ?_
          exact res_big (Below.set3 g s1 _ _ _) rfl HP.out hx0 HB.out
        · replace X := X.below k7
          replace Y := Y.below k7
          replace Q := Q.below k7
          replace R := R.below k7
          replace g := g.trans (k7.mono g.size)
          clear hm
          rw [HQ.out.2.1] at hf
          have HF : Hid (RightP bf nf df ∧ df = [1] ∧ sg bf (val nf) = (sg cy (val yn) * sg bx (val xd)) / (val yd * val xn) ∧ ¬ Big ((sg cy (val yn) * sg bx (val xd)) / (val yd * val xn)) 1) := by
            have h5 := not_big Pf hf (by decide)
            rw [Int.mul_one] at hf
            have e2 := whole_den Pf.2.2.1 Pf.2.2.2.1 Pf.2.2.2.2.2.1 Pf.2.2.2.2.2.2 hf
            refine ⟨Pf, e2, ?_, h5⟩
            rw [hf, e2, one_val, Int.mul_one]
          clear Pf hf
          have ka9 := below_alloc w6 (.cells #[.bool bf, .slice xf nf.length yf, .slice uf df.length tf] 24)
          have G := nvar_new (b := bf) of.rd qf.rd
          replace X := X.below ka9
          replace Y := Y.below ka9
          replace Q := Q.below ka9
          replace R := R.below ka9
          replace g := g.trans (ka9.mono g.size)
          clear ka9
          obtain ⟨X0, X1, X2⟩ := X.cells
          obtain ⟨G0, G1, G2⟩ := G.cells
          go_wp2_with fail
          clear G0 G1 G2 X0 X1 X2
          generalize hA : (w6.alloc (.cells #[.bool bf, .slice xf nf.length yf, .slice uf df.length tf] 24)) = v10 at *
          clear hA
          refine (times_rat X.rn X.rd G.rn G.rd (Nat.le_refl _) HP.out.1 HF.out.1).mono ?_
          intro e w11 hm
          obtain ⟨k12, ⟨rfl, hbig⟩ | ⟨bt, nt, dt, xt, yt, ut, tt, rfl, ot, qt, Pt, ht⟩⟩ := gives_or (hm.gives True.intro) True.intro
          · replace X := X.below k12
            replace Y := Y.below k12
            replace Q := Q.below k12
            replace G := G.below k12
            replace R := R.below k12
            replace g := g.trans (k12.mono g.size)
            have HB : Hid (ResBig (sg cy (val yn) * sg bx (val xd)) (val yd * val xn) (sg bx (val xn)) (val xd) (sg cy (val yn)) (val yd)) := Or.inr (Or.inr (Or.inl (by rw [HF.out.2.1, one_val, Int.mul_one, HF.out.2.2.1] at hbig; exact hbig)))
            clear hbig hm
            have kz13 := below_alloc w11 (.cells #[.bool false, .slice none 0 0, .slice none 0 0] 24)
            replace X := X.below kz13
            replace Y := Y.below kz13
            replace Q := Q.below kz13
            replace G := G.below kz13
            replace R := R.below kz13
            replace g := g.trans (kz13.mono g.size)
            clear kz13
            replace R := R
            have q0 := R.box.c0
            have q1 := R.box.c1
            have q2 := R.box.c2
            have p0 := R.box.f0
            have p1 := R.box.f1
            have p2 := R.box.f2
            go_wp2
            have hR3 := R.box.set (.bool false) (.slice none 0 0) (.slice none 0 0)
            have r0 := hR3.c0
            have r1 := hR3.c1
            have r2 := hR3.c2
            refine bodyPost_ret (v := .tuple #[.agg #[.bool false, .slice none 0 0, .slice none 0 0], .int .i64 8]) (by simp [results, Tryd.results16, go_sem, r0, r1, r2]) rfl ?_
            exact res_big (Below.set3 g s1 _ _ _) rfl HP.out hx0 HB.out
          · replace X := X.below k12
            replace Y := Y.below k12
            replace Q := Q.below k12
            replace G := G.below k12
            replace R := R.below k12
            replace g := g.trans (k12.mono g.size)
            clear hm
            have HT : Hid (RightP bt nt dt ∧ sg bt (val nt) * val xd = sg bx (val xn) * ((sg cy (val yn) * sg bx (val xd)) / (val yd * val xn)) * val dt ∧ ¬ Big (sg bx (val xn) * ((sg cy (val yn) * sg bx (val xd)) / (val yd * val xn))) (val xd)) := by
              rw [HF.out.2.1, one_val, Int.mul_one, HF.out.2.2.1] at ht
              exact ⟨Pt, ht, not_big Pt ht (right_pos HP.out.1).1⟩
            clear Pt ht
            have ka14 := below_alloc w11 (.cells #[.bool bt, .slice xt nt.length yt, .slice ut dt.length tt] 24)
            have V := nvar_new (b := bt) ot.rd qt.rd
            replace X := X.below ka14
            replace Y := Y.below ka14
            replace Q := Q.below ka14
            replace G := G.below ka14
            replace R := R.below ka14
            replace g := g.trans (ka14.mono g.size)
            clear ka14
            obtain ⟨Y0, Y1, Y2⟩ := Y.cells
            obtain ⟨V0, V1, V2⟩ := V.cells
            go_wp2_with fail
            clear V0 V1 V2 Y0 Y1 Y2
            generalize hA : (w11.alloc (.cells #[.bool bt, .slice xt nt.length yt, .slice ut dt.length tt] 24)) = v15 at *
            clear hA
            have gk := g
            have Rk := R
            refine (sub_rat Y.rn Y.rd V.rn V.rd (Nat.le_refl _)).mono ?_
            intro e w16 hm
            obtain ⟨k17, hor⟩ := gives_or hm ⟨HP.out.2, HT.out.1⟩
            have HC : Hid ((sg cy (val yn) * val dt + sg (!bt) (val nt) * val yd) * (val yd * val xd) = (sg cy (val yn) * val xd + -(sg bx (val xn) * ((sg cy (val yn) * sg bx (val xd)) / (val yd * val xn))) * val yd) * (val yd * val dt)) := by
              unfold Hid
              rw [sg_not]
              exact res_cross HT.out.2.1
            have HDt : Hid (0 < val yd * val dt) := Int.mul_pos (right_pos HP.out.2).1 (right_pos HT.out.1).1
            have HDx : Hid (0 < val yd * val xd) := Int.mul_pos (right_pos HP.out.2).1 (right_pos HP.out.1).1
            clear hm
            obtain ⟨rfl, hbig⟩ | ⟨b6, ns, ds, x5, y5, x6, y6, rfl, on, od, hr, hv⟩ := hor
            · replace X := X.below k17
              replace Y := Y.below k17
              replace Q := Q.below k17
              replace G := G.below k17
              replace V := V.below k17
              replace R := R.below k17
              replace g := g.trans (k17.mono g.size)
              have HB : Hid (ResBig (sg cy (val yn) * sg bx (val xd)) (val yd * val xn) (sg bx (val xn)) (val xd) (sg cy (val yn)) (val yd)) := Or.inr (Or.inr (Or.inr (big_cross HDt.out HC.out hbig)))
              clear hbig
              have q0 := R.box.c0
              have q1 := R.box.c1
              have q2 := R.box.c2
              have p0 := R.box.f0
              have p1 := R.box.f1
              have p2 := R.box.f2
              go_wp2
              have hR3 := R.box.set (.bool false) (.slice none 0 0) (.slice none 0 0)
              have r0 := hR3.c0
              have r1 := hR3.c1
              have r2 := hR3.c2
              refine bodyPost_ret (v := .tuple #[.agg #[.bool false, .slice none 0 0, .slice none 0 0], .int .i64 8]) (by simp [results, Tryd.results16, go_sem, r0, r1, r2]) rfl ?_
              exact res_big (Below.set3 g s1 _ _ _) rfl HP.out hx0 HB.out
            · replace X := X.below k17
              replace Y := Y.below k17
              replace Q := Q.below k17
              replace G := G.below k17
              replace V := V.below k17
              replace R := R.below k17
              replace g := g.trans (k17.mono g.size)
              have HV : Hid (RightP b6 ns ds ∧ sg b6 (val ns) * (val yd * val xd) = (sg cy (val yn) * val xd + -(sg bx (val xn) * ((sg cy (val yn) * sg bx (val xd)) / (val yd * val xn))) * val yd) * val ds) := by
                refine ⟨hr, cancel HDt.out ?_⟩
                have e1 : sg b6 (val ns) * (val yd * val xd) * (val yd * val dt) = sg b6 (val ns) * (val yd * val dt) * (val yd * val xd) := by ac_rfl
                have e2 : (sg cy (val yn) * val xd + -(sg bx (val xn) * ((sg cy (val yn) * sg bx (val xd)) / (val yd * val xn))) * val yd) * val ds * (val yd * val dt) = (sg cy (val yn) * val xd + -(sg bx (val xn) * ((sg cy (val yn) * sg bx (val xd)) / (val yd * val xn))) * val yd) * (val yd * val dt) * val ds := by ac_rfl
                rw [e1, hv, e2, ← HC.out]
                ac_rfl
              clear hr hv
              have q0 := R.box.c0
              have q1 := R.box.c1
              have q2 := R.box.c2
              have p0 := R.box.f0
              have p1 := R.box.f1
              have p2 := R.box.f2
              go_wp2
              have hR3 := R.box.set (.bool b6) (.slice x5 ns.length y5) (.slice x6 ds.length y6)
              have r0 := hR3.c0
              have r1 := hR3.c1
              have r2 := hR3.c2
              refine bodyPost_ret (v := .tuple #[.agg #[.bool b6, .slice x5 ns.length y5, .slice x6 ds.length y6], .int .i64 0]) (by simp [results, Tryd.results16, go_sem, r0, r1, r2]) rfl ?_
              exact ⟨Below.set3 g s1 _ _ _, b6, x5, ns.length, y5, x6, ds.length, y6, 0, rfl, Or.inr (Or.inr (Or.inr ⟨HP.out, hx0, rfl, (by
                rintro (h | h | h | h)
                · exact HQ.out.2.2 h
                · exact HF.out.2.2.2 h
                · exact HT.out.2.2 h
                · exact not_big HV.out.1 HV.out.2 HDx.out h), ns, ds, rfl, rfl, (Own.set3 on Rk.lt _ _ _).mono gk.size, (Own.set3 od Rk.lt _ _ _).mono gk.size, HV.out.1, HV.out.2⟩))⟩
    · have hxb : ((xn.length : Int) == 0) = true := by rw [beq_iff_eq]; omega
      have HBy : Hid ((cy && decide (0 < yn.length)) = cy) := by
        unfold Hid
        cases cy with
        | false => rfl
        | true =>
          have h5 := HP.out.2.2.2.2.2.1
          rw [decide_eq_true (by by_cases h6 : yn.length = 0; exact absurd ⟨rfl, h6⟩ h5; omega)]; rfl
      have Hz : Hid (xn.length = 0) := by unfold Hid; omega
      obtain ⟨X0, X1, X2⟩ := X.cells
      obtain ⟨Y0, Y1, Y2⟩ := Y.cells
      go_wp2_with fail
      clear X0 X1 X2 Y0 Y1 Y2
      have gk := g
      have Rk := R
      refine (withSign_rat (b := cy) Y.rn Y.rd (Nat.le_refl _) HP.out.2).mono ?_
      rintro e wz ⟨kz, x5, y5, x6, y6, he, on, od⟩
      rw [HBy.out] at he
      subst he
      replace X := X.below kz
      replace Y := Y.below kz
      replace R := R.below kz
      replace g := g.trans (kz.mono g.size)
      have q0 := R.box.c0
      have q1 := R.box.c1
      have q2 := R.box.c2
      have p0 := R.box.f0
      have p1 := R.box.f1
      have p2 := R.box.f2
      go_wp2
      have hR3 := R.box.set (.bool cy) (.slice x5 yn.length y5) (.slice x6 yd.length y6)
      have r0 := hR3.c0
      have r1 := hR3.c1
      have r2 := hR3.c2
      refine bodyPost_ret (v := .tuple #[.agg #[.bool cy, .slice x5 yn.length y5, .slice x6 yd.length y6], .int .i64 0]) (by simp [results, Tryd.results16, go_sem, r0, r1, r2]) rfl ?_
      exact ⟨Below.set3 g s1 _ _ _, cy, x5, yn.length, y5, x6, yd.length, y6, 0, rfl, Or.inr (Or.inl ⟨HP.out, Hz.out, rfl, rfl, rfl, rfl, (Own.set3 on Rk.lt _ _ _).mono gk.size, (Own.set3 od Rk.lt _ _ _).mono gk.size⟩)⟩
end
end Go.Proofs.YtekmalpmcbjpeaaDoor

/- The walk over RatResidues: what is left lies below what divides. -/
namespace Go.Proofs.YtekmalpmcbjpeaaDoor
set_option linter.unusedVariables false
set_option linter.unusedSimpArgs false
open Go.RowKit

theorem res_low {N d F K Rr D rd : Int} (hd : 0 < d) (hD : 0 < D) (hrd : 0 < rd) (hF : F = N / d) (hK : K = N - F * d) (h : Rr * D = K * rd) : 0 ≤ Rr ∧ Rr * D < d * rd := by
  have f1 := Int.ediv_mul_le N (show d ≠ 0 by omega)
  have f2 := Int.lt_ediv_add_one_mul_self N hd
  rw [← hF] at f1 f2
  rw [Int.add_mul, Int.one_mul] at f2
  have k0 : 0 ≤ K := by omega
  have k1 : K < d := by omega
  refine ⟨?_, ?_⟩
  · rcases Int.lt_or_le Rr 0 with h0 | h0
    · have e1 := Int.mul_neg_of_neg_of_pos h0 hD
      have e2 : 0 ≤ K * rd := Int.mul_nonneg k0 (Int.le_of_lt hrd)
      omega
    · exact h0
  · rw [h]
    exact Int.mul_lt_mul_of_pos_right k1 hrd

theorem res_pos {Y xd xn yd Rr rd : Int} (hx : 0 < xn) (hxd : 0 < xd) (hyd : 0 < yd) (hrd : 0 < rd) (h : Rr * (yd * xd) = (Y * xd + -(xn * (Y * xd / (yd * xn))) * yd) * rd) : 0 ≤ Rr ∧ Rr * xd < xn * rd := by
  have hl := res_low (N := Y * xd) (d := yd * xn) (F := Y * xd / (yd * xn)) (Int.mul_pos hyd hx) (Int.mul_pos hyd hxd) hrd rfl rfl (by
    rw [h]
    congr 1
    rw [Int.neg_mul, Int.sub_eq_add_neg]
    congr 2
    ac_rfl)
  refine ⟨hl.1, ?_⟩
  have e1 : Rr * (yd * xd) = Rr * xd * yd := by ac_rfl
  have e2 : yd * xn * rd = xn * rd * yd := by ac_rfl
  rw [e1, e2] at hl
  exact Int.lt_of_mul_lt_mul_right hl.2 (Int.le_of_lt hyd)
theorem res_neg {Y xd xn yd Rr rd : Int} (hx : 0 < xn) (hxd : 0 < xd) (hyd : 0 < yd) (hrd : 0 < rd) (h : Rr * (yd * xd) = (Y * xd + -(-xn * (Y * -xd / (yd * xn))) * yd) * rd) : Rr ≤ 0 ∧ -xn * rd < Rr * xd := by
  have hl := res_low (N := Y * -xd) (d := yd * xn) (F := Y * -xd / (yd * xn)) (Rr := -Rr) (Int.mul_pos hyd hx) (Int.mul_pos hyd hxd) hrd rfl rfl (by
    generalize Y * -xd / (yd * xn) = F at *
    rw [Int.neg_mul, h, ← Int.neg_mul]
    congr 1
    rw [Int.neg_mul xn F, Int.neg_neg, Int.mul_neg]
    have e : xn * F * yd = F * (yd * xn) := by ac_rfl
    rw [e]
    omega)
  refine ⟨by omega, ?_⟩
  have e1 : -Rr * (yd * xd) = -(Rr * xd) * yd := by rw [Int.neg_mul, Int.neg_mul]; congr 1; ac_rfl
  have e2 : yd * xn * rd = xn * rd * yd := by ac_rfl
  rw [e1, e2] at hl
  have := Int.lt_of_mul_lt_mul_right hl.2 (Int.le_of_lt hyd)
  rw [Int.neg_mul]
  omega

set_option maxRecDepth 100000 in
set_option maxHeartbeats 16000000 in
theorem ratResidues_walk {w : World} {bx cy : Bool} {a1 a2 a3 a4 : Option Addr} {c1 c2 c3 c4 : Nat} {xn xd yn yd : List Int} (h1 : Rd w.heap.size w (.slice a1 xn.length c1) xn) (h2 : Rd w.heap.size w (.slice a2 xd.length c2) xd) (h3 : Rd w.heap.size w (.slice a3 yn.length c3) yn) (h4 : Rd w.heap.size w (.slice a4 yd.length c4) yd) (htab : Lib.TabIs Tryd.prog w "internal/strconv.uint64pow10" .u64 Lib.pow10Tab) :
    Calls Tryd.prog 4 #[.agg #[.bool bx, .slice a1 xn.length c1, .slice a2 xd.length c2], .agg #[.bool cy, .slice a3 yn.length c3, .slice a4 yd.length c4]] w fun e w' => e = .returned (.bool true) ∧ Below w.heap.size w w' := by
  obtain ⟨X, Y, g⟩ := nvar_in2 (bx := bx) (cy := cy) h1 h2 h3 h4
  clear h1 h2 h3 h4
  obtain ⟨X0, X1, X2⟩ := X.cells
  obtain ⟨Y0, Y1, Y2⟩ := Y.cells
  go_enter Tryd.func4, Tryd.ntmps4
  go_wp2_with fail
  clear X0 X1 X2 Y0 Y1 Y2
  generalize hA : ((w.alloc (.cells #[.bool bx, .slice a1 xn.length c1, .slice a2 xd.length c2] 24)).alloc (.cells #[.bool cy, .slice a3 yn.length c3, .slice a4 yd.length c4] 24)) = v1 at *
  clear hA
  refine (residue_rat X.rn X.rd Y.rn Y.rd).mono ?_
  rintro e w1 ⟨k1, b, x1, n, y1, x2, m, y2, err, rfl, HO⟩
  replace X := X.below k1
  replace Y := Y.below k1
  replace g := g.trans (k1.mono g.size)
  obtain ⟨hP, rfl, rfl, rfl, rfl, rfl, rfl, rfl, rfl⟩ | ⟨hP, hx, rfl, rfl, rfl, rfl, on, od⟩ | ⟨hP, hx, rfl, rfl, rfl, rfl, rfl, rfl, rfl, rfl, _⟩ | ⟨hP, hx, rfl, _, ns, ds, rfl, rfl, on, od, hr, hv⟩ := HO.out
  · clear HO hP
    have kz2 := below_alloc w1 (.cells #[.bool false, .slice none 0 0, .slice none 0 0] 24)
    replace X := X.below kz2
    replace Y := Y.below kz2
    replace g := g.trans (kz2.mono g.size)
    clear kz2
    go_wp2_with fail
    generalize hA : (w1.alloc (.cells #[.bool false, .slice none 0 0, .slice none 0 0] 24)) = v5 at *
    clear hA
    refine (live_rat _ (tabIs_below htab g)).mono ?_
    rintro e wl3 ⟨rfl, kl4⟩
    go_wp2
    go_ret
    exact ⟨rfl, g.trans (kl4.mono g.size)⟩
  · have HP : Hid (RightP bx xn xd ∧ RightP b yn yd) := hP
    have HX : Hid (xn.length = 0) := hx
    clear hP hx HO
    have ka6 := below_alloc w1 (.cells #[.bool b, .slice x1 yn.length y1, .slice x2 yd.length y2] 24)
    have R := nvar_new (b := b) on.rd od.rd
    replace X := X.below ka6
    replace Y := Y.below ka6
    replace g := g.trans (ka6.mono g.size)
    clear ka6
    obtain ⟨X0, X1, X2⟩ := X.cells
    go_wp2_with fail
    clear X0 X1 X2
    generalize hA : (w1.alloc (.cells #[.bool b, .slice x1 yn.length y1, .slice x2 yd.length y2] 24)) = v7 at *
    clear hA
    refine (sign_rat X.rn X.rd).mono ?_
    rintro e w2 ⟨k2, rs, rfl, HS⟩
    replace X := X.below k2
    replace Y := Y.below k2
    replace R := R.below k2
    replace g := g.trans (k2.mono g.size)
    obtain rfl : rs = 0 := by
      rw [HS.out.2 HP.out.1, (can_zero HP.out.1.2.2.1).1 HX.out, sg_zero]
      exact cmpI_eq rfl
    go_wp2_with fail
    refine (live_rat _ (tabIs_below htab g)).mono ?_
    rintro e w3 ⟨rfl, k3⟩
    replace X := X.below k3
    replace Y := Y.below k3
    replace R := R.below k3
    replace g := g.trans (k3.mono g.size)
    obtain ⟨R0, R1, R2⟩ := R.cells
    obtain ⟨Y0, Y1, Y2⟩ := Y.cells
    go_wp2_with fail
    clear R0 R1 R2 Y0 Y1 Y2
    refine (same_rat R.rn R.rd Y.rn Y.rd).mono ?_
    rintro e w4 ⟨rfl, k4⟩
    go_wp2
    go_ret
    exact ⟨rfl, g.trans (k4.mono g.size)⟩
  · clear HO hP hx
    have kz8 := below_alloc w1 (.cells #[.bool false, .slice none 0 0, .slice none 0 0] 24)
    replace X := X.below kz8
    replace Y := Y.below kz8
    replace g := g.trans (kz8.mono g.size)
    clear kz8
    go_wp2_with fail
    generalize hA : (w1.alloc (.cells #[.bool false, .slice none 0 0, .slice none 0 0] 24)) = v11 at *
    clear hA
    refine (live_rat _ (tabIs_below htab g)).mono ?_
    rintro e wl9 ⟨rfl, kl10⟩
    go_wp2
    go_ret
    exact ⟨rfl, g.trans (kl10.mono g.size)⟩
  · have HP : Hid (RightP bx xn xd ∧ RightP cy yn yd) := hP
    have HR : Hid (RightP b ns ds) := hr
    have HV : Hid (sg b (val ns) * (val yd * val xd) = (sg cy (val yn) * val xd + -(sg bx (val xn) * (sg cy (val yn) * sg bx (val xd) / (val yd * val xn))) * val yd) * val ds) := hv
    have HX0 : Hid (0 < val xn) := by
      have h5 := can_low hP.1.2.2.1 hx
      have h6 := pw_pos (xn.length - 1)
      unfold Hid
      omega
    clear hP hr hv hx HO
    have ka12 := below_alloc w1 (.cells #[.bool b, .slice x1 ns.length y1, .slice x2 ds.length y2] 24)
    have R := nvar_new (b := b) on.rd od.rd
    replace X := X.below ka12
    replace Y := Y.below ka12
    replace g := g.trans (ka12.mono g.size)
    clear ka12
    obtain ⟨X0, X1, X2⟩ := X.cells
    go_wp2_with fail
    clear X0 X1 X2
    generalize hA : (w1.alloc (.cells #[.bool b, .slice x1 ns.length y1, .slice x2 ds.length y2] 24)) = v13 at *
    clear hA
    refine (sign_rat X.rn X.rd).mono ?_
    rintro e w2 ⟨k2, rs, rfl, HS⟩
    replace X := X.below k2
    replace Y := Y.below k2
    replace R := R.below k2
    replace g := g.trans (k2.mono g.size)
    cases bx with
    | false =>
      obtain rfl : rs = 1 := by
        rw [HS.out.2 HP.out.1]
        exact cmpI_gt (by have := HX0.out; simp [sg]; omega)
      clear HS
      have HM : Hid (0 ≤ sg b (val ns) ∧ sg b (val ns) * val xd < sg false (val xn) * val ds) := by
        have h5 := HV.out
        simp only [sg_false] at h5 ⊢
        exact res_pos HX0.out (right_pos HP.out.1).1 (right_pos HP.out.2).1 (right_pos HR.out).1 h5
      obtain ⟨X0, X1, X2⟩ := X.cells
      go_wp2_with fail
      clear X0 X1 X2
      refine (sign_rat X.rn X.rd).mono ?_
      rintro e w5 ⟨k5, rs2, rfl, HS2⟩
      replace X := X.below k5
      replace Y := Y.below k5
      replace R := R.below k5
      replace g := g.trans (k5.mono g.size)
      obtain rfl : rs2 = 1 := by
        rw [HS2.out.2 HP.out.1]
        exact cmpI_gt (by have := HX0.out; simp [sg]; omega)
      clear HS2
      go_wp2_with fail
      refine (live_rat _ (tabIs_below htab g)).mono ?_
      rintro e w6 ⟨rfl, k6⟩
      replace X := X.below k6
      replace Y := Y.below k6
      replace R := R.below k6
      replace g := g.trans (k6.mono g.size)
      obtain ⟨R0, R1, R2⟩ := R.cells
      go_wp2_with fail
      clear R0 R1 R2
      refine (sign_rat R.rn R.rd).mono ?_
      rintro e w7 ⟨k7, rr, rfl, HS3⟩
      replace X := X.below k7
      replace Y := Y.below k7
      replace R := R.below k7
      replace g := g.trans (k7.mono g.size)
      have hrr : 0 ≤ rr := by
        rw [HS3.out.2 HR.out]
        have h5 := HM.out.1
        unfold cmpI
        split
        · omega
        · split <;> omega
      clear HS3
      obtain ⟨R0, R1, R2⟩ := R.cells
      obtain ⟨X0, X1, X2⟩ := X.cells
      go_wp2_with fail
      clear R0 R1 R2 X0 X1 X2
      refine (compare_rat R.rn R.rd X.rn X.rd (Nat.le_refl _)).mono ?_
      rintro e w8 ⟨k8, rc, rfl, _, hc⟩
      have hc2 : rc = -1 := by
        rw [hc ⟨HR.out, HP.out.1⟩]
        exact cmpI_lt HM.out.2
      subst hc2
      clear hc
      go_wp2
      go_ret
      exact ⟨rfl, g.trans (k8.mono g.size)⟩
    | true =>
      obtain rfl : rs = -1 := by
        rw [HS.out.2 HP.out.1]
        exact cmpI_lt (by have := HX0.out; simp [sg]; omega)
      clear HS
      have HM : Hid (sg b (val ns) ≤ 0 ∧ sg true (val xn) * val ds < sg b (val ns) * val xd) := by
        have h5 := HV.out
        have e : ∀ x : Int, sg true x = -x := fun x => rfl
        simp only [e] at h5 ⊢
        exact res_neg HX0.out (right_pos HP.out.1).1 (right_pos HP.out.2).1 (right_pos HR.out).1 h5
      obtain ⟨X0, X1, X2⟩ := X.cells
      go_wp2_with fail
      clear X0 X1 X2
      refine (sign_rat X.rn X.rd).mono ?_
      rintro e w5 ⟨k5, rs2, rfl, HS2⟩
      replace X := X.below k5
      replace Y := Y.below k5
      replace R := R.below k5
      replace g := g.trans (k5.mono g.size)
      obtain rfl : rs2 = -1 := by
        rw [HS2.out.2 HP.out.1]
        exact cmpI_lt (by have := HX0.out; simp [sg]; omega)
      clear HS2
      go_wp2_with fail
      refine (live_rat _ (tabIs_below htab g)).mono ?_
      rintro e w6 ⟨rfl, k6⟩
      replace X := X.below k6
      replace Y := Y.below k6
      replace R := R.below k6
      replace g := g.trans (k6.mono g.size)
      obtain ⟨R0, R1, R2⟩ := R.cells
      go_wp2_with fail
      clear R0 R1 R2
      refine (sign_rat R.rn R.rd).mono ?_
      rintro e w7 ⟨k7, rr, rfl, HS3⟩
      replace X := X.below k7
      replace Y := Y.below k7
      replace R := R.below k7
      replace g := g.trans (k7.mono g.size)
      have hrr : rr ≤ 0 := by
        rw [HS3.out.2 HR.out]
        have h5 := HM.out.1
        unfold cmpI
        split
        · omega
        · split <;> omega
      clear HS3
      obtain ⟨R0, R1, R2⟩ := R.cells
      obtain ⟨X0, X1, X2⟩ := X.cells
      go_wp2_with fail
      clear R0 R1 R2 X0 X1 X2
      refine (compare_rat R.rn R.rd X.rn X.rd (Nat.le_refl _)).mono ?_
      rintro e w8 ⟨k8, rc, rfl, _, hc⟩
      have hc2 : rc = 1 := by
        rw [hc ⟨HR.out, HP.out.1⟩]
        exact cmpI_gt HM.out.2
      subst hc2
      clear hc
      go_wp2
      go_ret
      exact ⟨rfl, g.trans (k8.mono g.size)⟩
end Go.Proofs.YtekmalpmcbjpeaaDoor
