/- Two numbers come in, a number goes out: the variables. rat.Sub, rat.Sign. -/
import Derived.Test.YtekmalpmcbjpeaaDoorJ4
import Derived.Test.YtekmalpmcbjpeaaDoorJ5
import Derived.Test.YtekmalpmcbjpeaaDoorJ2
import Derived.Test.YtekmalpmcbjpeaaDoorJ3
import Derived.Test.YtekmalpmcbjpeaaDoorJ1
namespace Go.Proofs.YtekmalpmcbjpeaaDoor
set_option linter.unusedVariables false
set_option linter.unusedSimpArgs false
open Go.RowKit

/-- What lies in memory where two numbers have come in, a result's variable is laid, and both were laid into a list. -/
structure In2 (w W : World) (x0 x1 x2 y0 y1 y2 : Value) : Prop where
  X : Box3 W w.heap.size 24 x0 x1 x2
  Y : Box3 W (w.heap.size + 1) 24 y0 y1 y2
  R : Box3 W (w.heap.size + 1 + 1) 24 (.bool false) (.slice none 0 0) (.slice none 0 0)
  T : Two W (w.heap.size + 1 + 1 + 1) x0 x1 x2 y0 y1 y2
  b : Below w.heap.size w W
  s : w.heap.size + 1 + 1 + 1 < W.heap.size
theorem in2_new (w : World) (x0 x1 x2 y0 y1 y2 : Value) : In2 w ((((w.alloc (.cells #[x0, x1, x2] 24)).alloc (.cells #[y0, y1, y2] 24)).alloc (.cells #[.bool false, .slice none 0 0, .slice none 0 0] 24)).alloc (.cells #[x0, x1, x2, y0, y1, y2] 24)) x0 x1 x2 y0 y1 y2 where
  X := (((box3_new w _ _ _ _).below (below_alloc _ _) (by simp)).below (below_alloc _ _) (by simp <;> omega)).below (below_alloc _ _) (by simp <;> omega)
  Y := by
    have h5 := ((box3_new (w.alloc (.cells #[x0, x1, x2] 24)) y0 y1 y2 24).below (below_alloc _ (.cells #[.bool false, .slice none 0 0, .slice none 0 0] 24)) (by simp)).below (below_alloc _ (.cells #[x0, x1, x2, y0, y1, y2] 24)) (by simp <;> omega)
    simpa using h5
  R := by
    have h5 := (box3_new ((w.alloc (.cells #[x0, x1, x2] 24)).alloc (.cells #[y0, y1, y2] 24)) (.bool false) (.slice none 0 0) (.slice none 0 0) 24).below (below_alloc _ (.cells #[x0, x1, x2, y0, y1, y2] 24)) (by simp)
    simpa using h5
  T := by
    have h5 := two_new (((w.alloc (.cells #[x0, x1, x2] 24)).alloc (.cells #[y0, y1, y2] 24)).alloc (.cells #[.bool false, .slice none 0 0, .slice none 0 0] 24)) x0 x1 x2 y0 y1 y2 24
    simp only [World.size_alloc] at h5
    exact h5
  b := (((below_alloc w _).alloc (by simp) _).alloc (by simp <;> omega) _).alloc (by simp <;> omega) _
  s := by simp

/-- An answer with an error. -/
theorem gives_err {w w2 : World} {P : Prop} {N D : Int} (hP : ¬ P) (hb : Below w.heap.size w w2) : Gives w P N D (.returned (.tuple #[.agg #[.bool false, .slice none 0 0, .slice none 0 0], .int .i64 22])) w2 :=
  ⟨hb, false, none, 0, 0, none, 0, 0, 22, rfl, Or.inl ⟨hP, rfl, rfl, rfl, rfl, rfl, rfl, rfl, rfl⟩⟩
/-- What was made is what is given. -/
theorem RMakes.gives {w w' : World} {P : Prop} {N D : Int} {e : Ending} (h : RMakes w N D e w') (hP : P) : Gives w P N D e w' := by
  obtain ⟨hb, b, x1, n, y1, x2, m, y2, err, rfl, hf⟩ := h.form
  refine ⟨hb, b, x1, n, y1, x2, m, y2, err, rfl, ?_⟩
  rcases hf.out with h | h
  · exact Or.inr (Or.inl ⟨hP, h⟩)
  · exact Or.inr (Or.inr ⟨hP, h⟩)

theorem Box3.set0 {w : World} {B ty : Nat} {x y z : Value} (h : Box3 w B ty x y z) (v : Value) : Box3 (w.setCell ⟨B, 0, none⟩ v) B ty v y z := by
  unfold Box3 at h ⊢; simp [World.setCell, Array.getElem?_modify, h]
theorem Box3.apart {w : World} {B ty : Nat} {x y z : Value} (h : Box3 w B ty x y z) {p : Addr} (hp : p.block ≠ B) (v : Value) : Box3 (w.setCell p v) B ty x y z := by
  unfold Box3 at h ⊢
  have : ¬ p.block = B := hp
  simp [World.setCell, Array.getElem?_modify, h, this]

section
variable {B : Nat} {w : World} {bx cy : Bool} {a1 a2 a3 a4 : Option Addr} {c1 c2 c3 c4 : Nat} {xn xd yn yd : List Int}

set_option maxRecDepth 100000 in
set_option maxHeartbeats 3200000 in
theorem sub_rat (h1 : Rd B w (.slice a1 xn.length c1) xn) (h2 : Rd B w (.slice a2 xd.length c2) xd) (h3 : Rd B w (.slice a3 yn.length c3) yn) (h4 : Rd B w (.slice a4 yd.length c4) yd) (hB : B ≤ w.heap.size) :
    Calls Tryd.prog 12 #[.agg #[.bool bx, .slice a1 xn.length c1, .slice a2 xd.length c2], .agg #[.bool cy, .slice a3 yn.length c3, .slice a4 yd.length c4]] w fun e w' => Gives w (RightP bx xn xd ∧ RightP cy yn yd) (sg bx (val xn) * val yd + sg (!cy) (val yn) * val xd) (val xd * val yd) e w' := by
  have I := in2_new w (.bool bx) (.slice a1 xn.length c1) (.slice a2 xd.length c2) (.bool cy) (.slice a3 yn.length c3) (.slice a4 yd.length c4)
  go_enter Tryd.func12, Tryd.ntmps12
  go_wp2_with fail
  generalize hA : ((((w.alloc (.cells #[.bool bx, .slice a1 xn.length c1, .slice a2 xd.length c2] 24)).alloc (.cells #[.bool cy, .slice a3 yn.length c3, .slice a4 yd.length c4] 24)).alloc (.cells #[.bool false, .slice none 0 0, .slice none 0 0] 24)).alloc (.cells #[.bool bx, .slice a1 xn.length c1, .slice a2 xd.length c2, .bool cy, .slice a3 yn.length c3, .slice a4 yd.length c4] 24)) = wQ at *
  clear hA
  obtain ⟨hX, hY, hR, hT, b0, s0⟩ := I
  refine (allRight2 hT (h1.below (b0.mono hB)) (h2.below (b0.mono hB)) (h3.below (b0.mono hB)) (h4.below (b0.mono hB)) (by omega)).mono ?_
  rintro e wa ⟨⟨r, rfl, hr⟩, ba⟩
  have sa := ba.size
  have bwa : Below w.heap.size w wa := b0.trans (ba.mono (by omega))
  have hRa := hR.below ba (by omega)
  cases r with
  | false =>
    have HP : Hid (¬ (RightP bx xn xd ∧ RightP cy yn yd)) := fun h => by have := hr.2 h; cases this
    clear hr
    have q0 := hRa.c0
    have q1 := hRa.c1
    have q2 := hRa.c2
    have p0 := hRa.f0
    have p1 := hRa.f1
    have p2 := hRa.f2
    go_wp2
    have hR3 := hRa.set (.bool false) (.slice none 0 0) (.slice none 0 0)
    have r0 := hR3.c0
    have r1 := hR3.c1
    have r2 := hR3.c2
    refine bodyPost_ret (v := .tuple #[.agg #[.bool false, .slice none 0 0, .slice none 0 0], .int .i64 22]) (by simp [results, Tryd.results12, go_sem, r0, r1, r2]) rfl ?_
    exact gives_err HP.out (Below.set3 bwa (by omega) _ _ _)
  | true =>
    have HP : Hid (RightP bx xn xd ∧ RightP cy yn yd) := hr.1 rfl
    clear hr
    have hXa := hX.below ba (by omega)
    have hYa := hY.below ba (by omega)
    have y0 := hYa.c0
    have y3 := hYa.f0
    have hYb := hYa.set0 (.bool (!cy))
    have hXb := hXa.apart (p := ⟨w.heap.size + 1, 0, none⟩) (by simp) (.bool (!cy))
    have hRb := hRa.apart (p := ⟨w.heap.size + 1, 0, none⟩) (by simp) (.bool (!cy))
    have bwb : Below w.heap.size w (wa.setCell ⟨w.heap.size + 1, 0, none⟩ (.bool (!cy))) := bwa.setCell (p := ⟨w.heap.size + 1, 0, none⟩) (by simp) _
    have sb : (wa.setCell ⟨w.heap.size + 1, 0, none⟩ (.bool (!cy))).heap.size = wa.heap.size := by simp [World.setCell]
    have k0 := hXb.c0
    have k1 := hXb.c1
    have k2 := hXb.c2
    have k3 := hYb.c0
    have k4 := hYb.c1
    have k5 := hYb.c2
    have hpl := plus_weak (bx := bx) (cy := !cy) (h1.below (bwb.mono hB)) (h2.below (bwb.mono hB)) (h3.below (bwb.mono hB)) (h4.below (bwb.mono hB)) (by omega) HP.out.1.weak HP.out.2.weak
    go_wp2_with fail
    clear k0 k1 k2 k3 k4 k5 y0 y3
    generalize hA : wa.setCell ⟨w.heap.size + 1, 0, none⟩ (.bool (!cy)) = wb at *
    clear hA
    refine hpl.mono ?_
    intro e w6 hm6
    obtain ⟨bm6, b6, x5, n5, y5, x6, n6, y6, err, rfl, hform⟩ := hm6.form
    have hRc := hRb.below bm6 (by omega)
    have q0 := hRc.c0
    have q1 := hRc.c1
    have q2 := hRc.c2
    have p0 := hRc.f0
    have p1 := hRc.f1
    have p2 := hRc.f2
    clear hpl hm6
    go_wp2
    have hR3 := hRc.set (.bool b6) (.slice x5 n5 y5) (.slice x6 n6 y6)
    have r0 := hR3.c0
    have r1 := hR3.c1
    have r2 := hR3.c2
    refine bodyPost_ret (v := .tuple #[.agg #[.bool b6, .slice x5 n5 y5, .slice x6 n6 y6], .int .i64 err]) (by simp [results, Tryd.results12, go_sem, r0, r1, r2]) rfl ?_
    exact (rform_done bwb (by omega) (by omega) bm6 hform).gives HP.out

/-- What rat.Sign answers. -/
def Signs (P : Prop) (b : Bool) (ns : List Int) (e : Ending) : Prop := ∃ r : Int, e = .returned (.int .i64 r) ∧ Hid ((¬ P → r = 0) ∧ (P → r = cmpI (sg b (val ns)) 0))

set_option maxRecDepth 100000 in
set_option maxHeartbeats 1600000 in
theorem sign_rat (h1 : Rd w.heap.size w (.slice a1 xn.length c1) xn) (h2 : Rd w.heap.size w (.slice a2 xd.length c2) xd) :
    Calls Tryd.prog 14 #[.agg #[.bool bx, .slice a1 xn.length c1, .slice a2 xd.length c2]] w fun e w' => Below w.heap.size w w' ∧ Signs (RightP bx xn xd) bx xn e := by
  have X := nvar_new (b := bx) h1 h2
  have b0 := below_alloc w (.cells #[.bool bx, .slice a1 xn.length c1, .slice a2 xd.length c2] 24)
  obtain ⟨k0, k1, k2⟩ := X.cells
  go_enter Tryd.func14, Tryd.ntmps14
  go_wp2_with fail
  clear k0 k1 k2
  generalize hA : w.alloc (.cells #[.bool bx, .slice a1 xn.length c1, .slice a2 xd.length c2] 24) = v at *
  clear hA
  refine (right_rat X.rn X.rd (Nat.le_refl _)).mono ?_
  rintro e wa ⟨⟨r, rfl, hr⟩, ba⟩
  replace X := X.below ba
  have g1 : Below w.heap.size w wa := b0.trans (ba.mono b0.size)
  obtain ⟨k0, k1, k2⟩ := X.cells
  cases r with
  | false =>
    have HP : Hid (¬ RightP bx xn xd) := fun h => by have := hr.2 h; cases this
    clear hr
    go_wp2
    go_ret
    exact ⟨g1, 0, rfl, fun _ => rfl, fun h => absurd h HP.out⟩
  | true =>
    have HP : Hid (RightP bx xn xd) := hr.1 rfl
    clear hr
    by_cases h0 : 0 < xn.length
    · have hb : ((xn.length : Int) == 0) = false := by rw [beq_eq_false_iff_ne]; omega
      have HV : Hid (0 < val xn) := by
        have h5 := can_low HP.out.2.2.1 h0
        have h6 := pw_pos (xn.length - 1)
        unfold Hid; omega
      cases bx with
      | false =>
        go_wp2
        go_ret
        exact ⟨g1, 1, rfl, fun h => absurd HP.out h, fun _ => (cmpI_gt (by have := HV.out; simpa [sg] using this)).symm⟩
      | true =>
        go_wp2
        go_ret
        exact ⟨g1, -1, rfl, fun h => absurd HP.out h, fun _ => (cmpI_lt (by have := HV.out; simp [sg]; omega)).symm⟩
    · have hb : ((xn.length : Int) == 0) = true := by rw [beq_iff_eq]; omega
      have HV : Hid (val xn = 0) := (can_zero HP.out.2.2.1).1 (by omega)
      go_wp2
      go_ret
      exact ⟨g1, 0, rfl, fun h => absurd HP.out h, fun _ => (cmpI_eq (by rw [HV.out, sg_zero])).symm⟩
end
end Go.Proofs.YtekmalpmcbjpeaaDoor

/- What a reckoning answers, where the number is known. -/
namespace Go.Proofs.YtekmalpmcbjpeaaDoor
set_option linter.unusedVariables false
set_option linter.unusedSimpArgs false
open Go.RowKit

/-- Lowest terms are unique, however many limbs. -/
theorem lowest_can {b c : Bool} {ns ds ms es : List Int} {N D : Int} (cn : can ns) (cd : can ds) (hd : 0 < ds.length) (hg : gI (val ns) (val ds) = 1) (h : sg b (val ns) * D = N * val ds) (hD : 0 < D) (cm : can ms) (ce : can es) (he : 0 < es.length) (kg : gI (val ms) (val es) = 1) (k : sg c (val ms) * D = N * val es) : ns = ms ∧ ds = es ∧ (0 < val ns → b = c) := by
  have dp : 0 < val ds := by have := can_low cd hd; have := pw_pos (ds.length - 1); omega
  have ep : 0 < val es := by have := can_low ce he; have := pw_pos (es.length - 1); omega
  have np := (val_bound cn.1).1
  have mp := (val_bound cm.1).1
  have e1 : sg b (val ns) * val es = sg c (val ms) * val ds := by
    refine cancel hD ?_
    have q1 : sg b (val ns) * val es * D = sg b (val ns) * D * val es := by ac_rfl
    have q2 : sg c (val ms) * val ds * D = sg c (val ms) * D * val ds := by ac_rfl
    rw [q1, q2, h, k]
    ac_rfl
  rw [← sg_mul, ← sg_mul] at e1
  have n1 : 0 ≤ val ns * val es := Int.mul_nonneg np (by omega)
  have n2 : 0 ≤ val ms * val ds := Int.mul_nonneg mp (by omega)
  have hab : val ns * val es = val ms * val ds ∧ (0 < val ns * val es → b = c) := by
    unfold sg at e1
    generalize val ns * val es = p at *
    generalize val ms * val ds = q at *
    cases b <;> cases c <;> simp at e1
    · exact ⟨e1, fun _ => rfl⟩
    · exact ⟨by omega, fun _ => by omega⟩
    · exact ⟨by omega, fun _ => by omega⟩
    · exact ⟨by omega, fun _ => rfl⟩
  obtain ⟨n, en⟩ := Int.eq_ofNat_of_zero_le np
  obtain ⟨d, ed⟩ := Int.eq_ofNat_of_zero_le (Int.le_of_lt dp)
  obtain ⟨m, em⟩ := Int.eq_ofNat_of_zero_le mp
  obtain ⟨f, ef⟩ := Int.eq_ofNat_of_zero_le (Int.le_of_lt ep)
  have g1 : Nat.gcd n d = 1 := by
    rw [en, ed] at hg
    unfold gI at hg
    simp only [Int.toNat_natCast] at hg
    omega
  have g2 : Nat.gcd m f = 1 := by
    rw [em, ef] at kg
    unfold gI at kg
    simp only [Int.toNat_natCast] at kg
    omega
  have hm := hab.1
  rw [en, ed, em, ef] at hm
  have hmn : n * f = m * d := by exact_mod_cast hm
  have d1 : d ∣ f := (Nat.Coprime.dvd_of_dvd_mul_left (show Nat.Coprime d n by rw [Nat.coprime_comm]; exact g1) ⟨m, by rw [hmn, Nat.mul_comm]⟩)
  have d2 : f ∣ d := (Nat.Coprime.dvd_of_dvd_mul_left (show Nat.Coprime f m by rw [Nat.coprime_comm]; exact g2) ⟨n, by rw [← hmn, Nat.mul_comm]⟩)
  have hdf : d = f := Nat.dvd_antisymm d1 d2
  subst hdf
  have hd0 : 0 < d := by omega
  have hnm : n = m := Nat.eq_of_mul_eq_mul_right hd0 hmn
  exact ⟨can_inj cn cm (by rw [en, em, hnm]), can_inj cd ce (by rw [ed, ef]), fun h0 => hab.2 (Int.mul_pos h0 ep)⟩

/-- What fits is not too great. -/
theorem not_big {b : Bool} {ns ds : List Int} {N D : Int} (hr : RightP b ns ds) (h : sg b (val ns) * D = N * val ds) (hD : 0 < D) : ¬ Big N D := by
  rintro ⟨c, ms, es, cm, ce, he, kg, k, hl⟩
  obtain ⟨rfl, rfl, _⟩ := lowest_can hr.2.2.1 hr.2.2.2.1 hr.2.2.2.2.2.1 hr.2.2.2.2.2.2 h hD cm ce he kg k
  have := hr.1
  have := hr.2.1
  omega
theorem right_is {b c : Bool} {ns ds ms es : List Int} {N D : Int} (hr : RightP b ns ds) (h : sg b (val ns) * D = N * val ds) (hD : 0 < D) (kr : RightP c ms es) (k : sg c (val ms) * D = N * val es) : c = b ∧ ms = ns ∧ es = ds := by
  refine lowest kr hr (cancel hD ?_)
  have q1 : sg c (val ms) * val ds * D = sg c (val ms) * D * val ds := by ac_rfl
  have q2 : sg b (val ns) * val es * D = sg b (val ns) * D * val es := by ac_rfl
  rw [q1, q2, h, k]
  ac_rfl

/-- A known number is answered. -/
def IsNum' (w : World) (b : Bool) (ns ds : List Int) (e : Ending) (w' : World) : Prop :=
  Below w.heap.size w w' ∧ ∃ a1 c1 a2 c2, e = .returned (.tuple #[.agg #[.bool b, .slice a1 ns.length c1, .slice a2 ds.length c2], .int .i64 0]) ∧ Own w.heap.size w' (.slice a1 ns.length c1) ns ∧ Own w.heap.size w' (.slice a2 ds.length c2) ds
theorem gives_is {w w' : World} {P : Prop} {N D : Int} {e : Ending} {b : Bool} {ns ds : List Int} (h : Gives w P N D e w') (hP : P) (hD : 0 < D) (hr : RightP b ns ds) (hv : sg b (val ns) * D = N * val ds) : IsNum' w b ns ds e w' := by
  obtain ⟨hb, c, x1, n, y1, x2, m, y2, err, rfl, ho⟩ := h
  refine ⟨hb, ?_⟩
  rcases ho.out with ⟨hn, _⟩ | ⟨_, _, _, _, _, _, _, _, _, hbig⟩ | ⟨_, rfl, ms, es, rfl, rfl, on, od, kr, kv⟩
  · exact absurd hP hn
  · exact absurd hbig (not_big hr hv hD)
  · obtain ⟨rfl, rfl, rfl⟩ := right_is hr hv hD kr kv
    exact ⟨x1, y1, x2, y2, rfl, on, od⟩
/-- What a reckoning answers: too great, or a right number. -/
theorem gives_or {w w' : World} {P : Prop} {N D : Int} {e : Ending} (h : Gives w P N D e w') (hP : P) : Below w.heap.size w w' ∧ ((e = .returned (.tuple #[.agg #[.bool false, .slice none 0 0, .slice none 0 0], .int .i64 8]) ∧ Big N D) ∨ ∃ b ns ds a1 c1 a2 c2, e = .returned (.tuple #[.agg #[.bool b, .slice a1 ns.length c1, .slice a2 ds.length c2], .int .i64 0]) ∧ Own w.heap.size w' (.slice a1 ns.length c1) ns ∧ Own w.heap.size w' (.slice a2 ds.length c2) ds ∧ RightP b ns ds ∧ sg b (val ns) * D = N * val ds) := by
  obtain ⟨hb, c, x1, n, y1, x2, m, y2, err, rfl, ho⟩ := h
  refine ⟨hb, ?_⟩
  rcases ho.out with ⟨hn, _⟩ | ⟨_, rfl, rfl, rfl, rfl, rfl, rfl, rfl, rfl, hbig⟩ | ⟨_, rfl, ms, es, rfl, rfl, on, od, kr, kv⟩
  · exact absurd hP hn
  · exact Or.inl ⟨rfl, hbig⟩
  · exact Or.inr ⟨c, ms, es, x1, y1, x2, y2, rfl, on, od, kr, kv⟩
theorem nil_rd (w : World) : Rd w.heap.size w (.slice none ([] : List Int).length 0) [] := Own.rd (base := 0) ⟨lim_nil, World.ownsRow_nil _ _ _ _⟩

section
variable {B : Nat} {w : World} {bx cy : Bool} {a1 a2 a3 a4 : Option Addr} {c1 c2 c3 c4 : Nat} {xn xd yn yd : List Int}
set_option maxRecDepth 100000 in
set_option maxHeartbeats 3200000 in
/-- rat.Div by what is not 0. -/
theorem div_nz (h1 : Rd B w (.slice a1 xn.length c1) xn) (h2 : Rd B w (.slice a2 xd.length c2) xd) (h3 : Rd B w (.slice a3 yn.length c3) yn) (h4 : Rd B w (.slice a4 yd.length c4) yd) (hB : B ≤ w.heap.size) (h0 : 0 < yn.length) :
    Calls Tryd.prog 15 #[.agg #[.bool bx, .slice a1 xn.length c1, .slice a2 xd.length c2], .agg #[.bool cy, .slice a3 yn.length c3, .slice a4 yd.length c4]] w fun e w' => Gives w (RightP bx xn xd ∧ RightP cy yn yd) (sg bx (val xn) * sg cy (val yd)) (val xd * val yn) e w' := by
  have I := in2_new w (.bool bx) (.slice a1 xn.length c1) (.slice a2 xd.length c2) (.bool cy) (.slice a3 yn.length c3) (.slice a4 yd.length c4)
  go_enter Tryd.func15, Tryd.ntmps15
  go_wp2_with fail
  generalize hA : ((((w.alloc (.cells #[.bool bx, .slice a1 xn.length c1, .slice a2 xd.length c2] 24)).alloc (.cells #[.bool cy, .slice a3 yn.length c3, .slice a4 yd.length c4] 24)).alloc (.cells #[.bool false, .slice none 0 0, .slice none 0 0] 24)).alloc (.cells #[.bool bx, .slice a1 xn.length c1, .slice a2 xd.length c2, .bool cy, .slice a3 yn.length c3, .slice a4 yd.length c4] 24)) = wQ at *
  clear hA
  obtain ⟨hX, hY, hR, hT, b0, s0⟩ := I
  refine (allRight2 hT (h1.below (b0.mono hB)) (h2.below (b0.mono hB)) (h3.below (b0.mono hB)) (h4.below (b0.mono hB)) (by omega)).mono ?_
  rintro e wa ⟨⟨r, rfl, hr⟩, ba⟩
  have sa := ba.size
  have bwa : Below w.heap.size w wa := b0.trans (ba.mono (by omega))
  have hRa := hR.below ba (by omega)
  cases r with
  | false =>
    have HP : Hid (¬ (RightP bx xn xd ∧ RightP cy yn yd)) := fun h => by have := hr.2 h; cases this
    clear hr
    have q0 := hRa.c0
    have q1 := hRa.c1
    have q2 := hRa.c2
    have p0 := hRa.f0
    have p1 := hRa.f1
    have p2 := hRa.f2
    go_wp2
    have hR3 := hRa.set (.bool false) (.slice none 0 0) (.slice none 0 0)
    have r0 := hR3.c0
    have r1 := hR3.c1
    have r2 := hR3.c2
    refine bodyPost_ret (v := .tuple #[.agg #[.bool false, .slice none 0 0, .slice none 0 0], .int .i64 22]) (by simp [results, Tryd.results15, go_sem, r0, r1, r2]) rfl ?_
    exact gives_err HP.out (Below.set3 bwa (by omega) _ _ _)
  | true =>
    have HP : Hid (RightP bx xn xd ∧ RightP cy yn yd) := hr.1 rfl
    clear hr
    have hXa := hX.below ba (by omega)
    have hYa := hY.below ba (by omega)
    have k0 := hXa.c0
    have k1 := hXa.c1
    have k2 := hXa.c2
    have k3 := hYa.c0
    have k4 := hYa.c1
    have k5 := hYa.c2
    have hpl := by_rat (bx := bx) (cy := cy) (h1.below (bwa.mono hB)) (h2.below (bwa.mono hB)) (h3.below (bwa.mono hB)) (h4.below (bwa.mono hB)) (by omega) HP.out.1 HP.out.2 h0
    go_wp2_with fail
    clear k0 k1 k2 k3 k4 k5
    refine hpl.mono ?_
    intro e w6 hm6
    obtain ⟨bm6, b6, x5, n5, y5, x6, n6, y6, err, rfl, hform⟩ := hm6.form
    have hRc := hRa.below bm6 (by omega)
    have q0 := hRc.c0
    have q1 := hRc.c1
    have q2 := hRc.c2
    have p0 := hRc.f0
    have p1 := hRc.f1
    have p2 := hRc.f2
    clear hpl hm6
    go_wp2
    have hR3 := hRc.set (.bool b6) (.slice x5 n5 y5) (.slice x6 n6 y6)
    have r0 := hR3.c0
    have r1 := hR3.c1
    have r2 := hR3.c2
    refine bodyPost_ret (v := .tuple #[.agg #[.bool b6, .slice x5 n5 y5, .slice x6 n6 y6], .int .i64 err]) (by simp [results, Tryd.results15, go_sem, r0, r1, r2]) rfl ?_
    exact (rform_done bwa (by omega) (by omega) bm6 hform).gives HP.out
end
end Go.Proofs.YtekmalpmcbjpeaaDoor

/- rat.wholeNextTo, rat.Floor: the whole numbers next to a number. -/
namespace Go.Proofs.YtekmalpmcbjpeaaDoor
set_option linter.unusedVariables false
set_option linter.unusedSimpArgs false
open Go.RowKit

/-- A result's variable. -/
structure RVar (w : World) (k : Nat) : Prop where
  lt : k < w.heap.size
  box : Box3 w k 24 (.bool false) (.slice none 0 0) (.slice none 0 0)
theorem RVar.below {w w' : World} {k : Nat} (h : RVar w k) (hb : Below w.heap.size w w') : RVar w' k := ⟨Nat.lt_of_lt_of_le h.lt hb.size, h.box.below hb h.lt⟩
theorem rvar_new (w : World) : RVar (w.alloc (.cells #[.bool false, .slice none 0 0, .slice none 0 0] 24)) w.heap.size := ⟨by simp, box3_new _ _ _ _ _⟩

/-- The size of the whole number next to a number: further away from 0, or nearer. -/
def wholeM (f : Bool) (n d : Int) : Int := n / d + if f = true ∧ ¬ n % d = 0 then 1 else 0

theorem div_unique {n d q r : Int} (h : n = q * d + r) (h0 : 0 ≤ r) (h1 : r < d) : q = n / d ∧ r = n % d := by
  have hd : 0 < d := by omega
  have e1 : n / d = q := by
    rw [h, Int.add_comm, Int.add_mul_ediv_right _ _ (by omega), Int.ediv_eq_zero_of_lt h0 h1]
    omega
  refine ⟨e1.symm, ?_⟩
  have e2 := Int.emod_def n d
  rw [e1] at e2
  rw [e2, h, Int.mul_comm d]
  omega

theorem floor_whole (b : Bool) (n d : Int) (hn : 0 ≤ n) (hd : 0 < d) : sg b (wholeM b n d) = sg b n / d := by
  have hm0 := Int.emod_nonneg n (show d ≠ 0 by omega)
  have hm1 := Int.emod_lt_of_pos n hd
  have he : n / d * d + n % d = n := by rw [Int.mul_comm]; exact Int.mul_ediv_add_emod n d
  unfold wholeM sg
  cases b with
  | false => simp
  | true =>
    by_cases h0 : n % d = 0
    · simp only [h0, not_true_eq_false, and_false, if_false, if_true, Int.add_zero]
      exact (div_unique (r := 0) (by rw [Int.neg_mul]; omega) (by omega) hd).1
    · simp only [h0, not_false_eq_true, and_true, if_true]
      refine (div_unique (r := d - n % d) ?_ (by omega) (by omega)).1
      rw [Int.neg_mul, Int.add_mul]
      omega

theorem one_val : val [(1 : Int)] = 1 := by decide
theorem can_add_one {q r : List Int} (c : can r) : (0 < r.length ↔ ¬ val r = 0) := by
  have := can_zero c
  omega

section
variable {B : Nat} {w : World} {bx : Bool} {a1 a2 : Option Addr} {c1 c2 : Nat} {xn xd : List Int}

set_option maxRecDepth 100000 in
set_option maxHeartbeats 8000000 in
theorem whole_rat (f : Bool) (h1 : Rd w.heap.size w (.slice a1 xn.length c1) xn) (h2 : Rd w.heap.size w (.slice a2 xd.length c2) xd) :
    Calls Tryd.prog 55 #[.agg #[.bool bx, .slice a1 xn.length c1, .slice a2 xd.length c2], .bool f] w fun e w' => Gives w (RightP bx xn xd) (sg bx (wholeM f (val xn) (val xd))) 1 e w' := by
  have X := nvar_new (b := bx) h1 h2
  have g := below_alloc w (.cells #[.bool bx, .slice a1 xn.length c1, .slice a2 xd.length c2] 24)
  have R := rvar_new (w.alloc (.cells #[.bool bx, .slice a1 xn.length c1, .slice a2 xd.length c2] 24))
  have ka := below_alloc (w.alloc (.cells #[.bool bx, .slice a1 xn.length c1, .slice a2 xd.length c2] 24)) (.cells #[.bool false, .slice none 0 0, .slice none 0 0] 24)
  rw [World.size_alloc] at R
  replace X := X.below ka
  replace g := g.trans (ka.mono g.size)
  clear ka h1 h2
  obtain ⟨x0, x1, x2⟩ := X.cells
  go_enter Tryd.func55, Tryd.ntmps55
  go_wp2_with fail
  clear x0 x1 x2
  generalize hA : (w.alloc (.cells #[.bool bx, .slice a1 xn.length c1, .slice a2 xd.length c2] 24)).alloc (.cells #[.bool false, .slice none 0 0, .slice none 0 0] 24) = v at *
  clear hA
  refine (right_rat X.rn X.rd (Nat.le_refl _)).mono ?_
  rintro e wa ⟨⟨r, rfl, hr⟩, ka⟩
  replace X := X.below ka
  replace R := R.below ka
  replace g := g.trans (ka.mono g.size)
  cases r with
  | false =>
    have HP : Hid (¬ RightP bx xn xd) := fun h => by have := hr.2 h; cases this
    clear hr
    have q0 := R.box.c0
    have q1 := R.box.c1
    have q2 := R.box.c2
    have p0 := R.box.f0
    have p1 := R.box.f1
    have p2 := R.box.f2
    go_wp2
    have hR3 := R.box.set (.bool false) (.slice none 0 0) (.slice none 0 0)
    have r0 := hR3.c0
    have r1 := hR3.c1
    have r2 := hR3.c2
    refine bodyPost_ret (v := .tuple #[.agg #[.bool false, .slice none 0 0, .slice none 0 0], .int .i64 22]) (by simp [results, Tryd.results55, go_sem, r0, r1, r2]) rfl ?_
    exact gives_err HP.out (Below.set3 g (by omega) _ _ _)
  | true =>
    have HP : Hid (RightP bx xn xd) := hr.1 rfl
    clear hr
    have l1 := HP.out.1
    have l2 := HP.out.2.1
    have l3 := HP.out.2.2.2.2.2.1
    have ga := g
    have Ra := R
    have s1 : w.heap.size ≤ wa.heap.size := g.size
    have hcells2 : ∀ {w' : World}, Below wa.heap.size wa w' → w'.cell? ⟨w.heap.size, 0, none⟩ = some (.bool bx) := fun hb => (X.below hb).k0
    have X2 : ∀ {w' : World}, Below wa.heap.size wa w' → NVar w' w.heap.size bx a1 xn c1 a2 xd c2 := fun hb => X.below hb
    obtain ⟨x0, x1, x2⟩ := X.cells
    go_wp2_with fail
    clear x0 x1 x2
    refine (divMod_any X.rn (Nat.le_refl _) X.rd (Nat.le_refl _) (by have := (right_pos HP.out).1; omega) (by omega) (by omega)).mono ?_
    rintro e wb ⟨qs, rs, a5, c5, a6, c6, rfl, oq, or, cq, cr, hv, hl, lq, lr, kb⟩
    have HU : Hid (val qs = val xn / val xd ∧ val rs = val xn % val xd) := div_unique hv (val_bound cr.1).1 hl
    clear hv hl
    replace X := X.below kb
    have t1 : Below wa.heap.size wa wb := kb
    clear kb R g
    have HRS : Hid (0 < rs.length ↔ ¬ val rs = 0) := can_add_one (q := qs) cr
    by_cases hcs : f = true ∧ 0 < rs.length
    · obtain ⟨rfl, hrl⟩ := hcs
      have HM : Hid (wholeM true (val xn) (val xd) = val qs + 1) := by
        unfold Hid wholeM
        rw [if_pos ⟨rfl, by rw [← HU.out.2]; exact HRS.out.1 hrl⟩, HU.out.1]
      have HF : Hid (wholeM true (val xn) (val xd) = val qs + 1) := HM
      go_wp2_with fail
      refine (one_any _).mono ?_
      rintro e wc ⟨a7, c7, rfl, o7, kc⟩
      replace X := X.below kc
      have t3 : Below wa.heap.size wa wc := t1.trans (kc.mono t1.size)
      have oqc := oq.below kc (Nat.le_refl _)
      go_wp2_with fail
      refine (sum2 oqc.rd o7.rd (Nat.le_refl _) (Nat.le_refl _) (by omega) (by simp)).mono ?_
      rintro e wd ⟨zs, cz, vz, lz, a8, c8, rfl, o8, kd⟩
      have HZ : Hid (val zs = wholeM true (val xn) (val xd)) := by
        unfold Hid; rw [vz, HM.out, one_val]
      clear vz
      replace X := X.below kd
      have t4 : Below wa.heap.size wa wd := t3.trans (kd.mono t3.size)
      have o9 : Own wa.heap.size wd (.slice a8 zs.length c8) zs := o8.mono t3.size
      have x0 := X.k0
      have hcells : ∀ {w' : World}, Below wd.heap.size wd w' → w'.cell? ⟨w.heap.size, 0, none⟩ = some (.bool bx) := fun hb => (X.below hb).k0
      have hne : w.heap.size + 1 ≠ w.heap.size := by omega
      go_wp2
      go_region_held3 (fun w' => w'.cell? ⟨w.heap.size, 0, none⟩ = some (.bool bx))
        (first | (go_keep; done) | exact tw | exact tw2 | exact (((Xf.box.apart (p := ⟨w.heap.size + 1, 0, none⟩) (by exact hne) _).apart (p := ⟨w.heap.size + 1, 1, none⟩) (by exact hne) _).apart (p := ⟨w.heap.size + 1, 2, none⟩) (by exact hne) _).c0)
        (first
          | (go_at_call 38; refine (one_any _).mono ?_; intro e we hm; obtain ⟨x2, y2, rfl, o3, bf⟩ := Makes.undrew hm; have tw := hcells bf; have t2 : Below wa.heap.size wa we := t4.trans (bf.mono t4.size))
          | (go_at_call 36; refine (limited_any (b := bx) (sg bx (wholeM true (val xn) (val xd))) 1 t2 (o9.below bf (Nat.le_refl _)) (o3.mono t4.size) cz can_one (by simp) (by rw [one_val]; exact gI_one_right _) (by rw [one_val, HZ.out])).mono ?_; intro e wf hm6; obtain ⟨bm6, b6, x5, n5, y5, x6, n6, y6, err, rfl, hform⟩ := hm6.form; have tw2 := hcells2 bm6; have Xf := X2 bm6; have Rf := Ra.below bm6; have q0 := Rf.box.c0; have q1 := Rf.box.c1; have q2 := Rf.box.c2; have p0 := Rf.box.f0; have p1 := Rf.box.f1; have p2 := Rf.box.f2))
      all_goals
        go_wp2
        have hR3 := Rf.box.set (.bool b6) (.slice x5 n5 y5) (.slice x6 n6 y6)
        have r0 := hR3.c0
        have r1 := hR3.c1
        have r2 := hR3.c2
        refine bodyPost_ret (v := .tuple #[.agg #[.bool b6, .slice x5 n5 y5, .slice x6 n6 y6], .int .i64 err]) (by simp [results, Tryd.results55, go_sem, r0, r1, r2]) rfl ?_
        exact (rform_done ga (by omega) Ra.lt bm6 hform).gives HP.out
    · have HM : Hid (val qs = wholeM f (val xn) (val xd)) := by
        unfold Hid wholeM
        rw [if_neg, Int.add_zero]
        · exact HU.out.1
        · rintro ⟨hf, h0⟩
          exact hcs ⟨hf, HRS.out.2 (by rw [HU.out.2]; exact h0)⟩
      have hcs2 : f = false ∨ (f = true ∧ ¬ 0 < rs.length) := by
        cases f with
        | false => exact Or.inl rfl
        | true => exact Or.inr ⟨rfl, fun h => hcs ⟨rfl, h⟩⟩
      clear hcs
      have hqo : Own wa.heap.size wb (.slice a5 qs.length c5) qs := oq
      rcases hcs2 with rfl | ⟨rfl, hr0⟩
      · have x0 := X.k0
        have hcells : ∀ {w' : World}, Below wb.heap.size wb w' → w'.cell? ⟨w.heap.size, 0, none⟩ = some (.bool bx) := fun hb => (X.below hb).k0
        have hne : w.heap.size + 1 ≠ w.heap.size := by omega
        go_wp2
        go_region_held3 (fun w' => w'.cell? ⟨w.heap.size, 0, none⟩ = some (.bool bx))
          (first | (go_keep; done) | exact tw | exact tw2 | exact (((Xf.box.apart (p := ⟨w.heap.size + 1, 0, none⟩) (by exact hne) _).apart (p := ⟨w.heap.size + 1, 1, none⟩) (by exact hne) _).apart (p := ⟨w.heap.size + 1, 2, none⟩) (by exact hne) _).c0)
          (first
            | (go_at_call 38; refine (one_any _).mono ?_; intro e we hm; obtain ⟨x2, y2, rfl, o3, bf⟩ := Makes.undrew hm; have tw := hcells bf; have t2 : Below wa.heap.size wa we := t1.trans (bf.mono t1.size))
            | (go_at_call 36; refine (limited_any (b := bx) (sg bx (wholeM false (val xn) (val xd))) 1 t2 (hqo.below bf (Nat.le_refl _)) (o3.mono t1.size) cq can_one (by simp) (by rw [one_val]; exact gI_one_right _) (by rw [one_val, HM.out])).mono ?_; intro e wf hm6; obtain ⟨bm6, b6, x5, n5, y5, x6, n6, y6, err, rfl, hform⟩ := hm6.form; have tw2 := hcells2 bm6; have Xf := X2 bm6; have Rf := Ra.below bm6; have q0 := Rf.box.c0; have q1 := Rf.box.c1; have q2 := Rf.box.c2; have p0 := Rf.box.f0; have p1 := Rf.box.f1; have p2 := Rf.box.f2))
        all_goals
          go_wp2
          have hR3 := Rf.box.set (.bool b6) (.slice x5 n5 y5) (.slice x6 n6 y6)
          have r0 := hR3.c0
          have r1 := hR3.c1
          have r2 := hR3.c2
          refine bodyPost_ret (v := .tuple #[.agg #[.bool b6, .slice x5 n5 y5, .slice x6 n6 y6], .int .i64 err]) (by simp [results, Tryd.results55, go_sem, r0, r1, r2]) rfl ?_
          exact (rform_done ga (by omega) Ra.lt bm6 hform).gives HP.out
      · have x0 := X.k0
        have hcells : ∀ {w' : World}, Below wb.heap.size wb w' → w'.cell? ⟨w.heap.size, 0, none⟩ = some (.bool bx) := fun hb => (X.below hb).k0
        have hne : w.heap.size + 1 ≠ w.heap.size := by omega
        go_wp2
        go_region_held3 (fun w' => w'.cell? ⟨w.heap.size, 0, none⟩ = some (.bool bx))
          (first | (go_keep; done) | exact tw | exact tw2 | exact (((Xf.box.apart (p := ⟨w.heap.size + 1, 0, none⟩) (by exact hne) _).apart (p := ⟨w.heap.size + 1, 1, none⟩) (by exact hne) _).apart (p := ⟨w.heap.size + 1, 2, none⟩) (by exact hne) _).c0)
          (first
            | (go_at_call 38; refine (one_any _).mono ?_; intro e we hm; obtain ⟨x2, y2, rfl, o3, bf⟩ := Makes.undrew hm; have tw := hcells bf; have t2 : Below wa.heap.size wa we := t1.trans (bf.mono t1.size))
            | (go_at_call 36; refine (limited_any (b := bx) (sg bx (wholeM true (val xn) (val xd))) 1 t2 (hqo.below bf (Nat.le_refl _)) (o3.mono t1.size) cq can_one (by simp) (by rw [one_val]; exact gI_one_right _) (by rw [one_val, HM.out])).mono ?_; intro e wf hm6; obtain ⟨bm6, b6, x5, n5, y5, x6, n6, y6, err, rfl, hform⟩ := hm6.form; have tw2 := hcells2 bm6; have Xf := X2 bm6; have Rf := Ra.below bm6; have q0 := Rf.box.c0; have q1 := Rf.box.c1; have q2 := Rf.box.c2; have p0 := Rf.box.f0; have p1 := Rf.box.f1; have p2 := Rf.box.f2))
        all_goals
          go_wp2
          have hR3 := Rf.box.set (.bool b6) (.slice x5 n5 y5) (.slice x6 n6 y6)
          have r0 := hR3.c0
          have r1 := hR3.c1
          have r2 := hR3.c2
          refine bodyPost_ret (v := .tuple #[.agg #[.bool b6, .slice x5 n5 y5, .slice x6 n6 y6], .int .i64 err]) (by simp [results, Tryd.results55, go_sem, r0, r1, r2]) rfl ?_
          exact (rform_done ga (by omega) Ra.lt bm6 hform).gives HP.out

set_option maxRecDepth 100000 in
set_option maxHeartbeats 3200000 in
theorem floor_rat (h1 : Rd w.heap.size w (.slice a1 xn.length c1) xn) (h2 : Rd w.heap.size w (.slice a2 xd.length c2) xd) :
    Calls Tryd.prog 33 #[.agg #[.bool bx, .slice a1 xn.length c1, .slice a2 xd.length c2]] w fun e w' => Gives w (RightP bx xn xd) (sg bx (val xn) / val xd) 1 e w' := by
  have X := nvar_new (b := bx) h1 h2
  have g := below_alloc w (.cells #[.bool bx, .slice a1 xn.length c1, .slice a2 xd.length c2] 24)
  have R := rvar_new (w.alloc (.cells #[.bool bx, .slice a1 xn.length c1, .slice a2 xd.length c2] 24))
  have ka := below_alloc (w.alloc (.cells #[.bool bx, .slice a1 xn.length c1, .slice a2 xd.length c2] 24)) (.cells #[.bool false, .slice none 0 0, .slice none 0 0] 24)
  rw [World.size_alloc] at R
  replace X := X.below ka
  replace g := g.trans (ka.mono g.size)
  clear ka h1 h2
  obtain ⟨x0, x1, x2⟩ := X.cells
  go_enter Tryd.func33, Tryd.ntmps33
  go_wp2_with fail
  clear x0 x1 x2
  generalize hA : (w.alloc (.cells #[.bool bx, .slice a1 xn.length c1, .slice a2 xd.length c2] 24)).alloc (.cells #[.bool false, .slice none 0 0, .slice none 0 0] 24) = v at *
  clear hA
  refine (whole_rat bx X.rn X.rd).mono ?_
  rintro e wa ⟨ka, b6, x5, n5, y5, x6, n6, y6, err, rfl, ho⟩
  have Ra := R.below ka
  have q0 := Ra.box.c0
  have q1 := Ra.box.c1
  have q2 := Ra.box.c2
  have p0 := Ra.box.f0
  have p1 := Ra.box.f1
  have p2 := Ra.box.f2
  go_wp2
  have hR3 := Ra.box.set (.bool b6) (.slice x5 n5 y5) (.slice x6 n6 y6)
  have r0 := hR3.c0
  have r1 := hR3.c1
  have r2 := hR3.c2
  refine bodyPost_ret (v := .tuple #[.agg #[.bool b6, .slice x5 n5 y5, .slice x6 n6 y6], .int .i64 err]) (by simp [results, Tryd.results33, go_sem, r0, r1, r2]) rfl ?_
  have hd := gives_done g (by omega) R.lt ka (Nat.le_refl _) ho
  by_cases hP : RightP bx xn xd
  · rw [floor_whole bx _ _ (right_pos hP).2 (right_pos hP).1] at hd
    exact hd
  · obtain ⟨k1, c, z1, n, z2, z3, m, z4, er, he, hO⟩ := hd
    refine ⟨k1, c, z1, n, z2, z3, m, z4, er, he, ?_⟩
    rcases hO.out with h | ⟨h, _⟩ | ⟨h, _⟩
    · exact Or.inl h
    · exact absurd h hP
    · exact absurd h hP
end
end Go.Proofs.YtekmalpmcbjpeaaDoor

/- nat.word, nat.Small. -/
namespace Go.Proofs.YtekmalpmcbjpeaaDoor
set_option linter.unusedVariables false
set_option linter.unusedSimpArgs false
open Go.RowKit

theorem or_zero_left (x : Int) (h : 0 ≤ x ∧ x < 18446744073709551616) : bits .or .u64 0 x = x := by
  obtain ⟨a, rfl⟩ := Int.eq_ofNat_of_zero_le h.1
  have := bits_or_u64_nat 0 a (by omega) (by omega)
  rw [Nat.zero_or] at this
  exact this
theorem or_add_right (q v : Int) (hq : 0 ≤ q ∧ q < 4294967296) (hv : 0 ≤ v ∧ v < 4294967296) : bits .or .u64 v (q * 4294967296) = v + q * 4294967296 := by
  obtain ⟨a, rfl⟩ := Int.eq_ofNat_of_zero_le hq.1
  obtain ⟨b, rfl⟩ := Int.eq_ofNat_of_zero_le hv.1
  have e : ((a : Int) * 4294967296) = ((a * 4294967296 : Nat) : Int) := by omega
  rw [e, bits_or_u64_nat _ _ (by omega) (by omega)]
  have h : b ||| a * 4294967296 = a * 4294967296 + b := by
    have := Nat.two_pow_add_eq_or_of_lt (i := 32) (b := b) (by omega) a
    rw [Nat.mul_comm, Nat.or_comm]
    exact this.symm
  rw [h]; omega

set_option maxHeartbeats 800000 in
theorem word_two (b o c : Nat) (x y : Int) (w : World) (hx : 0 ≤ x ∧ x < 4294967296) (hy : 0 ≤ y ∧ y < 4294967296) (k1 : w.cell? ⟨b, o, none⟩ = some (.int .u32 x)) (k2 : w.cell? ⟨b, o + 1, none⟩ = some (.int .u32 y)) :
    Calls Tryd.prog 65 #[.slice (some ⟨b, o, none⟩) 2 c] w fun e w' => e = .returned (.int .u64 (x + y * 4294967296)) ∧ w = w' := by
  have e1 := or_zero_left x (by omega)
  have e2 := or_add_right y x hy hx
  go_enter Tryd.func65, Tryd.ntmps65
  go_wp2
  refine wp_loop_rounds 3 ?_
  rw [rounds_succ]
  go_wp2
  rw [rounds_succ]
  go_wp2
  rw [rounds_succ]
  go_wp2
  go_ret
  exact ⟨rfl, rfl⟩

set_option maxHeartbeats 800000 in
theorem word_one (b o c : Nat) (x : Int) (w : World) (hx : 0 ≤ x ∧ x < 4294967296) (k1 : w.cell? ⟨b, o, none⟩ = some (.int .u32 x)) :
    Calls Tryd.prog 65 #[.slice (some ⟨b, o, none⟩) 1 c] w fun e w' => e = .returned (.int .u64 x) ∧ w = w' := by
  have e1 := or_zero_left x (by omega)
  go_enter Tryd.func65, Tryd.ntmps65
  go_wp2
  refine wp_loop_rounds 2 ?_
  rw [rounds_succ]
  go_wp2
  rw [rounds_succ]
  go_wp2
  go_ret
  exact ⟨rfl, rfl⟩
theorem word_zero (a : Option Addr) (c : Nat) (w : World) :
    Calls Tryd.prog 65 #[.slice a 0 c] w fun e w' => e = .returned (.int .u64 0) ∧ w = w' := by
  go_enter Tryd.func65, Tryd.ntmps65
  go_wp2
  refine wp_loop_rounds 1 ?_
  rw [rounds_succ]
  go_wp2
  go_ret
  exact ⟨rfl, rfl⟩

/-- nat.word of at most two limbs: the number. -/
theorem word_rd {B : Nat} {w : World} {v : Value} {xs : List Int} (h : Rd B w v xs) (h2 : xs.length ≤ 2) :
    Calls Tryd.prog 65 #[v] w fun e w' => e = .returned (.int .u64 (val xs)) ∧ w = w' := by
  obtain ⟨hl, a, c, rfl, _, _, _, r⟩ := h
  match xs, h2 with
  | [], _ => exact word_zero a c w
  | [x], _ =>
    rcases r with r | ⟨b, o, rfl, _, k⟩
    · simp at r
    · have e : val [x] = x := by simp [val]
      rw [e]
      exact word_one b o c x w (hl x (by simp)) (k 0 (by simp))
  | [x, y], _ =>
    rcases r with r | ⟨b, o, rfl, _, k⟩
    · simp at r
    · have e : val [x, y] = x + y * 4294967296 := by simp [val]; rw [Int.mul_comm]
      rw [e]
      exact word_two b o c x y w (hl x (by simp)) (hl y (by simp)) (k 0 (by simp)) (k 1 (by simp))

/-- A number as an int, if it is below 2^63. -/
def smallV (n : Int) : Value := .tuple #[.int .i64 (if n < 9223372036854775808 then n else 0), .bool (decide (n < 9223372036854775808))]

theorem smallV_lt {n : Int} (h : n < 9223372036854775808) : smallV n = .tuple #[.int .i64 n, .bool true] := by unfold smallV; rw [if_pos h, decide_eq_true h]
theorem smallV_ge {n : Int} (h : 9223372036854775808 ≤ n) : smallV n = .tuple #[.int .i64 0, .bool false] := by unfold smallV; rw [if_neg (by omega), decide_eq_false (by omega)]
theorem list_two {us : List Int} (h : us.length ≤ 2) : us = [] ∨ (∃ x, us = [x]) ∨ ∃ x y, us = [x, y] := by
  match us, h with
  | [], _ => exact Or.inl rfl
  | [x], _ => exact Or.inr (Or.inl ⟨x, rfl⟩)
  | [x, y], _ => exact Or.inr (Or.inr ⟨x, y, rfl⟩)

theorem isBits_63 {n : Int} {b : Nat} (h : isBits n b) (h0 : 0 ≤ n) : b ≤ 63 ↔ n < 9223372036854775808 := by
  have e : p2 63 = 9223372036854775808 := by decide
  rcases h with ⟨rfl, rfl⟩ | ⟨h1, h2, h3⟩
  · exact ⟨fun _ => by omega, fun _ => by omega⟩
  · constructor
    · intro hb
      have := p2_mono (j := b) (k := 63) hb
      omega
    · intro hn
      by_cases hb : b ≤ 63
      · exact hb
      · have := p2_mono (j := 63) (k := b - 1) (by omega)
        omega

theorem can_two {us : List Int} (h : can us) (hv : val us < 18446744073709551616) : us.length ≤ 2 := by
  by_cases hl : us.length ≤ 2
  · exact hl
  · have h1 := can_low h (by omega)
    have h2 := pw_mono (j := 2) (k := us.length - 1) (by omega)
    have e : pw 2 = 18446744073709551616 := by decide
    omega

set_option maxHeartbeats 800000 in
/-- nat.Small. -/
theorem small_any {B : Nat} {w : World} {v : Value} {xs : List Int} (h : Rd B w v xs) (hn : xs.length ≤ 17592186044415) :
    Calls Tryd.prog 57 #[v] w fun e w' => e = .returned (smallV (val xs)) ∧ w = w' := by
  have h0 := (val_bound h.lim).1
  have m := meant_rd h
  have t := h.meant
  have ct := tr_can h.lim
  rw [← tr_length] at m t
  have hv := val_tr xs
  go_enter Tryd.func57, Tryd.ntmps57
  go_wp2_with fail
  refine (bits_any h hn).mono ?_
  rintro e w' ⟨b, rfl, hb, hbl, rfl⟩
  have h63 := isBits_63 hb h0
  clear hb
  generalize hV : val xs = V at *
  by_cases hlt : V < 9223372036854775808
  · have hb63 : b ≤ 63 := h63.2 hlt
    have hl2 : (tr xs).length ≤ 2 := can_two ct (by omega)
    have hw := word_rd t hl2
    rw [hv] at hw
    have HV : Hid (val xs = V) := hV
    clear h63 hv hV
    go_wp2_with fail
    refine m.mono ?_
    rintro e w' ⟨rfl, rfl⟩
    go_wp2_with fail
    refine hw.mono ?_
    rintro e w' ⟨rfl, rfl⟩
    go_wp2
    go_ret2
    refine ⟨?_, rfl⟩
    rw [HV.out, smallV_lt hlt]; rfl
  · have hb63 : ¬ b ≤ 63 := fun hb => hlt (h63.1 hb)
    have hb63' : 63 < b := by omega
    have HV : Hid (val xs = V) := hV
    clear h63 hv hV
    go_wp2
    go_ret2
    refine ⟨?_, rfl⟩
    rw [HV.out, smallV_ge (by omega)]; rfl

end Go.Proofs.YtekmalpmcbjpeaaDoor

/- rat.OfInt at every int. -/
namespace Go.Proofs.YtekmalpmcbjpeaaDoor
set_option linter.unusedVariables false
set_option linter.unusedSimpArgs false
open Go.RowKit

theorem of_can (n : Int) (h0 : 0 ≤ n) (h1 : n < 18446744073709551616) : can (tr [n % 4294967296, n / 4294967296]) ∧ val (tr [n % 4294967296, n / 4294967296]) = n ∧ (tr [n % 4294967296, n / 4294967296]).length ≤ 2 := by
  refine ⟨tr_can (fun x hx => by simp at hx; omega), ?_, ?_⟩
  · rw [val_tr]; simp [val]; omega
  · have := tr_length_le [n % 4294967296, n / 4294967296]
    simpa using this
theorem of_num (n : Int) (h0 : 0 ≤ n) (h1 : n < 18446744073709551616) (w : World) : Calls Tryd.prog 37 #[.int .u64 n] w fun e w' => ∃ ns, can ns ∧ Hid (val ns = n) ∧ ns.length ≤ 2 ∧ Makes w e w' ns := by
  refine (of_any n h0 h1 w).mono ?_
  intro e w' h
  have hc := of_can n h0 h1
  exact ⟨_, hc.1, hc.2.1, hc.2.2, h⟩

/-- A whole number as a number. -/
def WholeIs (k : Int) (b : Bool) (ns ds : List Int) : Prop := b = decide (k < 0) ∧ can ns ∧ val ns = (if k < 0 then -k else k) ∧ ns.length ≤ 2 ∧ ds = [1]
theorem WholeIs.right {k : Int} {b : Bool} {ns ds : List Int} (h : WholeIs k b ns ds) : RightP b ns ds := by
  obtain ⟨rfl, cn, vn, ln, rfl⟩ := h
  refine ⟨by omega, by simp, cn, can_one, ?_, by simp, by rw [one_val]; exact gI_one_right _⟩
  rintro ⟨hb, hz⟩
  rw [(can_zero cn).1 hz] at vn
  rw [decide_eq_true_iff] at hb
  rw [if_pos hb] at vn
  omega
theorem WholeIs.sg {k : Int} {b : Bool} {ns ds : List Int} (h : WholeIs k b ns ds) : sg b (val ns) = k ∧ val ds = 1 := by
  obtain ⟨rfl, cn, vn, ln, rfl⟩ := h
  refine ⟨?_, one_val⟩
  rw [vn]
  by_cases hk : k < 0
  · rw [decide_eq_true hk, if_pos hk]; simp [Go.Proofs.YtekmalpmcbjpeaaDoor.sg]
  · rw [decide_eq_false hk, if_neg hk]; rfl
/-- A whole number's answer. -/
def WholeNum (w : World) (k : Int) (e : Ending) (w' : World) : Prop :=
  Below w.heap.size w w' ∧ ∃ b ns ds a1 c1 a2 c2, Hid (WholeIs k b ns ds) ∧ e = .returned (.agg #[.bool b, .slice a1 ns.length c1, .slice a2 ds.length c2]) ∧ Own w.heap.size w' (.slice a1 ns.length c1) ns ∧ Own w.heap.size w' (.slice a2 ds.length c2) ds

set_option maxRecDepth 100000 in
set_option maxHeartbeats 3200000 in
theorem ofInt_any (k : Int) (h0 : -9223372036854775808 ≤ k) (h1 : k < 9223372036854775808) (w : World) : Calls Tryd.prog 19 #[.int .i64 k] w fun e w' => WholeNum w k e w' := by
  have R := rvar_new w
  have g := below_alloc w (.cells #[.bool false, .slice none 0 0, .slice none 0 0] 24)
  go_enter Tryd.func19, Tryd.ntmps19
  by_cases hk : k < 0
  · have hkb : decide (k < 0) = true := decide_eq_true hk
    have hw : IntKind.u64.wrap (-IntKind.u64.wrap k) = -k := by rw [IntKind.wrap_u64, IntKind.wrap_u64]; omega
    go_wp2_with fail
    generalize hA : w.alloc (.cells #[.bool false, .slice none 0 0, .slice none 0 0] 24) = v at *
    clear hA
    refine (of_num (-k) (by omega) (by omega) _).mono ?_
    rintro e wa ⟨ns, cn, vn, ln, x1, y1, rfl, o1, ka⟩
    go_wp2_with fail
    refine (one_any _).mono ?_
    rintro e wb ⟨x2, y2, hb, o2, kb⟩
    obtain ⟨ds, hds⟩ : ∃ ds : List Int, ds = [1] := ⟨_, rfl⟩
    rw [← hds] at hb o2
    subst hb
    have HD : Hid (ds = [1]) := hds
    clear hds
    have t : Below v.heap.size v wb := ka.trans (kb.mono ka.size)
    have Rb := R.below t
    have q0 := Rb.box.c0
    have q1 := Rb.box.c1
    have q2 := Rb.box.c2
    have p0 := Rb.box.f0
    have p1 := Rb.box.f1
    have p2 := Rb.box.f2
    go_wp2
    have hR3 := Rb.box.set (.bool true) (.slice x1 ns.length y1) (.slice x2 ds.length y2)
    have r0 := hR3.c0
    have r1 := hR3.c1
    have r2 := hR3.c2
    refine bodyPost_ret (v := .agg #[.bool true, .slice x1 ns.length y1, .slice x2 ds.length y2]) (by simp [results, Tryd.results19, go_sem, r0, r1, r2]) rfl ?_
    exact ⟨Below.set3 (g.trans (t.mono g.size)) (Nat.le_refl _) _ _ _, true, ns, ds, x1, y1, x2, y2, ⟨hkb.symm, cn, by rw [vn.out, if_pos hk], ln, HD.out⟩, rfl, (Own.set3 (o1.below kb (Nat.le_refl _)) R.lt _ _ _).mono g.size, (Own.set3 (o2.mono ka.size) R.lt _ _ _).mono g.size⟩
  · have hkb : decide (k < 0) = false := decide_eq_false hk
    go_wp2_with fail
    generalize hA : w.alloc (.cells #[.bool false, .slice none 0 0, .slice none 0 0] 24) = v at *
    clear hA
    refine (of_num k (by omega) (by omega) _).mono ?_
    rintro e wa ⟨ns, cn, vn, ln, x1, y1, rfl, o1, ka⟩
    go_wp2_with fail
    refine (one_any _).mono ?_
    rintro e wb ⟨x2, y2, hb, o2, kb⟩
    obtain ⟨ds, hds⟩ : ∃ ds : List Int, ds = [1] := ⟨_, rfl⟩
    rw [← hds] at hb o2
    subst hb
    have HD : Hid (ds = [1]) := hds
    clear hds
    have t : Below v.heap.size v wb := ka.trans (kb.mono ka.size)
    have Rb := R.below t
    have q0 := Rb.box.c0
    have q1 := Rb.box.c1
    have q2 := Rb.box.c2
    have p0 := Rb.box.f0
    have p1 := Rb.box.f1
    have p2 := Rb.box.f2
    go_wp2
    have hR3 := Rb.box.set (.bool false) (.slice x1 ns.length y1) (.slice x2 ds.length y2)
    have r0 := hR3.c0
    have r1 := hR3.c1
    have r2 := hR3.c2
    refine bodyPost_ret (v := .agg #[.bool false, .slice x1 ns.length y1, .slice x2 ds.length y2]) (by simp [results, Tryd.results19, go_sem, r0, r1, r2]) rfl ?_
    exact ⟨Below.set3 (g.trans (t.mono g.size)) (Nat.le_refl _) _ _ _, false, ns, ds, x1, y1, x2, y2, ⟨hkb.symm, cn, by rw [vn.out, if_neg (by omega)], ln, HD.out⟩, rfl, (Own.set3 (o1.below kb (Nat.le_refl _)) R.lt _ _ _).mono g.size, (Own.set3 (o2.mono ka.size) R.lt _ _ _).mono g.size⟩
end Go.Proofs.YtekmalpmcbjpeaaDoor

/- rat.powerOf. -/
namespace Go.Proofs.YtekmalpmcbjpeaaDoor
set_option linter.unusedVariables false
set_option linter.unusedSimpArgs false
open Go.RowKit

theorem pow_huge (A : Int) (N : Nat) (hA : 2 ≤ A) (hN : 1024 ≤ N) : pw 32 ≤ A ^ N := by
  rw [pw_p2]
  have h1 : p2 (32 * 32) ≤ p2 N := p2_mono hN
  have h2 : (2 : Int) ^ N ≤ A ^ N := (pow_le_pow (by omega) hA N).1
  unfold p2 at *
  omega
theorem bits_small {A : Int} {b : Nat} (h : isBits A b) (hb : b < 2) : A = 0 ∨ A = 1 := by
  rcases h with ⟨rfl, _⟩ | ⟨h1, h2, h3⟩
  · exact Or.inl rfl
  · obtain rfl : b = 1 := by omega
    have e1 : p2 (1 - 1) = 1 := by decide
    have e2 : p2 1 = 2 := by decide
    omega
theorem bits_great {A : Int} {b : Nat} (h : isBits A b) (hb : ¬ b < 2) : 2 ≤ A := by
  rcases h with ⟨rfl, h⟩ | ⟨h1, h2, h3⟩
  · omega
  · have := p2_mono (j := 1) (k := b - 1) (by omega)
    have e2 : p2 1 = 2 := by decide
    omega
theorem pow_unit {A : Int} (h : A = 0 ∨ A = 1) (N : Nat) (hN : 0 < N) : A ^ N = A := by
  obtain ⟨k, rfl⟩ : ∃ k, N = k + 1 := ⟨N - 1, by omega⟩
  rcases h with rfl | rfl
  · rw [Int.pow_succ, Int.mul_zero]
  · exact one_pow' _
theorem one_lt_pw : (1 : Int) < pw 32 := by
  have := pw_mono (j := 1) (k := 32) (by omega)
  have e : pw 1 = 4294967296 := by decide
  omega

/-- What rat.powerOf answers. -/
def PowGives (w : World) (A : Int) (N : Nat) (e : Ending) (w' : World) : Prop :=
  Below w.heap.size w w' ∧ ((pw 32 ≤ A ^ N ∧ e = .returned (.tuple #[.slice none 0 0, .bool false])) ∨ (A ^ N < pw 32 ∧ ∃ zs a c, can zs ∧ val zs = A ^ N ∧ e = .returned (.tuple #[.slice a zs.length c, .bool true]) ∧ Own w.heap.size w' (.slice a zs.length c) zs))

set_option maxRecDepth 100000 in
set_option maxHeartbeats 3200000 in
theorem powerOf_any {B : Nat} {w : World} {a1 a2 : Option Addr} {c1 c2 : Nat} {xs ys : List Int} (ha : Rd B w (.slice a1 xs.length c1) xs) (hn : Rd B w (.slice a2 ys.length c2) ys) (hB : B ≤ w.heap.size) (cx : can xs) (lx : xs.length ≤ 32) (ly : ys.length ≤ 32) (hy : 0 < val ys) :
    Calls Tryd.prog 35 #[.slice a1 xs.length c1, .slice a2 ys.length c2] w fun e w' => PowGives w (val xs) (val ys).toNat e w' := by
  have HT : Hid (tr xs = xs) := can_inj (tr_can ha.lim) cx (val_tr xs)
  go_enter Tryd.func35, Tryd.ntmps35
  go_wp2_with fail
  refine (bits_any ha (by omega)).mono ?_
  rintro e w' ⟨b, rfl, hb, hbl, rfl⟩
  by_cases h2 : b < 2
  · have HE : Hid (val xs ^ (val ys).toNat = val xs ∧ val xs < pw 32) := by
      have h3 := bits_small hb h2
      have h4 := one_lt_pw
      exact ⟨pow_unit h3 _ (by omega), by omega⟩
    clear hb
    go_wp2_with fail
    refine (trim_rd ha (by omega)).mono ?_
    intro e wa hm
    rw [HT.out] at hm
    obtain ⟨a3, c3, rfl, o3, ka⟩ := hm
    go_wp2
    go_ret2
    exact ⟨ka, Or.inr ⟨by rw [HE.out.1]; exact HE.out.2, xs, a3, c3, cx, HE.out.1.symm, rfl, o3⟩⟩
  · have HA : Hid (2 ≤ val xs) := bits_great hb h2
    clear hb
    go_wp2_with fail
    refine (small_any hn (by omega)).mono ?_
    rintro e w' ⟨rfl, rfl⟩
    by_cases hs : val ys < 9223372036854775808
    · rw [smallV_lt hs]
      obtain ⟨n, en⟩ := Int.eq_ofNat_of_zero_le (Int.le_of_lt hy)
      have HN : Hid ((val ys).toNat = n) := by unfold Hid; rw [en]; exact Int.toNat_natCast n
      have hn9 : n < 9223372036854775808 := by omega
      rw [en]
      clear hs hy
      go_wp2_with fail
      refine (power_any n 32 ha hB (by omega) hn9 (by omega)).mono ?_
      rintro e wa ⟨ka, h3, h4⟩
      have HP : Hid ((pw 32 ≤ val xs ^ n → e = .returned (.tuple #[.slice none 0 0, .bool false])) ∧ (val xs ^ n < pw 32 → ∃ zs a c, can zs ∧ val zs = val xs ^ n ∧ e = .returned (.tuple #[.slice a zs.length c, .bool true]) ∧ Own w.heap.size wa (.slice a zs.length c) zs)) := ⟨h3, h4⟩
      clear h3 h4
      by_cases hf : val xs ^ n < pw 32
      · obtain ⟨zs, a3, c3, cz, vz, rfl, o3⟩ := HP.out.2 hf
        have HF : Hid (val xs ^ n < pw 32 ∧ val zs = val xs ^ n) := ⟨hf, vz⟩
        clear HP hf vz
        go_wp2
        go_ret2
        unfold PowGives
        rw [en, Int.toNat_natCast]
        exact ⟨ka, Or.inr ⟨HF.out.1, zs, a3, c3, cz, HF.out.2, rfl, o3⟩⟩
      · have hf' : pw 32 ≤ val xs ^ n := by omega
        obtain rfl := HP.out.1 hf'
        have HF : Hid (pw 32 ≤ val xs ^ n) := hf'
        clear HP hf hf'
        go_wp2
        go_ret2
        unfold PowGives
        rw [en, Int.toNat_natCast]
        exact ⟨ka, Or.inl ⟨HF.out, rfl⟩⟩
    · rw [smallV_ge (by omega)]
      have HF : Hid (pw 32 ≤ val xs ^ (val ys).toNat) := pow_huge _ _ HA.out (by omega)
      clear hs
      go_wp2
      go_ret2
      exact ⟨Below.refl _ _, Or.inl ⟨HF.out, rfl⟩⟩
end Go.Proofs.YtekmalpmcbjpeaaDoor

/- Plain facts on how many sets of k things n things have. -/
namespace Go.Proofs.YtekmalpmcbjpeaaDoor
set_option linter.unusedVariables false
set_option linter.unusedSimpArgs false

/-- How many sets of k things n things have. -/
def binom : Nat → Nat → Nat
  | _, 0 => 1
  | 0, _ + 1 => 0
  | n + 1, k + 1 => binom n k + binom n (k + 1)
theorem binom_zero (n : Nat) : binom n 0 = 1 := by cases n <;> rfl
theorem binom_succ (n k : Nat) : binom (n + 1) (k + 1) = binom n k + binom n (k + 1) := rfl
theorem binom_none (k : Nat) : binom 0 (k + 1) = 0 := rfl
theorem binom_lt {n : Nat} : ∀ {k : Nat}, n < k → binom n k = 0 := by
  induction n with
  | zero => intro k h; obtain ⟨j, rfl⟩ : ∃ j, k = j + 1 := ⟨k - 1, by omega⟩; rfl
  | succ n ih =>
    intro k h
    obtain ⟨j, rfl⟩ : ∃ j, k = j + 1 := ⟨k - 1, by omega⟩
    rw [binom_succ, ih (by omega), ih (by omega)]
theorem binom_absorb (n : Nat) : ∀ k, (k + 1) * binom (n + 1) (k + 1) = (n + 1) * binom n k := by
  induction n with
  | zero =>
    intro k
    cases k with
    | zero => rfl
    | succ k => rw [binom_succ, binom_none, binom_none]; simp
  | succ n ih =>
    intro k
    cases k with
    | zero =>
      have h := ih 0
      rw [binom_zero] at h
      rw [binom_succ, binom_zero]
      omega
    | succ j =>
      have h1 := ih j
      have h2 := ih (j + 1)
      rw [binom_succ (n + 1) (j + 1), Nat.mul_add, h2, Nat.add_mul (j + 1) 1, h1]
      have e : (n + 1) * binom n j + (n + 1) * binom n (j + 1) = (n + 1) * binom (n + 1) (j + 1) := by rw [binom_succ n j, Nat.mul_add]
      rw [Nat.add_mul (n + 1) 1]
      omega
theorem binom_sym (n : Nat) : ∀ a b, a + b = n → binom n a = binom n b := by
  induction n with
  | zero => 
    intro a b h
    have h1 : a = 0 ∧ b = 0 := by omega
    rw [h1.1, h1.2]
  | succ n ih =>
    intro a b h
    cases a with
    | zero =>
      obtain rfl : b = n + 1 := by omega
      rw [binom_zero, binom_succ, ih n 0 (by omega), binom_zero, binom_lt (by omega)]
    | succ a =>
      cases b with
      | zero =>
        obtain rfl : a = n := by omega
        rw [binom_zero, binom_succ, ih a 0 (by omega), binom_zero, binom_lt (by omega)]
      | succ b =>
        rw [binom_succ, binom_succ, ih a (b + 1) (by omega), ih (a + 1) b (by omega), Nat.add_comm]
theorem binom_le (n : Nat) : ∀ k, binom n k ≤ 2 ^ n := by
  induction n with
  | zero => intro k; cases k with | zero => exact Nat.le_refl _ | succ k => exact Nat.zero_le _
  | succ n ih =>
    intro k
    cases k with
    | zero => rw [binom_zero]; exact Nat.one_le_two_pow
    | succ k => rw [binom_succ, Nat.pow_succ]; have := ih k; have := ih (k + 1); omega
/-- From the sets of i things of m + i to those of one more of one more. -/
theorem binom_step (m i : Nat) : binom (m + i) i * (m + (i + 1)) = binom (m + (i + 1)) (i + 1) * (i + 1) := by
  have h := binom_absorb (m + i) i
  rw [Nat.mul_comm (binom (m + (i + 1)) (i + 1)), show m + (i + 1) = m + i + 1 by omega, h, Nat.mul_comm]
theorem binom_grow (m i : Nat) : binom (m + i) i ≤ binom (m + (i + 1)) (i + 1) := by
  rw [show m + (i + 1) = m + i + 1 by omega, binom_succ]
  omega
end Go.Proofs.YtekmalpmcbjpeaaDoor

/- rat.choose. -/
namespace Go.Proofs.YtekmalpmcbjpeaaDoor
set_option linter.unusedVariables false
set_option linter.unusedSimpArgs false
open Go.RowKit

theorem binom_mono (M : Nat) {j F : Nat} (h : j ≤ F) : binom (M + j) j ≤ binom (M + F) F := by
  induction F with
  | zero =>
    have hj : j = 0 := by omega
    rw [hj]
    exact Nat.le_refl _
  | succ F ih =>
    by_cases hj : j = F + 1
    · subst hj; exact Nat.le_refl _
    · exact Nat.le_trans (ih (by omega)) (binom_grow M F)

/-- Has a number at most 32 limbs, or more? (Said by name: the walk reckons a bare power.) -/
structure Fits (N : Nat) : Prop where
  is : (N : Int) < pw 32
structure Great (N : Nat) : Prop where
  is : pw 32 ≤ (N : Int)

/-- What rat.choose answers. -/
def Chooses (w : World) (N : Nat) (e : Ending) (w' : World) : Prop :=
  Below w.heap.size w w' ∧ ((pw 32 ≤ (N : Int) ∧ e = errOf 8) ∨ ((N : Int) < pw 32 ∧ ∃ zs ds a1 c1 a2 c2, can zs ∧ val zs = (N : Int) ∧ Hid (ds = [(1 : Int)]) ∧ e = .returned (.tuple #[.agg #[.bool false, .slice a1 zs.length c1, .slice a2 ds.length c2], .int .i64 0]) ∧ Own w.heap.size w' (.slice a1 zs.length c1) zs ∧ Own w.heap.size w' (.slice a2 ds.length c2) ds))

theorem one_num (w : World) : Calls Tryd.prog 38 #[] w fun e w' => ∃ ds a c, Hid (ds = [(1 : Int)]) ∧ e = .returned (.slice a ds.length c) ∧ Own w.heap.size w' (.slice a ds.length c) ds ∧ Below w.heap.size w w' :=
  (one_any w).mono (fun e w' ⟨a, c, he, ho, hb⟩ => ⟨[1], a, c, rfl, he, ho, hb⟩)

set_option maxRecDepth 100000 in
set_option maxHeartbeats 8000000 in
theorem choose_any {w : World} {a1 a2 : Option Addr} {c1 c2 : Nat} {fs ms : List Int} (h1 : Rd w.heap.size w (.slice a1 fs.length c1) fs) (h2 : Rd w.heap.size w (.slice a2 ms.length c2) ms) (l1 : fs.length ≤ 32) (l2 : ms.length ≤ 32) (F M : Nat) (hF : Hid (val fs = (F : Int))) (hM : Hid (val ms = (M : Int))) :
    Calls Tryd.prog 42 #[.slice a1 fs.length c1, .slice a2 ms.length c2] w fun e w' => Chooses w (binom (M + F) F) e w' := by
  have hFb : Fits F := by
    constructor
    have h5 := (val_bound h1.lim).2
    have h6 := pw_mono (j := fs.length) (k := 32) l1
    rw [hF.out] at h5
    omega
  have R := rvar_new w
  have g := below_alloc w (.cells #[.bool false, .slice none 0 0, .slice none 0 0] 24)
  go_enter Tryd.func42, Tryd.ntmps42
  go_wp2_with fail
  generalize hA : w.alloc (.cells #[.bool false, .slice none 0 0, .slice none 0 0] 24) = v at *
  clear hA
  refine (one_num _).mono ?_
  rintro e wa ⟨s0, p1, q1, HS0, rfl, os0, ka⟩
  go_wp2_with fail
  refine (one_num _).mono ?_
  rintro e wb ⟨i0, p2, q2, HI0, rfl, oi0, kb⟩
  have tb : Below v.heap.size v wb := ka.trans (kb.mono ka.size)
  have os1 : Own v.heap.size wb (.slice p1 s0.length q1) s0 := os0.below kb (Nat.le_refl _)
  have oi1 : Own v.heap.size wb (.slice p2 i0.length q2) i0 := oi0.mono ka.size
  have c0 : Hid (can s0 ∧ can i0 ∧ s0.length ≤ 32 ∧ i0.length ≤ 33 ∧ val s0 = 1 ∧ val i0 = 1) := by
    unfold Hid; rw [HS0.out, HI0.out]; exact ⟨can_one, can_one, by simp, by simp, one_val, one_val⟩
  go_wp2
  go_loopg [6, 7] F (fun gk sv iv wr => ∃ (j : Nat) (ss is : List Int) (a : Option Addr) (c : Nat) (a' : Option Addr) (c' : Nat), Hid (gk = F - j) ∧ sv = .slice a ss.length c ∧ iv = .slice a' is.length c' ∧ j ≤ F ∧ can ss ∧ can is ∧ Hid (val is = (j : Int) + 1 ∧ val ss = (binom (M + j) j : Int)) ∧ ss.length ≤ 32 ∧ is.length ≤ 33 ∧ Own v.heap.size wr (.slice a ss.length c) ss ∧ Own v.heap.size wr (.slice a' is.length c') is ∧ Below v.heap.size v wr)
  case atStart => exact ⟨0, s0, i0, p1, q1, p2, q2, rfl, rfl, rfl, Nat.zero_le _, c0.out.1, c0.out.2.1, ⟨by rw [c0.out.2.2.2.2.2]; rfl, by rw [c0.out.2.2.2.2.1, binom_zero]; rfl⟩, c0.out.2.2.1, c0.out.2.2.2.1, os1, oi1, tb⟩
  case round =>
    obtain ⟨j, ss, is, a, c, a', c', hgk, rfl, rfl, hj, cs, ci, HV, ls, li, os, oi, tr⟩ := hrel
    have gr : Below w.heap.size w wr := g.trans (tr.mono g.size)
    go_wp2_with fail
    refine (compare_bl oi.rd (h1.below gr)).mono ?_
    rintro e w1 ⟨rfl, k1⟩
    have t1 : Below v.heap.size v w1 := tr.trans (k1.mono tr.size)
    have g1 : Below w.heap.size w w1 := g.trans (t1.mono g.size)
    rw [HV.out.1, hF.out]
    by_cases hlt : j < F
    · have hc : cmpI ((j : Int) + 1) (F : Int) ≤ 0 := by unfold cmpI; split; omega; split <;> omega
      have os1 := os.below k1 (Nat.le_refl _)
      have oi1 := oi.below k1 (Nat.le_refl _)
      go_wp2_with fail
      refine (sum2 (h2.below g1) oi1.rd g1.size (Nat.le_refl _) (by omega) (by omega)).mono ?_
      rintro e w2 ⟨zs, cz, vz, lz, p3, q3, rfl, oz, k2⟩
      have t2 : Below v.heap.size v w2 := t1.trans (k2.mono t1.size)
      have HZ : Hid (val zs = (M : Int) + ((j : Int) + 1)) := by unfold Hid; rw [vz, hM.out, HV.out.1]
      clear vz
      have os2 := os1.below k2 (Nat.le_refl _)
      have oi2 := oi1.below k2 (Nat.le_refl _)
      go_wp2_with fail
      refine (prod2 os2.rd oz.rd (Nat.le_refl _) (Nat.le_refl _) (by omega) (by omega)).mono ?_
      rintro e w3 ⟨us, cu, vu, lu, p4, q4, rfl, ou, k3⟩
      have t3 : Below v.heap.size v w3 := t2.trans (k3.mono t2.size)
      have HU : Hid (val us = (binom (M + (j + 1)) (j + 1) : Int) * ((j : Int) + 1)) := by
        unfold Hid
        rw [vu, HV.out.2, HZ.out]
        have h5 := binom_step M j
        have h6 : ((binom (M + j) j * (M + (j + 1)) : Nat) : Int) = ((binom (M + (j + 1)) (j + 1) * (j + 1) : Nat) : Int) := by rw [h5]
        rw [Int.natCast_mul, Int.natCast_mul, Int.natCast_add, Int.natCast_add] at h6
        exact h6
      clear vu
      have oi3 := oi2.below k3 (Nat.le_refl _)
      go_wp2_with fail
      refine (divMod_any ou.rd (Nat.le_refl _) oi3.rd (Nat.le_refl _) (by rw [HV.out.1]; omega) (by omega) (by omega)).mono ?_
      rintro e w4 ⟨qs, rs, p5, q5, p6, q6, rfl, oq, or, cq, cr, hv, hl, lq, lr, k4⟩
      have t4 : Below v.heap.size v w4 := t3.trans (k4.mono t3.size)
      have HQ : Hid (val qs = (binom (M + (j + 1)) (j + 1) : Int)) := by
        unfold Hid
        have h5 := div_unique hv (val_bound cr.1).1 hl
        have h6 := div_unique (n := val us) (d := val is) (q := (binom (M + (j + 1)) (j + 1) : Int)) (r := 0) (by rw [HU.out, HV.out.1, Int.add_zero]) (by omega) (by rw [HV.out.1]; omega)
        rw [h5.1, h6.1]
      clear hv hl
      have oq4 : Own v.heap.size w4 (.slice p5 qs.length q5) qs := oq.mono t3.size
      have oi4 := oi3.below k4 (Nat.le_refl _)
      have g4 : Below w.heap.size w w4 := g.trans (t4.mono g.size)
      clear hc cz lz cu lu lq lr cr or oz ou os1 os2 oi1 oi2 oi3 os0 oi0
      by_cases hbig : 32 < qs.length
      · have HB : Great (binom (M + F) F) := by
          constructor
          have h5 : ¬ val qs < pw 32 := fun h => by have := (can_len_pw cq 32).2 h; omega
          have h6 := binom_mono M (show j + 1 ≤ F by omega)
          rw [HQ.out] at h5
          omega
        have R4 := R.below t4
        have q0 := R4.box.c0
        have q1' := R4.box.c1
        have q2' := R4.box.c2
        have p0 := R4.box.f0
        have p1' := R4.box.f1
        have p2' := R4.box.f2
        go_wp2
        have hR3 := R4.box.set (.bool false) (.slice none 0 0) (.slice none 0 0)
        have r0 := hR3.c0
        have r1 := hR3.c1
        have r2 := hR3.c2
        try simp only [Exit.inBlock, Exit.then]
        refine bodyPost_ret (v := .tuple #[.agg #[.bool false, .slice none 0 0, .slice none 0 0], .int .i64 8]) ?_ rfl ?_
        · simp [results, Tryd.results42, go_sem, r0, r1, r2]
        exact ⟨Below.set3 g4 (Nat.le_refl _) _ _ _, Or.inl ⟨HB.is, rfl⟩⟩
      · go_wp2_with fail
        refine (one_num _).mono ?_
        rintro e w5 ⟨ds, p7, q7, HD, rfl, od, k5⟩
        have t5 : Below v.heap.size v w5 := t4.trans (k5.mono t4.size)
        have oi5 := oi4.below k5 (Nat.le_refl _)
        have oq5 := oq4.below k5 (Nat.le_refl _)
        have ld : ds.length ≤ 1 := by rw [HD.out]; exact Nat.le_refl _
        go_wp2_with fail
        refine (sum2 oi5.rd od.rd (Nat.le_refl _) (Nat.le_refl _) (by omega) (by omega)).mono ?_
        rintro e w6 ⟨ts, ct, vt, lt', p8, q8, rfl, ot, k6⟩
        have t6 : Below v.heap.size v w6 := t5.trans (k6.mono t5.size)
        have HT : Hid (val ts = ((j + 1 : Nat) : Int) + 1) := by unfold Hid; rw [vt, HV.out.1, HD.out, one_val]; omega
        clear vt
        have lts : ts.length ≤ 33 := by
          have h5 : (F : Int) < pw 32 := hFb.is
          have h6 := pw_pos 32
          refine (can_len_pw ct (32 + 1)).2 ?_
          rw [HT.out, pw_succ]
          generalize pw 32 = Z at *
          omega
        have oq6 := oq5.below k6 (Nat.le_refl _)
        have ot6 : Own v.heap.size w6 (.slice p8 ts.length q8) ts := ot.mono t5.size
        go_wp2
        go_roundg (F - (j + 1))
        case rel => exact ⟨j + 1, qs, ts, p5, q5, p8, q8, rfl, rfl, rfl, by omega, cq, ct, ⟨HT.out, HQ.out⟩, by omega, lts, oq6, ot6, t6⟩
        case measure => rw [hgk.out]; omega
    · have hc : cmpI ((j : Int) + 1) (F : Int) = 1 := cmpI_gt (by omega)
      obtain rfl : j = F := by omega
      have R1 := R.below t1
      rw [hc]
      clear hc
      have os1 := os.below k1 (Nat.le_refl _)
      have HN : Fits (binom (M + j) j) := by constructor; rw [← HV.out.2]; exact (can_len_pw cs 32).1 ls
      go_wp2_with fail
      refine (one_num _).mono ?_
      rintro e w2 ⟨ds, p7, q7, HD, rfl, od, k2⟩
      have t2 : Below v.heap.size v w2 := t1.trans (k2.mono t1.size)
      have ld : ds.length ≤ 32 := by rw [HD.out]; simp
      have os2 := os1.below k2 (Nat.le_refl _)
      have od2 : Own v.heap.size w2 (.slice p7 ds.length q7) ds := od.mono t1.size
      go_wp2_with fail
      refine (limited_ok false a p7 ss.length c ds.length q7 _ ls ld).mono ?_
      rintro e w3 ⟨rfl, k3⟩
      have t3 : Below v.heap.size v w3 := t2.trans (k3.mono t2.size)
      have hbb : (false && decide (0 < ss.length)) = false := rfl
      rw [hbb]
      clear hbb
      have os3 := os2.below k3 (Nat.le_refl _)
      have od3 := od2.below k3 (Nat.le_refl _)
      have R3 := R.below t3
      have q0 := R3.box.c0
      have q1' := R3.box.c1
      have q2' := R3.box.c2
      have p0 := R3.box.f0
      have p1' := R3.box.f1
      have p2' := R3.box.f2
      go_wp2
      have hR3 := R3.box.set (.bool false) (.slice a ss.length c) (.slice p7 ds.length q7)
      have r0 := hR3.c0
      have r1 := hR3.c1
      have r2 := hR3.c2
      try simp only [Exit.inBlock, Exit.then]
      refine bodyPost_ret (v := .tuple #[.agg #[.bool false, .slice a ss.length c, .slice p7 ds.length q7], .int .i64 0]) ?_ rfl ?_
      · simp [results, Tryd.results42, go_sem, r0, r1, r2]
      exact ⟨Below.set3 (g.trans (t3.mono g.size)) (Nat.le_refl _) _ _ _, Or.inr ⟨HN.is, ss, ds, a, c, p7, q7, cs, HV.out.2, HD, rfl, (Own.set3 os3 R.lt _ _ _).mono g.size, (Own.set3 od3 R.lt _ _ _).mono g.size⟩⟩
end Go.Proofs.YtekmalpmcbjpeaaDoor

/- rat.isCount. -/
namespace Go.Proofs.YtekmalpmcbjpeaaDoor
set_option linter.unusedVariables false
set_option linter.unusedSimpArgs false
open Go.RowKit

/-- Is a right number whole and not below 0? -/
def IsCount (b : Bool) (ds : List Int) : Prop := ds = [1] ∧ b = false

set_option maxRecDepth 100000 in
set_option maxHeartbeats 1600000 in
theorem isCount_any {w : World} {b : Bool} {a1 a2 : Option Addr} {c1 c2 : Nat} {ns ds : List Int} (h1 : Rd w.heap.size w (.slice a1 ns.length c1) ns) (h2 : Rd w.heap.size w (.slice a2 ds.length c2) ds) :
    Calls Tryd.prog 39 #[.agg #[.bool b, .slice a1 ns.length c1, .slice a2 ds.length c2]] w fun e w' => TellsP (IsCount b ds) e ∧ Below w.heap.size w w' := by
  have X := nvar_new (b := b) h1 h2
  have g := below_alloc w (.cells #[.bool b, .slice a1 ns.length c1, .slice a2 ds.length c2] 24)
  obtain ⟨x0, x1, x2⟩ := X.cells
  go_enter Tryd.func39, Tryd.ntmps39
  go_wp2_with fail
  generalize hA : w.alloc (.cells #[.bool b, .slice a1 ns.length c1, .slice a2 ds.length c2] 24) = v at *
  clear hA
  refine (isOne_any X.rd).mono ?_
  rintro e w' ⟨rfl, rfl⟩
  by_cases hone : ds = [1]
  · have HO : Hid (ds = [1]) := hone
    rw [decide_eq_true hone]
    clear hone
    cases b with
    | false =>
      go_wp2
      go_ret
      exact ⟨TellsP.yes ⟨HO.out, rfl⟩, g⟩
    | true =>
      go_wp2
      go_ret
      exact ⟨TellsP.no (fun h => by cases h.2), g⟩
  · have HO : Hid (¬ ds = [1]) := hone
    rw [decide_eq_false hone]
    clear hone
    go_wp2
    go_ret
    exact ⟨TellsP.no (fun h => HO.out h.1), g⟩
end Go.Proofs.YtekmalpmcbjpeaaDoor

/- rat.Binomial of two right whole numbers that are not below 0. -/
namespace Go.Proofs.YtekmalpmcbjpeaaDoor
set_option linter.unusedVariables false
set_option linter.unusedSimpArgs false
open Go.RowKit

section
variable {w : World} {a1 a2 a3 a4 : Option Addr} {c1 c2 c3 c4 : Nat} {xn xd yn yd : List Int}
set_option maxRecDepth 100000 in
set_option maxHeartbeats 8000000 in
theorem binomial_any (h1 : Rd w.heap.size w (.slice a1 xn.length c1) xn) (h2 : Rd w.heap.size w (.slice a2 xd.length c2) xd) (h3 : Rd w.heap.size w (.slice a3 yn.length c3) yn) (h4 : Rd w.heap.size w (.slice a4 yd.length c4) yd) (PX : Hid (RightP false xn xd ∧ xd = [1])) (PY : Hid (RightP false yn yd ∧ yd = [1])) (k n : Nat) (hk : Hid (val xn = (k : Int))) (hn : Hid (val yn = (n : Int))) :
    Calls Tryd.prog 20 #[.agg #[.bool false, .slice a1 xn.length c1, .slice a2 xd.length c2], .agg #[.bool false, .slice a3 yn.length c3, .slice a4 yd.length c4]] w fun e w' => Chooses w (binom n k) e w' := by
  have I := in2_new w (.bool false) (.slice a1 xn.length c1) (.slice a2 xd.length c2) (.bool false) (.slice a3 yn.length c3) (.slice a4 yd.length c4)
  have l1 := PX.out.1.1
  have l3 := PY.out.1.1
  go_enter Tryd.func20, Tryd.ntmps20
  go_wp2_with fail
  generalize hA : ((((w.alloc (.cells #[.bool false, .slice a1 xn.length c1, .slice a2 xd.length c2] 24)).alloc (.cells #[.bool false, .slice a3 yn.length c3, .slice a4 yd.length c4] 24)).alloc (.cells #[.bool false, .slice none 0 0, .slice none 0 0] 24)).alloc (.cells #[.bool false, .slice a1 xn.length c1, .slice a2 xd.length c2, .bool false, .slice a3 yn.length c3, .slice a4 yd.length c4] 24)) = v0 at *
  clear hA
  obtain ⟨hX, hY, hR, hT, g, s0⟩ := I
  have X : NVar v0 w.heap.size false a1 xn c1 a2 xd c2 := ⟨by omega, hX, (h1.below g).mono g.size, (h2.below g).mono g.size⟩
  have Y : NVar v0 (w.heap.size + 1) false a3 yn c3 a4 yd c4 := ⟨by omega, hY, (h3.below g).mono g.size, (h4.below g).mono g.size⟩
  have R : RVar v0 (w.heap.size + 1 + 1) := ⟨by omega, hR⟩
  have s1 : w.heap.size ≤ w.heap.size + 1 + 1 := by omega
  clear hX hY hR h1 h2 h3 h4 s0
  refine (allRight2 hT X.rn X.rd Y.rn Y.rd (Nat.le_refl _)).mono ?_
  rintro e w0 ⟨⟨r, rfl, hr⟩, k0⟩
  replace X := X.below k0
  replace Y := Y.below k0
  replace R := R.below k0
  replace g := g.trans (k0.mono g.size)
  obtain rfl : r = true := hr.2 ⟨PX.out.1, PY.out.1⟩
  clear hr hT k0
  obtain ⟨X0, X1, X2⟩ := X.cells
  obtain ⟨Y0, Y1, Y2⟩ := Y.cells
  go_wp2_with fail
  clear X0 X1 X2 Y0 Y1 Y2
  refine (isCount_any X.rn X.rd).mono ?_
  rintro e w1 ⟨⟨r, rfl, hr⟩, k1⟩
  replace X := X.below k1
  replace Y := Y.below k1
  replace R := R.below k1
  replace g := g.trans (k1.mono g.size)
  obtain rfl : r = true := hr.2 ⟨PX.out.2, rfl⟩
  clear hr k1
  obtain ⟨X0, X1, X2⟩ := X.cells
  obtain ⟨Y0, Y1, Y2⟩ := Y.cells
  go_wp2_with fail
  clear X0 X1 X2 Y0 Y1 Y2
  refine (isCount_any Y.rn Y.rd).mono ?_
  rintro e w2 ⟨⟨r, rfl, hr⟩, k2⟩
  replace X := X.below k2
  replace Y := Y.below k2
  replace R := R.below k2
  replace g := g.trans (k2.mono g.size)
  obtain rfl : r = true := hr.2 ⟨PY.out.2, rfl⟩
  clear hr k2
  obtain ⟨X0, X1, X2⟩ := X.cells
  obtain ⟨Y0, Y1, Y2⟩ := Y.cells
  go_wp2_with fail
  clear X0 X1 X2 Y0 Y1 Y2
  refine (minus_any Y.rn (Nat.le_refl _) X.rn (Nat.le_refl _) (by omega)).mono ?_
  rintro e w3 ⟨⟨k3, hmin⟩, hmin0⟩
  replace X := X.below k3
  replace Y := Y.below k3
  replace R := R.below k3
  replace g := g.trans (k3.mono g.size)
  by_cases hlt : n < k
  · rw [if_pos (by rw [hk.out, hn.out]; omega)] at hmin
    subst hmin
    clear hmin0
    have HB : Hid (binom n k = 0) := binom_lt hlt
    have gk := g
    have Rk := R
    go_wp2_with fail
    refine (ofInt_any 0 (by omega) (by omega) _).mono ?_
    rintro e w4 ⟨k4, b1, ns, ds, x1, y1, x2, y2, HW, rfl, on, od⟩
    replace X := X.below k4
    replace Y := Y.below k4
    replace R := R.below k4
    replace g := g.trans (k4.mono g.size)
    obtain rfl : b1 = false := HW.out.1
    have HZ : Hid (can ns ∧ val ns = 0 ∧ ds = [1]) := ⟨HW.out.2.1, HW.out.2.2.1, HW.out.2.2.2.2⟩
    have HF : Fits 0 := ⟨by have := pw_pos 32; exact this⟩
    have q0 := R.box.c0
    have q1 := R.box.c1
    have q2 := R.box.c2
    have p0 := R.box.f0
    have p1 := R.box.f1
    have p2 := R.box.f2
    go_wp2
    have hR3 := R.box.set (.bool false) (.slice x1 ns.length y1) (.slice x2 ds.length y2)
    have r0 := hR3.c0
    have r1 := hR3.c1
    have r2 := hR3.c2
    refine bodyPost_ret (v := .tuple #[.agg #[.bool false, .slice x1 ns.length y1, .slice x2 ds.length y2], .int .i64 0]) (by simp [results, Tryd.results20, go_sem, r0, r1, r2]) rfl ?_
    rw [HB.out]
    exact ⟨Below.set3 g s1 _ _ _, Or.inr ⟨HF.is, ns, ds, x1, y1, x2, y2, HZ.out.1, HZ.out.2.1, HZ.out.2.2, rfl, (Own.set3 on Rk.lt _ _ _).mono gk.size, (Own.set3 od Rk.lt _ _ _).mono gk.size⟩⟩
  · clear hmin
    obtain ⟨zs, z1, z2, lz, cz, vz, rfl, oz⟩ := hmin0 (by rw [hk.out, hn.out]; omega)
    clear hmin0
    have HZ : Hid (val zs = ((n - k : Nat) : Int)) := by unfold Hid; rw [vz, hk.out, hn.out]; omega
    clear vz
    obtain ⟨X0, X1, X2⟩ := X.cells
    go_wp2_with fail
    clear X0 X1 X2
    refine (compare_bl X.rn oz.rd).mono ?_
    rintro e w4 ⟨rfl, k4⟩
    have oz4 := oz.below k4 (Nat.le_refl _)
    rw [hk.out, HZ.out]
    replace X := X.below k4
    replace Y := Y.below k4
    replace R := R.below k4
    replace g := g.trans (k4.mono g.size)
    have gk := g
    have Rk := R
    by_cases hlt2 : k < n - k
    · have hc : cmpI ((k : Nat) : Int) ((n - k : Nat) : Int) = -1 := cmpI_lt (by omega)
      rw [hc]
      clear hc
      have HE : Hid (binom (n - k + k) k = binom n k) := by unfold Hid; congr 1; omega
      obtain ⟨X0, X1, X2⟩ := X.cells
      go_wp2_with fail
      clear X0 X1 X2
      refine (choose_any X.rn oz4.rd (by omega) (by omega) k (n - k) hk HZ).mono ?_
      intro e w5 hch
      rw [HE.out] at hch
      obtain ⟨k5, ⟨hb, he⟩ | ⟨hb, us, ds, u1, u2, u3, u4, cu, vu, HD, rfl, ou, od⟩⟩ := hch
      · replace X := X.below k5
        replace Y := Y.below k5
        replace R := R.below k5
        replace g := g.trans (k5.mono g.size)
        unfold errOf at he
        subst he
        have HG : Great (binom n k) := ⟨hb⟩
        clear hb
        have q0 := R.box.c0
        have q1 := R.box.c1
        have q2 := R.box.c2
        have p0 := R.box.f0
        have p1 := R.box.f1
        have p2 := R.box.f2
        go_wp2
        have hR3 := R.box.set (.bool false) (.slice none 0 0) (.slice none 0 0)
        have r0 := hR3.c0
        have r1 := hR3.c1
        have r2 := hR3.c2
        refine bodyPost_ret (v := .tuple #[.agg #[.bool false, .slice none 0 0, .slice none 0 0], .int .i64 8]) (by simp [results, Tryd.results20, go_sem, r0, r1, r2]) rfl ?_
        exact ⟨Below.set3 g s1 _ _ _, Or.inl ⟨HG.is, rfl⟩⟩
      · replace X := X.below k5
        replace Y := Y.below k5
        replace R := R.below k5
        replace g := g.trans (k5.mono g.size)
        have HG : Fits (binom n k) := ⟨hb⟩
        have HV : Hid (val us = (binom n k : Int)) := vu
        clear hb vu
        have q0 := R.box.c0
        have q1 := R.box.c1
        have q2 := R.box.c2
        have p0 := R.box.f0
        have p1 := R.box.f1
        have p2 := R.box.f2
        go_wp2
        have hR3 := R.box.set (.bool false) (.slice u1 us.length u2) (.slice u3 ds.length u4)
        have r0 := hR3.c0
        have r1 := hR3.c1
        have r2 := hR3.c2
        refine bodyPost_ret (v := .tuple #[.agg #[.bool false, .slice u1 us.length u2, .slice u3 ds.length u4], .int .i64 0]) (by simp [results, Tryd.results20, go_sem, r0, r1, r2]) rfl ?_
        exact ⟨Below.set3 g s1 _ _ _, Or.inr ⟨HG.is, us, ds, u1, u2, u3, u4, cu, HV.out, HD, rfl, (Own.set3 ou Rk.lt _ _ _).mono gk.size, (Own.set3 od Rk.lt _ _ _).mono gk.size⟩⟩
    · have hc : cmpI ((k : Nat) : Int) ((n - k : Nat) : Int) = 0 ∨ cmpI ((k : Nat) : Int) ((n - k : Nat) : Int) = 1 := by
        unfold cmpI
        split
        · omega
        · split
          · exact Or.inl rfl
          · exact Or.inr rfl
      have hc2 : ¬ cmpI ((k : Nat) : Int) ((n - k : Nat) : Int) < 0 := by omega
      clear hc
      generalize cmpI ((k : Nat) : Int) ((n - k : Nat) : Int) = cc at *
      have HE : Hid (binom (k + (n - k)) (n - k) = binom n k) := by unfold Hid; rw [show k + (n - k) = n by omega]; exact binom_sym n (n - k) k (by omega)
      obtain ⟨X0, X1, X2⟩ := X.cells
      go_wp2_with fail
      clear X0 X1 X2
      refine (choose_any oz4.rd X.rn (by omega) (by omega) (n - k) k HZ hk).mono ?_
      intro e w5 hch
      rw [HE.out] at hch
      obtain ⟨k5, ⟨hb, he⟩ | ⟨hb, us, ds, u1, u2, u3, u4, cu, vu, HD, rfl, ou, od⟩⟩ := hch
      · replace X := X.below k5
        replace Y := Y.below k5
        replace R := R.below k5
        replace g := g.trans (k5.mono g.size)
        unfold errOf at he
        subst he
        have HG : Great (binom n k) := ⟨hb⟩
        clear hb
        have q0 := R.box.c0
        have q1 := R.box.c1
        have q2 := R.box.c2
        have p0 := R.box.f0
        have p1 := R.box.f1
        have p2 := R.box.f2
        go_wp2
        have hR3 := R.box.set (.bool false) (.slice none 0 0) (.slice none 0 0)
        have r0 := hR3.c0
        have r1 := hR3.c1
        have r2 := hR3.c2
        refine bodyPost_ret (v := .tuple #[.agg #[.bool false, .slice none 0 0, .slice none 0 0], .int .i64 8]) (by simp [results, Tryd.results20, go_sem, r0, r1, r2]) rfl ?_
        exact ⟨Below.set3 g s1 _ _ _, Or.inl ⟨HG.is, rfl⟩⟩
      · replace X := X.below k5
        replace Y := Y.below k5
        replace R := R.below k5
        replace g := g.trans (k5.mono g.size)
        have HG : Fits (binom n k) := ⟨hb⟩
        have HV : Hid (val us = (binom n k : Int)) := vu
        clear hb vu
        have q0 := R.box.c0
        have q1 := R.box.c1
        have q2 := R.box.c2
        have p0 := R.box.f0
        have p1 := R.box.f1
        have p2 := R.box.f2
        go_wp2
        have hR3 := R.box.set (.bool false) (.slice u1 us.length u2) (.slice u3 ds.length u4)
        have r0 := hR3.c0
        have r1 := hR3.c1
        have r2 := hR3.c2
        refine bodyPost_ret (v := .tuple #[.agg #[.bool false, .slice u1 us.length u2, .slice u3 ds.length u4], .int .i64 0]) (by simp [results, Tryd.results20, go_sem, r0, r1, r2]) rfl ?_
        exact ⟨Below.set3 g s1 _ _ _, Or.inr ⟨HG.is, us, ds, u1, u2, u3, u4, cu, HV.out, HD, rfl, (Own.set3 ou Rk.lt _ _ _).mono gk.size, (Own.set3 od Rk.lt _ _ _).mono gk.size⟩⟩
end
end Go.Proofs.YtekmalpmcbjpeaaDoor

/- The walk over RatPascal: two neighbours of a row of Pascal's triangle make one of the next. -/
namespace Go.Proofs.YtekmalpmcbjpeaaDoor
set_option linter.unusedVariables false
set_option linter.unusedSimpArgs false
open Go.RowKit

/-- A whole number that is not below 0, as a number. -/
def CountIs (N : Nat) (zs ds : List Int) : Prop := RightP false zs ds ∧ ds = [(1 : Int)] ∧ val zs = (N : Int)

theorem fits120 {n k : Nat} (hn : n ≤ 120) : (binom n k : Int) < pw 32 := by
  have h1 := binom_le n k
  have h2 : 2 ^ n ≤ 2 ^ 120 := Nat.pow_le_pow_right (by omega) hn
  have h3 : ((2 ^ 120 : Nat) : Int) < pw 32 := by decide +kernel
  omega

theorem binomial_whole {w : World} {bx cy : Bool} {a1 a2 a3 a4 : Option Addr} {c1 c2 c3 c4 : Nat} {xn xd yn yd : List Int} {x y : Int} (h1 : Rd w.heap.size w (.slice a1 xn.length c1) xn) (h2 : Rd w.heap.size w (.slice a2 xd.length c2) xd) (h3 : Rd w.heap.size w (.slice a3 yn.length c3) yn) (h4 : Rd w.heap.size w (.slice a4 yd.length c4) yd) (PX : Hid (WholeIs x bx xn xd)) (PY : Hid (WholeIs y cy yn yd)) (x0 : 0 ≤ x) (y0 : 0 ≤ y) (y1 : y ≤ 120) :
    Calls Tryd.prog 20 #[.agg #[.bool bx, .slice a1 xn.length c1, .slice a2 xd.length c2], .agg #[.bool cy, .slice a3 yn.length c3, .slice a4 yd.length c4]] w fun e w' => Below w.heap.size w w' ∧ ∃ zs ds z1 z2 z3 z4, Hid (CountIs (binom y.toNat x.toNat) zs ds) ∧ e = .returned (.tuple #[.agg #[.bool false, .slice z1 zs.length z2, .slice z3 ds.length z4], .int .i64 0]) ∧ Own w.heap.size w' (.slice z1 zs.length z2) zs ∧ Own w.heap.size w' (.slice z3 ds.length z4) ds := by
  have rx := PX.out.right
  have ry := PY.out.right
  obtain ⟨hb, _, vx, _, dx⟩ := PX.out
  obtain ⟨hc, _, vy, _, dy⟩ := PY.out
  rw [decide_eq_false (by omega)] at hb hc
  rw [if_neg (by omega)] at vx vy
  subst hb hc
  refine (binomial_any h1 h2 h3 h4 ⟨rx, dx⟩ ⟨ry, dy⟩ x.toNat y.toNat (show val xn = _ by omega) (show val yn = _ by omega)).mono ?_
  rintro e w' ⟨hb, ⟨hg, _⟩ | ⟨hf, zs, ds, z1, z2, z3, z4, cz, vz, hd, he, on, od⟩⟩
  · have := fits120 (n := y.toNat) (k := x.toNat) (by omega)
    omega
  · refine ⟨hb, zs, ds, z1, z2, z3, z4, ⟨?_, hd.out, vz⟩, he, on, od⟩
    refine ⟨?_, ?_, cz, ?_, ?_, ?_, ?_⟩
    · rw [can_len_pw cz, vz]; exact hf
    · rw [hd.out]; simp
    · rw [hd.out]; exact can_one
    · rintro ⟨h, _⟩; cases h
    · rw [hd.out]; simp
    · rw [hd.out, one_val]; exact gI_one_right _

theorem count_sum {A B C : Nat} {us ds bs es cs fs : List Int} (ha : CountIs A us ds) (hb : CountIs B bs es) (hc : CountIs C cs fs) (h : C = A + B) : sg false (val cs) * (val ds * val es) = (sg false (val us) * val es + sg false (val bs) * val ds) * val fs := by
  obtain ⟨_, rfl, va⟩ := ha
  obtain ⟨_, rfl, vb⟩ := hb
  obtain ⟨_, rfl, vc⟩ := hc
  rw [sg_false, sg_false, sg_false, va, vb, vc, one_val, h]
  omega

set_option maxRecDepth 100000 in
set_option maxHeartbeats 32000000 in
theorem ratPascal_walk {w : World} {k n : Int} (k0 : 0 ≤ k ∧ k < 256) (n0 : 0 ≤ n ∧ n < 256) (htab : Lib.TabIs Tryd.prog w "internal/strconv.uint64pow10" .u64 Lib.pow10Tab) :
    Calls Tryd.prog 7 #[.int .u8 k, .int .u8 n] w fun e w' => e = .returned (.bool true) ∧ Below w.heap.size w w' := by
  have hX : 0 ≤ k % 120 ∧ k % 120 < 120 := by omega
  have hY : 0 ≤ n % 120 ∧ n % 120 < 120 := by omega
  have wk : IntKind.i64.wrap k = k := by rw [IntKind.wrap_i64]; omega
  have wn : IntKind.i64.wrap n = n := by rw [IntKind.wrap_i64]; omega
  have wk1 : IntKind.i64.wrap (k % 120 + 1) = k % 120 + 1 := by rw [IntKind.wrap_i64]; omega
  have wn1 : IntKind.i64.wrap (n % 120 + 1) = n % 120 + 1 := by rw [IntKind.wrap_i64]; omega
  have g := Below.refl w.heap.size w
  go_enter Tryd.func7, Tryd.ntmps7
  go_wp2_with fail
  refine (ofInt_any (k % 120) (by omega) (by omega) _).mono ?_
  rintro e w1 ⟨k2, ba, xna, xda, x1a, x2a, x3a, x4a, HXa, rfl, ona, oda⟩
  replace g := g.trans (k2.mono g.size)
  go_wp2_with fail
  refine (ofInt_any (n % 120) (by omega) (by omega) _).mono ?_
  rintro e w3 ⟨k4, ca, yna, yda, y1a, y2a, y3a, y4a, HYa, rfl, oma, oea⟩
  replace g := g.trans (k4.mono g.size)
  have X1a := (ona.rd.below k4).mono k4.size
  have X2a := (oda.rd.below k4).mono k4.size
  go_wp2_with fail
  refine (binomial_whole X1a X2a oma.rd oea.rd HXa HYa (by omega) (by omega) (by omega)).mono ?_
  rintro e w5 ⟨k6, zsa, dsa, z1a, z2a, z3a, z4a, HBa, rfl, opa, oqa⟩
  replace g := g.trans (k6.mono g.size)
  clear X1a X2a ona oda oma oea HXa HYa k2 k4 k6
  have ka7 := below_alloc w5 (.cells #[.bool false, .slice z1a zsa.length z2a, .slice z3a dsa.length z4a] 24)
  have P := nvar_new (b := false) opa.rd oqa.rd
  replace g := g.trans (ka7.mono g.size)
  clear ka7
  clear opa oqa
  go_wp2_with fail
  generalize hA : (w5.alloc (.cells #[.bool false, .slice z1a zsa.length z2a, .slice z3a dsa.length z4a] 24)) = v8 at *
  clear hA
  refine (ofInt_any (k % 120 + 1) (by omega) (by omega) _).mono ?_
  rintro e w9 ⟨k10, bb, xnb, xdb, x1b, x2b, x3b, x4b, HXb, rfl, onb, odb⟩
  replace P := P.below k10
  replace g := g.trans (k10.mono g.size)
  go_wp2_with fail
  refine (ofInt_any (n % 120) (by omega) (by omega) _).mono ?_
  rintro e w11 ⟨k12, cb, ynb, ydb, y1b, y2b, y3b, y4b, HYb, rfl, omb, oeb⟩
  replace P := P.below k12
  replace g := g.trans (k12.mono g.size)
  have X1b := (onb.rd.below k12).mono k12.size
  have X2b := (odb.rd.below k12).mono k12.size
  go_wp2_with fail
  refine (binomial_whole X1b X2b omb.rd oeb.rd HXb HYb (by omega) (by omega) (by omega)).mono ?_
  rintro e w13 ⟨k14, zsb, dsb, z1b, z2b, z3b, z4b, HBb, rfl, opb, oqb⟩
  replace P := P.below k14
  replace g := g.trans (k14.mono g.size)
  clear X1b X2b onb odb omb oeb HXb HYb k10 k12 k14
  have ka15 := below_alloc w13 (.cells #[.bool false, .slice z1b zsb.length z2b, .slice z3b dsb.length z4b] 24)
  have Q := nvar_new (b := false) opb.rd oqb.rd
  replace P := P.below ka15
  replace g := g.trans (ka15.mono g.size)
  clear ka15
  clear opb oqb
  go_wp2_with fail
  generalize hA : (w13.alloc (.cells #[.bool false, .slice z1b zsb.length z2b, .slice z3b dsb.length z4b] 24)) = v16 at *
  clear hA
  refine (ofInt_any (k % 120 + 1) (by omega) (by omega) _).mono ?_
  rintro e w17 ⟨k18, bc, xnc, xdc, x1c, x2c, x3c, x4c, HXc, rfl, onc, odc⟩
  replace P := P.below k18
  replace Q := Q.below k18
  replace g := g.trans (k18.mono g.size)
  go_wp2_with fail
  refine (ofInt_any (n % 120 + 1) (by omega) (by omega) _).mono ?_
  rintro e w19 ⟨k20, cc, ync, ydc, y1c, y2c, y3c, y4c, HYc, rfl, omc, oec⟩
  replace P := P.below k20
  replace Q := Q.below k20
  replace g := g.trans (k20.mono g.size)
  have X1c := (onc.rd.below k20).mono k20.size
  have X2c := (odc.rd.below k20).mono k20.size
  go_wp2_with fail
  refine (binomial_whole X1c X2c omc.rd oec.rd HXc HYc (by omega) (by omega) (by omega)).mono ?_
  rintro e w21 ⟨k22, zsc, dsc, z1c, z2c, z3c, z4c, HBc, rfl, opc, oqc⟩
  replace P := P.below k22
  replace Q := Q.below k22
  replace g := g.trans (k22.mono g.size)
  clear X1c X2c onc odc omc oec HXc HYc k18 k20 k22
  have ka23 := below_alloc w21 (.cells #[.bool false, .slice z1c zsc.length z2c, .slice z3c dsc.length z4c] 24)
  have C := nvar_new (b := false) opc.rd oqc.rd
  replace P := P.below ka23
  replace Q := Q.below ka23
  replace g := g.trans (ka23.mono g.size)
  clear ka23
  clear opc oqc
  have HS : Hid (binom (n % 120 + 1).toNat (k % 120 + 1).toNat = binom (n % 120).toNat (k % 120).toNat + binom (n % 120).toNat (k % 120 + 1).toNat) := by
    have e1 : (n % 120 + 1).toNat = (n % 120).toNat + 1 := by omega
    have e2 : (k % 120 + 1).toNat = (k % 120).toNat + 1 := by omega
    unfold Hid
    rw [e1, e2]
    exact binom_succ _ _
  obtain ⟨Q0, Q1, Q2⟩ := Q.cells
  obtain ⟨P0, P1, P2⟩ := P.cells
  obtain ⟨TL, _, _, kb24⟩ := nvar_two P Q
  replace P := P.below kb24
  replace Q := Q.below kb24
  replace C := C.below kb24
  replace g := g.trans (kb24.mono g.size)
  clear kb24
  go_wp2_with fail
  clear P0 P1 P2 Q0 Q1 Q2
  rw [World.size_alloc] at TL
  generalize hA : ((w21.alloc (.cells #[.bool false, .slice z1c zsc.length z2c, .slice z3c dsc.length z4c] 24)).alloc (.cells #[.bool false, .slice z1a zsa.length z2a, .slice z3a dsa.length z4a, .bool false, .slice z1b zsb.length z2b, .slice z3b dsb.length z4b] 24)) = v25 at *
  clear hA
  refine (add2 TL P.rn P.rd Q.rn Q.rd (Nat.le_refl _)).mono ?_
  intro e w26 hm
  obtain ⟨k27, r1, r2, r3, r4, rfl, on, od⟩ := gives_is hm ⟨HBa.out.1, HBb.out.1⟩ (Int.mul_pos (right_pos HBa.out.1).1 (right_pos HBb.out.1).1) HBc.out.1 (count_sum HBa.out HBb.out HBc.out HS.out)
  clear hm TL
  replace P := P.below k27
  replace Q := Q.below k27
  replace C := C.below k27
  replace g := g.trans (k27.mono g.size)
  have ka28 := below_alloc w26 (.cells #[.bool false, .slice r1 zsc.length r2, .slice r3 dsc.length r4] 24)
  have R := nvar_new (b := false) on.rd od.rd
  replace P := P.below ka28
  replace Q := Q.below ka28
  replace C := C.below ka28
  replace g := g.trans (ka28.mono g.size)
  clear ka28
  go_wp2_with fail
  generalize hA : (w26.alloc (.cells #[.bool false, .slice r1 zsc.length r2, .slice r3 dsc.length r4] 24)) = v29 at *
  clear hA
  refine (live_rat _ (tabIs_below htab g)).mono ?_
  rintro e w30 ⟨rfl, k31⟩
  replace P := P.below k31
  replace Q := Q.below k31
  replace C := C.below k31
  replace R := R.below k31
  replace g := g.trans (k31.mono g.size)
  obtain ⟨R0, R1, R2⟩ := R.cells
  obtain ⟨C0, C1, C2⟩ := C.cells
  go_wp2_with fail
  clear C0 C1 C2 R0 R1 R2
  refine (same_rat R.rn R.rd C.rn C.rd).mono ?_
  rintro e w32 ⟨rfl, k33⟩
  go_wp2
  go_ret
  exact ⟨rfl, g.trans (k33.mono g.size)⟩
end Go.Proofs.YtekmalpmcbjpeaaDoor
