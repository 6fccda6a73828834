/- Two numbers come in, a number goes out: the variables. rat.Sub, rat.Sign. -/
import Derived.Test.YtekmalpmcbjpeaaDoorJ4
import Derived.Test.YtekmalpmcbjpeaaDoorJ5
import Derived.Test.YtekmalpmcbjpeaaDoorJ2
import Derived.Test.YtekmalpmcbjpeaaDoorJ3
namespace Go.Proofs.YtekmalpmcbjpeaaDoor
set_option linter.unusedVariables false
set_option linter.unusedSimpArgs false
open Go.RowKit

/-- What lies in memory where two numbers have come in, a result's variable is laid, and both were laid into a list. -/
structure In2 (w W : World) (x0 x1 x2 y0 y1 y2 : Value) : Prop where
  X : Box3 W w.heap.size 24 x0 x1 x2
  Y : Box3 W (w.heap.size + 1) 24 y0 y1 y2
  R : Box3 W (w.heap.size + 1 + 1) 24 (.bool false) (.slice none 0 0) (.slice none 0 0)
  T : Two W (w.heap.size + 1 + 1 + 1) x0 x1 x2 y0 y1 y2
  b : Below w.heap.size w W
  s : w.heap.size + 1 + 1 + 1 < W.heap.size
theorem in2_new (w : World) (x0 x1 x2 y0 y1 y2 : Value) : In2 w ((((w.alloc (.cells #[x0, x1, x2] 24)).alloc (.cells #[y0, y1, y2] 24)).alloc (.cells #[.bool false, .slice none 0 0, .slice none 0 0] 24)).alloc (.cells #[x0, x1, x2, y0, y1, y2] 24)) x0 x1 x2 y0 y1 y2 where
  X := (((box3_new w _ _ _ _).below (below_alloc _ _) (by simp)).below (below_alloc _ _) (by simp <;> omega)).below (below_alloc _ _) (by simp <;> omega)
  Y := by
    have h5 := ((box3_new (w.alloc (.cells #[x0, x1, x2] 24)) y0 y1 y2 24).below (below_alloc _ (.cells #[.bool false, .slice none 0 0, .slice none 0 0] 24)) (by simp)).below (below_alloc _ (.cells #[x0, x1, x2, y0, y1, y2] 24)) (by simp <;> omega)
    simpa using h5
  R := by
    have h5 := (box3_new ((w.alloc (.cells #[x0, x1, x2] 24)).alloc (.cells #[y0, y1, y2] 24)) (.bool false) (.slice none 0 0) (.slice none 0 0) 24).below (below_alloc _ (.cells #[x0, x1, x2, y0, y1, y2] 24)) (by simp)
    simpa using h5
  T := by
    have h5 := two_new (((w.alloc (.cells #[x0, x1, x2] 24)).alloc (.cells #[y0, y1, y2] 24)).alloc (.cells #[.bool false, .slice none 0 0, .slice none 0 0] 24)) x0 x1 x2 y0 y1 y2 24
    simp only [World.size_alloc] at h5
    exact h5
  b := (((below_alloc w _).alloc (by simp) _).alloc (by simp <;> omega) _).alloc (by simp <;> omega) _
  s := by simp

/-- An answer with an error. -/
theorem gives_err {w w2 : World} {P : Prop} {N D : Int} (hP : ¬ P) (hb : Below w.heap.size w w2) : Gives w P N D (.returned (.tuple #[.agg #[.bool false, .slice none 0 0, .slice none 0 0], .int .i64 22])) w2 :=
  ⟨hb, false, none, 0, 0, none, 0, 0, 22, rfl, Or.inl ⟨hP, rfl, rfl, rfl, rfl, rfl, rfl, rfl, rfl⟩⟩
/-- What was made is what is given. -/
theorem RMakes.gives {w w' : World} {P : Prop} {N D : Int} {e : Ending} (h : RMakes w N D e w') (hP : P) : Gives w P N D e w' := by
  obtain ⟨hb, b, x1, n, y1, x2, m, y2, err, rfl, hf⟩ := h.form
  refine ⟨hb, b, x1, n, y1, x2, m, y2, err, rfl, ?_⟩
  rcases hf.out with h | h
  · exact Or.inr (Or.inl ⟨hP, h⟩)
  · exact Or.inr (Or.inr ⟨hP, h⟩)

theorem Box3.set0 {w : World} {B ty : Nat} {x y z : Value} (h : Box3 w B ty x y z) (v : Value) : Box3 (w.setCell ⟨B, 0, none⟩ v) B ty v y z := by
  unfold Box3 at h ⊢; simp [World.setCell, Array.getElem?_modify, h]
theorem Box3.apart {w : World} {B ty : Nat} {x y z : Value} (h : Box3 w B ty x y z) {p : Addr} (hp : p.block ≠ B) (v : Value) : Box3 (w.setCell p v) B ty x y z := by
  unfold Box3 at h ⊢
  have : ¬ p.block = B := hp
  simp [World.setCell, Array.getElem?_modify, h, this]

section
variable {B : Nat} {w : World} {bx cy : Bool} {a1 a2 a3 a4 : Option Addr} {c1 c2 c3 c4 : Nat} {xn xd yn yd : List Int}

set_option maxRecDepth 100000 in
set_option maxHeartbeats 3200000 in
theorem sub_rat (h1 : Rd B w (.slice a1 xn.length c1) xn) (h2 : Rd B w (.slice a2 xd.length c2) xd) (h3 : Rd B w (.slice a3 yn.length c3) yn) (h4 : Rd B w (.slice a4 yd.length c4) yd) (hB : B ≤ w.heap.size) :
    Calls Tryd.prog 12 #[.agg #[.bool bx, .slice a1 xn.length c1, .slice a2 xd.length c2], .agg #[.bool cy, .slice a3 yn.length c3, .slice a4 yd.length c4]] w fun e w' => Gives w (RightP bx xn xd ∧ RightP cy yn yd) (sg bx (val xn) * val yd + sg (!cy) (val yn) * val xd) (val xd * val yd) e w' := by
  have I := in2_new w (.bool bx) (.slice a1 xn.length c1) (.slice a2 xd.length c2) (.bool cy) (.slice a3 yn.length c3) (.slice a4 yd.length c4)
  go_enter Tryd.func12, Tryd.ntmps12
  go_wp2_with fail
  generalize hA : ((((w.alloc (.cells #[.bool bx, .slice a1 xn.length c1, .slice a2 xd.length c2] 24)).alloc (.cells #[.bool cy, .slice a3 yn.length c3, .slice a4 yd.length c4] 24)).alloc (.cells #[.bool false, .slice none 0 0, .slice none 0 0] 24)).alloc (.cells #[.bool bx, .slice a1 xn.length c1, .slice a2 xd.length c2, .bool cy, .slice a3 yn.length c3, .slice a4 yd.length c4] 24)) = wQ at *
  clear hA
  obtain ⟨hX, hY, hR, hT, b0, s0⟩ := I
  refine (allRight2 hT (h1.below (b0.mono hB)) (h2.below (b0.mono hB)) (h3.below (b0.mono hB)) (h4.below (b0.mono hB)) (by omega)).mono ?_
  rintro e wa ⟨⟨r, rfl, hr⟩, ba⟩
  have sa := ba.size
  have bwa : Below w.heap.size w wa := b0.trans (ba.mono (by omega))
  have hRa := hR.below ba (by omega)
  cases r with
  | false =>
    have HP : Hid (¬ (RightP bx xn xd ∧ RightP cy yn yd)) := fun h => by have := hr.2 h; cases this
    clear hr
    have q0 := hRa.c0
    have q1 := hRa.c1
    have q2 := hRa.c2
    have p0 := hRa.f0
    have p1 := hRa.f1
    have p2 := hRa.f2
    go_wp2
    have hR3 := hRa.set (.bool false) (.slice none 0 0) (.slice none 0 0)
    have r0 := hR3.c0
    have r1 := hR3.c1
    have r2 := hR3.c2
    refine bodyPost_ret (v := .tuple #[.agg #[.bool false, .slice none 0 0, .slice none 0 0], .int .i64 22]) (by simp [results, Tryd.results12, go_sem, r0, r1, r2]) rfl ?_
    exact gives_err HP.out (Below.set3 bwa (by omega) _ _ _)
  | true =>
    have HP : Hid (RightP bx xn xd ∧ RightP cy yn yd) := hr.1 rfl
    clear hr
    have hXa := hX.below ba (by omega)
    have hYa := hY.below ba (by omega)
    have y0 := hYa.c0
    have y3 := hYa.f0
    have hYb := hYa.set0 (.bool (!cy))
    have hXb := hXa.apart (p := ⟨w.heap.size + 1, 0, none⟩) (by simp) (.bool (!cy))
    have hRb := hRa.apart (p := ⟨w.heap.size + 1, 0, none⟩) (by simp) (.bool (!cy))
    have bwb : Below w.heap.size w (wa.setCell ⟨w.heap.size + 1, 0, none⟩ (.bool (!cy))) := bwa.setCell (p := ⟨w.heap.size + 1, 0, none⟩) (by simp) _
    have sb : (wa.setCell ⟨w.heap.size + 1, 0, none⟩ (.bool (!cy))).heap.size = wa.heap.size := by simp [World.setCell]
    have k0 := hXb.c0
    have k1 := hXb.c1
    have k2 := hXb.c2
    have k3 := hYb.c0
    have k4 := hYb.c1
    have k5 := hYb.c2
    have hpl := plus_weak (bx := bx) (cy := !cy) (h1.below (bwb.mono hB)) (h2.below (bwb.mono hB)) (h3.below (bwb.mono hB)) (h4.below (bwb.mono hB)) (by omega) HP.out.1.weak HP.out.2.weak
    go_wp2_with fail
    clear k0 k1 k2 k3 k4 k5 y0 y3
    generalize hA : wa.setCell ⟨w.heap.size + 1, 0, none⟩ (.bool (!cy)) = wb at *
    clear hA
    refine hpl.mono ?_
    intro e w6 hm6
    obtain ⟨bm6, b6, x5, n5, y5, x6, n6, y6, err, rfl, hform⟩ := hm6.form
    have hRc := hRb.below bm6 (by omega)
    have q0 := hRc.c0
    have q1 := hRc.c1
    have q2 := hRc.c2
    have p0 := hRc.f0
    have p1 := hRc.f1
    have p2 := hRc.f2
    clear hpl hm6
    go_wp2
    have hR3 := hRc.set (.bool b6) (.slice x5 n5 y5) (.slice x6 n6 y6)
    have r0 := hR3.c0
    have r1 := hR3.c1
    have r2 := hR3.c2
    refine bodyPost_ret (v := .tuple #[.agg #[.bool b6, .slice x5 n5 y5, .slice x6 n6 y6], .int .i64 err]) (by simp [results, Tryd.results12, go_sem, r0, r1, r2]) rfl ?_
    exact (rform_done bwb (by omega) (by omega) bm6 hform).gives HP.out

/-- What rat.Sign answers. -/
def Signs (P : Prop) (b : Bool) (ns : List Int) (e : Ending) : Prop := ∃ r : Int, e = .returned (.int .i64 r) ∧ Hid ((¬ P → r = 0) ∧ (P → r = cmpI (sg b (val ns)) 0))

set_option maxRecDepth 100000 in
set_option maxHeartbeats 1600000 in
theorem sign_rat (h1 : Rd w.heap.size w (.slice a1 xn.length c1) xn) (h2 : Rd w.heap.size w (.slice a2 xd.length c2) xd) :
    Calls Tryd.prog 14 #[.agg #[.bool bx, .slice a1 xn.length c1, .slice a2 xd.length c2]] w fun e w' => Below w.heap.size w w' ∧ Signs (RightP bx xn xd) bx xn e := by
  have X := nvar_new (b := bx) h1 h2
  have b0 := below_alloc w (.cells #[.bool bx, .slice a1 xn.length c1, .slice a2 xd.length c2] 24)
  obtain ⟨k0, k1, k2⟩ := X.cells
  go_enter Tryd.func14, Tryd.ntmps14
  go_wp2_with fail
  clear k0 k1 k2
  generalize hA : w.alloc (.cells #[.bool bx, .slice a1 xn.length c1, .slice a2 xd.length c2] 24) = v at *
  clear hA
  refine (right_rat X.rn X.rd (Nat.le_refl _)).mono ?_
  rintro e wa ⟨⟨r, rfl, hr⟩, ba⟩
  replace X := X.below ba
  have g1 : Below w.heap.size w wa := b0.trans (ba.mono b0.size)
  obtain ⟨k0, k1, k2⟩ := X.cells
  cases r with
  | false =>
    have HP : Hid (¬ RightP bx xn xd) := fun h => by have := hr.2 h; cases this
    clear hr
    go_wp2
    go_ret
    exact ⟨g1, 0, rfl, fun _ => rfl, fun h => absurd h HP.out⟩
  | true =>
    have HP : Hid (RightP bx xn xd) := hr.1 rfl
    clear hr
    by_cases h0 : 0 < xn.length
    · have hb : ((xn.length : Int) == 0) = false := by rw [beq_eq_false_iff_ne]; omega
      have HV : Hid (0 < val xn) := by
        have h5 := can_low HP.out.2.2.1 h0
        have h6 := pw_pos (xn.length - 1)
        unfold Hid; omega
      cases bx with
      | false =>
        go_wp2
        go_ret
        exact ⟨g1, 1, rfl, fun h => absurd HP.out h, fun _ => (cmpI_gt (by have := HV.out; simpa [sg] using this)).symm⟩
      | true =>
        go_wp2
        go_ret
        exact ⟨g1, -1, rfl, fun h => absurd HP.out h, fun _ => (cmpI_lt (by have := HV.out; simp [sg]; omega)).symm⟩
    · have hb : ((xn.length : Int) == 0) = true := by rw [beq_iff_eq]; omega
      have HV : Hid (val xn = 0) := (can_zero HP.out.2.2.1).1 (by omega)
      go_wp2
      go_ret
      exact ⟨g1, 0, rfl, fun h => absurd HP.out h, fun _ => (cmpI_eq (by rw [HV.out, sg_zero])).symm⟩
end
end Go.Proofs.YtekmalpmcbjpeaaDoor

/- What a reckoning answers, where the number is known. -/
namespace Go.Proofs.YtekmalpmcbjpeaaDoor
set_option linter.unusedVariables false
set_option linter.unusedSimpArgs false
open Go.RowKit

/-- Lowest terms are unique, however many limbs. -/
theorem lowest_can {b c : Bool} {ns ds ms es : List Int} {N D : Int} (cn : can ns) (cd : can ds) (hd : 0 < ds.length) (hg : gI (val ns) (val ds) = 1) (h : sg b (val ns) * D = N * val ds) (hD : 0 < D) (cm : can ms) (ce : can es) (he : 0 < es.length) (kg : gI (val ms) (val es) = 1) (k : sg c (val ms) * D = N * val es) : ns = ms ∧ ds = es ∧ (0 < val ns → b = c) := by
  have dp : 0 < val ds := by have := can_low cd hd; have := pw_pos (ds.length - 1); omega
  have ep : 0 < val es := by have := can_low ce he; have := pw_pos (es.length - 1); omega
  have np := (val_bound cn.1).1
  have mp := (val_bound cm.1).1
  have e1 : sg b (val ns) * val es = sg c (val ms) * val ds := by
    refine cancel hD ?_
    have q1 : sg b (val ns) * val es * D = sg b (val ns) * D * val es := by ac_rfl
    have q2 : sg c (val ms) * val ds * D = sg c (val ms) * D * val ds := by ac_rfl
    rw [q1, q2, h, k]
    ac_rfl
  rw [← sg_mul, ← sg_mul] at e1
  have n1 : 0 ≤ val ns * val es := Int.mul_nonneg np (by omega)
  have n2 : 0 ≤ val ms * val ds := Int.mul_nonneg mp (by omega)
  have hab : val ns * val es = val ms * val ds ∧ (0 < val ns * val es → b = c) := by
    unfold sg at e1
    generalize val ns * val es = p at *
    generalize val ms * val ds = q at *
    cases b <;> cases c <;> simp at e1
    · exact ⟨e1, fun _ => rfl⟩
    · exact ⟨by omega, fun _ => by omega⟩
    · exact ⟨by omega, fun _ => by omega⟩
    · exact ⟨by omega, fun _ => rfl⟩
  obtain ⟨n, en⟩ := Int.eq_ofNat_of_zero_le np
  obtain ⟨d, ed⟩ := Int.eq_ofNat_of_zero_le (Int.le_of_lt dp)
  obtain ⟨m, em⟩ := Int.eq_ofNat_of_zero_le mp
  obtain ⟨f, ef⟩ := Int.eq_ofNat_of_zero_le (Int.le_of_lt ep)
  have g1 : Nat.gcd n d = 1 := by
    rw [en, ed] at hg
    unfold gI at hg
    simp only [Int.toNat_natCast] at hg
    omega
  have g2 : Nat.gcd m f = 1 := by
    rw [em, ef] at kg
    unfold gI at kg
    simp only [Int.toNat_natCast] at kg
    omega
  have hm := hab.1
  rw [en, ed, em, ef] at hm
  have hmn : n * f = m * d := by exact_mod_cast hm
  have d1 : d ∣ f := (Nat.Coprime.dvd_of_dvd_mul_left (show Nat.Coprime d n by rw [Nat.coprime_comm]; exact g1) ⟨m, by rw [hmn, Nat.mul_comm]⟩)
  have d2 : f ∣ d := (Nat.Coprime.dvd_of_dvd_mul_left (show Nat.Coprime f m by rw [Nat.coprime_comm]; exact g2) ⟨n, by rw [← hmn, Nat.mul_comm]⟩)
  have hdf : d = f := Nat.dvd_antisymm d1 d2
  subst hdf
  have hd0 : 0 < d := by omega
  have hnm : n = m := Nat.eq_of_mul_eq_mul_right hd0 hmn
  exact ⟨can_inj cn cm (by rw [en, em, hnm]), can_inj cd ce (by rw [ed, ef]), fun h0 => hab.2 (Int.mul_pos h0 ep)⟩

/-- What fits is not too great. -/
theorem not_big {b : Bool} {ns ds : List Int} {N D : Int} (hr : RightP b ns ds) (h : sg b (val ns) * D = N * val ds) (hD : 0 < D) : ¬ Big N D := by
  rintro ⟨c, ms, es, cm, ce, he, kg, k, hl⟩
  obtain ⟨rfl, rfl, _⟩ := lowest_can hr.2.2.1 hr.2.2.2.1 hr.2.2.2.2.2.1 hr.2.2.2.2.2.2 h hD cm ce he kg k
  have := hr.1
  have := hr.2.1
  omega
theorem right_is {b c : Bool} {ns ds ms es : List Int} {N D : Int} (hr : RightP b ns ds) (h : sg b (val ns) * D = N * val ds) (hD : 0 < D) (kr : RightP c ms es) (k : sg c (val ms) * D = N * val es) : c = b ∧ ms = ns ∧ es = ds := by
  refine lowest kr hr (cancel hD ?_)
  have q1 : sg c (val ms) * val ds * D = sg c (val ms) * D * val ds := by ac_rfl
  have q2 : sg b (val ns) * val es * D = sg b (val ns) * D * val es := by ac_rfl
  rw [q1, q2, h, k]
  ac_rfl

/-- A known number is answered. -/
def IsNum' (w : World) (b : Bool) (ns ds : List Int) (e : Ending) (w' : World) : Prop :=
  Below w.heap.size w w' ∧ ∃ a1 c1 a2 c2, e = .returned (.tuple #[.agg #[.bool b, .slice a1 ns.length c1, .slice a2 ds.length c2], .int .i64 0]) ∧ Own w.heap.size w' (.slice a1 ns.length c1) ns ∧ Own w.heap.size w' (.slice a2 ds.length c2) ds
theorem gives_is {w w' : World} {P : Prop} {N D : Int} {e : Ending} {b : Bool} {ns ds : List Int} (h : Gives w P N D e w') (hP : P) (hD : 0 < D) (hr : RightP b ns ds) (hv : sg b (val ns) * D = N * val ds) : IsNum' w b ns ds e w' := by
  obtain ⟨hb, c, x1, n, y1, x2, m, y2, err, rfl, ho⟩ := h
  refine ⟨hb, ?_⟩
  rcases ho.out with ⟨hn, _⟩ | ⟨_, _, _, _, _, _, _, _, _, hbig⟩ | ⟨_, rfl, ms, es, rfl, rfl, on, od, kr, kv⟩
  · exact absurd hP hn
  · exact absurd hbig (not_big hr hv hD)
  · obtain ⟨rfl, rfl, rfl⟩ := right_is hr hv hD kr kv
    exact ⟨x1, y1, x2, y2, rfl, on, od⟩
/-- What a reckoning answers: too great, or a right number. -/
theorem gives_or {w w' : World} {P : Prop} {N D : Int} {e : Ending} (h : Gives w P N D e w') (hP : P) : Below w.heap.size w w' ∧ ((e = .returned (.tuple #[.agg #[.bool false, .slice none 0 0, .slice none 0 0], .int .i64 8]) ∧ Big N D) ∨ ∃ b ns ds a1 c1 a2 c2, e = .returned (.tuple #[.agg #[.bool b, .slice a1 ns.length c1, .slice a2 ds.length c2], .int .i64 0]) ∧ Own w.heap.size w' (.slice a1 ns.length c1) ns ∧ Own w.heap.size w' (.slice a2 ds.length c2) ds ∧ RightP b ns ds ∧ sg b (val ns) * D = N * val ds) := by
  obtain ⟨hb, c, x1, n, y1, x2, m, y2, err, rfl, ho⟩ := h
  refine ⟨hb, ?_⟩
  rcases ho.out with ⟨hn, _⟩ | ⟨_, rfl, rfl, rfl, rfl, rfl, rfl, rfl, rfl, hbig⟩ | ⟨_, rfl, ms, es, rfl, rfl, on, od, kr, kv⟩
  · exact absurd hP hn
  · exact Or.inl ⟨rfl, hbig⟩
  · exact Or.inr ⟨c, ms, es, x1, y1, x2, y2, rfl, on, od, kr, kv⟩
theorem nil_rd (w : World) : Rd w.heap.size w (.slice none ([] : List Int).length 0) [] := Own.rd (base := 0) ⟨lim_nil, World.ownsRow_nil _ _ _ _⟩

section
variable {B : Nat} {w : World} {bx cy : Bool} {a1 a2 a3 a4 : Option Addr} {c1 c2 c3 c4 : Nat} {xn xd yn yd : List Int}
set_option maxRecDepth 100000 in
set_option maxHeartbeats 3200000 in
/-- rat.Div by what is not 0. -/
theorem div_nz (h1 : Rd B w (.slice a1 xn.length c1) xn) (h2 : Rd B w (.slice a2 xd.length c2) xd) (h3 : Rd B w (.slice a3 yn.length c3) yn) (h4 : Rd B w (.slice a4 yd.length c4) yd) (hB : B ≤ w.heap.size) (h0 : 0 < yn.length) :
    Calls Tryd.prog 15 #[.agg #[.bool bx, .slice a1 xn.length c1, .slice a2 xd.length c2], .agg #[.bool cy, .slice a3 yn.length c3, .slice a4 yd.length c4]] w fun e w' => Gives w (RightP bx xn xd ∧ RightP cy yn yd) (sg bx (val xn) * sg cy (val yd)) (val xd * val yn) e w' := by
  have I := in2_new w (.bool bx) (.slice a1 xn.length c1) (.slice a2 xd.length c2) (.bool cy) (.slice a3 yn.length c3) (.slice a4 yd.length c4)
  go_enter Tryd.func15, Tryd.ntmps15
  go_wp2_with fail
  generalize hA : ((((w.alloc (.cells #[.bool bx, .slice a1 xn.length c1, .slice a2 xd.length c2] 24)).alloc (.cells #[.bool cy, .slice a3 yn.length c3, .slice a4 yd.length c4] 24)).alloc (.cells #[.bool false, .slice none 0 0, .slice none 0 0] 24)).alloc (.cells #[.bool bx, .slice a1 xn.length c1, .slice a2 xd.length c2, .bool cy, .slice a3 yn.length c3, .slice a4 yd.length c4] 24)) = wQ at *
  clear hA
  obtain ⟨hX, hY, hR, hT, b0, s0⟩ := I
  refine (allRight2 hT (h1.below (b0.mono hB)) (h2.below (b0.mono hB)) (h3.below (b0.mono hB)) (h4.below (b0.mono hB)) (by omega)).mono ?_
  rintro e wa ⟨⟨r, rfl, hr⟩, ba⟩
  have sa := ba.size
  have bwa : Below w.heap.size w wa := b0.trans (ba.mono (by omega))
  have hRa := hR.below ba (by omega)
  cases r with
  | false =>
    have HP : Hid (¬ (RightP bx xn xd ∧ RightP cy yn yd)) := fun h => by have := hr.2 h; cases this
    clear hr
    have q0 := hRa.c0
    have q1 := hRa.c1
    have q2 := hRa.c2
    have p0 := hRa.f0
    have p1 := hRa.f1
    have p2 := hRa.f2
    go_wp2
    have hR3 := hRa.set (.bool false) (.slice none 0 0) (.slice none 0 0)
    have r0 := hR3.c0
    have r1 := hR3.c1
    have r2 := hR3.c2
    refine bodyPost_ret (v := .tuple #[.agg #[.bool false, .slice none 0 0, .slice none 0 0], .int .i64 22]) (by simp [results, Tryd.results15, go_sem, r0, r1, r2]) rfl ?_
    exact gives_err HP.out (Below.set3 bwa (by omega) _ _ _)
  | true =>
    have HP : Hid (RightP bx xn xd ∧ RightP cy yn yd) := hr.1 rfl
    clear hr
    have hXa := hX.below ba (by omega)
    have hYa := hY.below ba (by omega)
    have k0 := hXa.c0
    have k1 := hXa.c1
    have k2 := hXa.c2
    have k3 := hYa.c0
    have k4 := hYa.c1
    have k5 := hYa.c2
    have hpl := by_rat (bx := bx) (cy := cy) (h1.below (bwa.mono hB)) (h2.below (bwa.mono hB)) (h3.below (bwa.mono hB)) (h4.below (bwa.mono hB)) (by omega) HP.out.1 HP.out.2 h0
    go_wp2_with fail
    clear k0 k1 k2 k3 k4 k5
    refine hpl.mono ?_
    intro e w6 hm6
    obtain ⟨bm6, b6, x5, n5, y5, x6, n6, y6, err, rfl, hform⟩ := hm6.form
    have hRc := hRa.below bm6 (by omega)
    have q0 := hRc.c0
    have q1 := hRc.c1
    have q2 := hRc.c2
    have p0 := hRc.f0
    have p1 := hRc.f1
    have p2 := hRc.f2
    clear hpl hm6
    go_wp2
    have hR3 := hRc.set (.bool b6) (.slice x5 n5 y5) (.slice x6 n6 y6)
    have r0 := hR3.c0
    have r1 := hR3.c1
    have r2 := hR3.c2
    refine bodyPost_ret (v := .tuple #[.agg #[.bool b6, .slice x5 n5 y5, .slice x6 n6 y6], .int .i64 err]) (by simp [results, Tryd.results15, go_sem, r0, r1, r2]) rfl ?_
    exact (rform_done bwa (by omega) (by omega) bm6 hform).gives HP.out
end
end Go.Proofs.YtekmalpmcbjpeaaDoor

/- rat.wholeNextTo, rat.Floor: the whole numbers next to a number. -/
namespace Go.Proofs.YtekmalpmcbjpeaaDoor
set_option linter.unusedVariables false
set_option linter.unusedSimpArgs false
open Go.RowKit

/-- A result's variable. -/
structure RVar (w : World) (k : Nat) : Prop where
  lt : k < w.heap.size
  box : Box3 w k 24 (.bool false) (.slice none 0 0) (.slice none 0 0)
theorem RVar.below {w w' : World} {k : Nat} (h : RVar w k) (hb : Below w.heap.size w w') : RVar w' k := ⟨Nat.lt_of_lt_of_le h.lt hb.size, h.box.below hb h.lt⟩
theorem rvar_new (w : World) : RVar (w.alloc (.cells #[.bool false, .slice none 0 0, .slice none 0 0] 24)) w.heap.size := ⟨by simp, box3_new _ _ _ _ _⟩

/-- The size of the whole number next to a number: further away from 0, or nearer. -/
def wholeM (f : Bool) (n d : Int) : Int := n / d + if f = true ∧ ¬ n % d = 0 then 1 else 0

theorem div_unique {n d q r : Int} (h : n = q * d + r) (h0 : 0 ≤ r) (h1 : r < d) : q = n / d ∧ r = n % d := by
  have hd : 0 < d := by omega
  have e1 : n / d = q := by
    rw [h, Int.add_comm, Int.add_mul_ediv_right _ _ (by omega), Int.ediv_eq_zero_of_lt h0 h1]
    omega
  refine ⟨e1.symm, ?_⟩
  have e2 := Int.emod_def n d
  rw [e1] at e2
  rw [e2, h, Int.mul_comm d]
  omega

theorem floor_whole (b : Bool) (n d : Int) (hn : 0 ≤ n) (hd : 0 < d) : sg b (wholeM b n d) = sg b n / d := by
  have hm0 := Int.emod_nonneg n (show d ≠ 0 by omega)
  have hm1 := Int.emod_lt_of_pos n hd
  have he : n / d * d + n % d = n := by rw [Int.mul_comm]; exact Int.mul_ediv_add_emod n d
  unfold wholeM sg
  cases b with
  | false => simp
  | true =>
    by_cases h0 : n % d = 0
    · simp only [h0, not_true_eq_false, and_false, if_false, if_true, Int.add_zero]
      exact (div_unique (r := 0) (by rw [Int.neg_mul]; omega) (by omega) hd).1
    · simp only [h0, not_false_eq_true, and_true, if_true]
      refine (div_unique (r := d - n % d) ?_ (by omega) (by omega)).1
      rw [Int.neg_mul, Int.add_mul]
      omega

theorem one_val : val [(1 : Int)] = 1 := by decide
theorem can_add_one {q r : List Int} (c : can r) : (0 < r.length ↔ ¬ val r = 0) := by
  have := can_zero c
  omega

section
variable {B : Nat} {w : World} {bx : Bool} {a1 a2 : Option Addr} {c1 c2 : Nat} {xn xd : List Int}

set_option maxRecDepth 100000 in
set_option maxHeartbeats 8000000 in
theorem whole_rat (f : Bool) (h1 : Rd w.heap.size w (.slice a1 xn.length c1) xn) (h2 : Rd w.heap.size w (.slice a2 xd.length c2) xd) :
    Calls Tryd.prog 55 #[.agg #[.bool bx, .slice a1 xn.length c1, .slice a2 xd.length c2], .bool f] w fun e w' => Gives w (RightP bx xn xd) (sg bx (wholeM f (val xn) (val xd))) 1 e w' := by
  have X := nvar_new (b := bx) h1 h2
  have g := below_alloc w (.cells #[.bool bx, .slice a1 xn.length c1, .slice a2 xd.length c2] 24)
  have R := rvar_new (w.alloc (.cells #[.bool bx, .slice a1 xn.length c1, .slice a2 xd.length c2] 24))
  have ka := below_alloc (w.alloc (.cells #[.bool bx, .slice a1 xn.length c1, .slice a2 xd.length c2] 24)) (.cells #[.bool false, .slice none 0 0, .slice none 0 0] 24)
  rw [World.size_alloc] at R
  replace X := X.below ka
  replace g := g.trans (ka.mono g.size)
  clear ka h1 h2
  obtain ⟨x0, x1, x2⟩ := X.cells
  go_enter Tryd.func55, Tryd.ntmps55
  go_wp2_with fail
  clear x0 x1 x2
  generalize hA : (w.alloc (.cells #[.bool bx, .slice a1 xn.length c1, .slice a2 xd.length c2] 24)).alloc (.cells #[.bool false, .slice none 0 0, .slice none 0 0] 24) = v at *
  clear hA
  refine (right_rat X.rn X.rd (Nat.le_refl _)).mono ?_
  rintro e wa ⟨⟨r, rfl, hr⟩, ka⟩
  replace X := X.below ka
  replace R := R.below ka
  replace g := g.trans (ka.mono g.size)
  cases r with
  | false =>
    have HP : Hid (¬ RightP bx xn xd) := fun h => by have := hr.2 h; cases this
    clear hr
    have q0 := R.box.c0
    have q1 := R.box.c1
    have q2 := R.box.c2
    have p0 := R.box.f0
    have p1 := R.box.f1
    have p2 := R.box.f2
    go_wp2
    have hR3 := R.box.set (.bool false) (.slice none 0 0) (.slice none 0 0)
    have r0 := hR3.c0
    have r1 := hR3.c1
    have r2 := hR3.c2
    refine bodyPost_ret (v := .tuple #[.agg #[.bool false, .slice none 0 0, .slice none 0 0], .int .i64 22]) (by simp [results, Tryd.results55, go_sem, r0, r1, r2]) rfl ?_
    exact gives_err HP.out (Below.set3 g (by omega) _ _ _)
  | true =>
    have HP : Hid (RightP bx xn xd) := hr.1 rfl
    clear hr
    have l1 := HP.out.1
    have l2 := HP.out.2.1
    have l3 := HP.out.2.2.2.2.2.1
    have ga := g
    have Ra := R
    have s1 : w.heap.size ≤ wa.heap.size := g.size
    have hcells2 : ∀ {w' : World}, Below wa.heap.size wa w' → w'.cell? ⟨w.heap.size, 0, none⟩ = some (.bool bx) := fun hb => (X.below hb).k0
    have X2 : ∀ {w' : World}, Below wa.heap.size wa w' → NVar w' w.heap.size bx a1 xn c1 a2 xd c2 := fun hb => X.below hb
    obtain ⟨x0, x1, x2⟩ := X.cells
    go_wp2_with fail
    clear x0 x1 x2
    refine (divMod_any X.rn (Nat.le_refl _) X.rd (Nat.le_refl _) (by have := (right_pos HP.out).1; omega) (by omega) (by omega)).mono ?_
    rintro e wb ⟨qs, rs, a5, c5, a6, c6, rfl, oq, or, cq, cr, hv, hl, lq, lr, kb⟩
    have HU : Hid (val qs = val xn / val xd ∧ val rs = val xn % val xd) := div_unique hv (val_bound cr.1).1 hl
    clear hv hl
    replace X := X.below kb
    have t1 : Below wa.heap.size wa wb := kb
    clear kb R g
    have HRS : Hid (0 < rs.length ↔ ¬ val rs = 0) := can_add_one (q := qs) cr
    by_cases hcs : f = true ∧ 0 < rs.length
    · obtain ⟨rfl, hrl⟩ := hcs
      have HM : Hid (wholeM true (val xn) (val xd) = val qs + 1) := by
        unfold Hid wholeM
        rw [if_pos ⟨rfl, by rw [← HU.out.2]; exact HRS.out.1 hrl⟩, HU.out.1]
      have HF : Hid (wholeM true (val xn) (val xd) = val qs + 1) := HM
      go_wp2_with fail
      refine (one_any _).mono ?_
      rintro e wc ⟨a7, c7, rfl, o7, kc⟩
      replace X := X.below kc
      have t3 : Below wa.heap.size wa wc := t1.trans (kc.mono t1.size)
      have oqc := oq.below kc (Nat.le_refl _)
      go_wp2_with fail
      refine (sum2 oqc.rd o7.rd (Nat.le_refl _) (Nat.le_refl _) (by omega) (by simp)).mono ?_
      rintro e wd ⟨zs, cz, vz, lz, a8, c8, rfl, o8, kd⟩
      have HZ : Hid (val zs = wholeM true (val xn) (val xd)) := by
        unfold Hid; rw [vz, HM.out, one_val]
      clear vz
      replace X := X.below kd
      have t4 : Below wa.heap.size wa wd := t3.trans (kd.mono t3.size)
      have o9 : Own wa.heap.size wd (.slice a8 zs.length c8) zs := o8.mono t3.size
      have x0 := X.k0
      have hcells : ∀ {w' : World}, Below wd.heap.size wd w' → w'.cell? ⟨w.heap.size, 0, none⟩ = some (.bool bx) := fun hb => (X.below hb).k0
      have hne : w.heap.size + 1 ≠ w.heap.size := by omega
      go_wp2
      go_region_held3 (fun w' => w'.cell? ⟨w.heap.size, 0, none⟩ = some (.bool bx))
        (first | (go_keep; done) | exact tw | exact tw2 | exact (((Xf.box.apart (p := ⟨w.heap.size + 1, 0, none⟩) (by exact hne) _).apart (p := ⟨w.heap.size + 1, 1, none⟩) (by exact hne) _).apart (p := ⟨w.heap.size + 1, 2, none⟩) (by exact hne) _).c0)
        (first
          | (go_at_call 38; refine (one_any _).mono ?_; intro e we hm; obtain ⟨x2, y2, rfl, o3, bf⟩ := Makes.undrew hm; have tw := hcells bf; have t2 : Below wa.heap.size wa we := t4.trans (bf.mono t4.size))
          | (go_at_call 36; refine (limited_any (b := bx) (sg bx (wholeM true (val xn) (val xd))) 1 t2 (o9.below bf (Nat.le_refl _)) (o3.mono t4.size) cz can_one (by simp) (by rw [one_val]; exact gI_one_right _) (by rw [one_val, HZ.out])).mono ?_; intro e wf hm6; obtain ⟨bm6, b6, x5, n5, y5, x6, n6, y6, err, rfl, hform⟩ := hm6.form; have tw2 := hcells2 bm6; have Xf := X2 bm6; have Rf := Ra.below bm6; have q0 := Rf.box.c0; have q1 := Rf.box.c1; have q2 := Rf.box.c2; have p0 := Rf.box.f0; have p1 := Rf.box.f1; have p2 := Rf.box.f2))
      all_goals
        go_wp2
        have hR3 := Rf.box.set (.bool b6) (.slice x5 n5 y5) (.slice x6 n6 y6)
        have r0 := hR3.c0
        have r1 := hR3.c1
        have r2 := hR3.c2
        refine bodyPost_ret (v := .tuple #[.agg #[.bool b6, .slice x5 n5 y5, .slice x6 n6 y6], .int .i64 err]) (by simp [results, Tryd.results55, go_sem, r0, r1, r2]) rfl ?_
        exact (rform_done ga (by omega) Ra.lt bm6 hform).gives HP.out
    · have HM : Hid (val qs = wholeM f (val xn) (val xd)) := by
        unfold Hid wholeM
        rw [if_neg, Int.add_zero]
        · exact HU.out.1
        · rintro ⟨hf, h0⟩
          exact hcs ⟨hf, HRS.out.2 (by rw [HU.out.2]; exact h0)⟩
      have hcs2 : f = false ∨ (f = true ∧ ¬ 0 < rs.length) := by
        cases f with
        | false => exact Or.inl rfl
        | true => exact Or.inr ⟨rfl, fun h => hcs ⟨rfl, h⟩⟩
      clear hcs
      have hqo : Own wa.heap.size wb (.slice a5 qs.length c5) qs := oq
      rcases hcs2 with rfl | ⟨rfl, hr0⟩
      · have x0 := X.k0
        have hcells : ∀ {w' : World}, Below wb.heap.size wb w' → w'.cell? ⟨w.heap.size, 0, none⟩ = some (.bool bx) := fun hb => (X.below hb).k0
        have hne : w.heap.size + 1 ≠ w.heap.size := by omega
        go_wp2
        go_region_held3 (fun w' => w'.cell? ⟨w.heap.size, 0, none⟩ = some (.bool bx))
          (first | (go_keep; done) | exact tw | exact tw2 | exact (((Xf.box.apart (p := ⟨w.heap.size + 1, 0, none⟩) (by exact hne) _).apart (p := ⟨w.heap.size + 1, 1, none⟩) (by exact hne) _).apart (p := ⟨w.heap.size + 1, 2, none⟩) (by exact hne) _).c0)
          (first
            | (go_at_call 38; refine (one_any _).mono ?_; intro e we hm; obtain ⟨x2, y2, rfl, o3, bf⟩ := Makes.undrew hm; have tw := hcells bf; have t2 : Below wa.heap.size wa we := t1.trans (bf.mono t1.size))
            | (go_at_call 36; refine (limited_any (b := bx) (sg bx (wholeM false (val xn) (val xd))) 1 t2 (hqo.below bf (Nat.le_refl _)) (o3.mono t1.size) cq can_one (by simp) (by rw [one_val]; exact gI_one_right _) (by rw [one_val, HM.out])).mono ?_; intro e wf hm6; obtain ⟨bm6, b6, x5, n5, y5, x6, n6, y6, err, rfl, hform⟩ := hm6.form; have tw2 := hcells2 bm6; have Xf := X2 bm6; have Rf := Ra.below bm6; have q0 := Rf.box.c0; have q1 := Rf.box.c1; have q2 := Rf.box.c2; have p0 := Rf.box.f0; have p1 := Rf.box.f1; have p2 := Rf.box.f2))
        all_goals
          go_wp2
          have hR3 := Rf.box.set (.bool b6) (.slice x5 n5 y5) (.slice x6 n6 y6)
          have r0 := hR3.c0
          have r1 := hR3.c1
          have r2 := hR3.c2
          refine bodyPost_ret (v := .tuple #[.agg #[.bool b6, .slice x5 n5 y5, .slice x6 n6 y6], .int .i64 err]) (by simp [results, Tryd.results55, go_sem, r0, r1, r2]) rfl ?_
          exact (rform_done ga (by omega) Ra.lt bm6 hform).gives HP.out
      · have x0 := X.k0
        have hcells : ∀ {w' : World}, Below wb.heap.size wb w' → w'.cell? ⟨w.heap.size, 0, none⟩ = some (.bool bx) := fun hb => (X.below hb).k0
        have hne : w.heap.size + 1 ≠ w.heap.size := by omega
        go_wp2
        go_region_held3 (fun w' => w'.cell? ⟨w.heap.size, 0, none⟩ = some (.bool bx))
          (first | (go_keep; done) | exact tw | exact tw2 | exact (((Xf.box.apart (p := ⟨w.heap.size + 1, 0, none⟩) (by exact hne) _).apart (p := ⟨w.heap.size + 1, 1, none⟩) (by exact hne) _).apart (p := ⟨w.heap.size + 1, 2, none⟩) (by exact hne) _).c0)
          (first
            | (go_at_call 38; refine (one_any _).mono ?_; intro e we hm; obtain ⟨x2, y2, rfl, o3, bf⟩ := Makes.undrew hm; have tw := hcells bf; have t2 : Below wa.heap.size wa we := t1.trans (bf.mono t1.size))
            | (go_at_call 36; refine (limited_any (b := bx) (sg bx (wholeM true (val xn) (val xd))) 1 t2 (hqo.below bf (Nat.le_refl _)) (o3.mono t1.size) cq can_one (by simp) (by rw [one_val]; exact gI_one_right _) (by rw [one_val, HM.out])).mono ?_; intro e wf hm6; obtain ⟨bm6, b6, x5, n5, y5, x6, n6, y6, err, rfl, hform⟩ := hm6.form; have tw2 := hcells2 bm6; have Xf := X2 bm6; have Rf := Ra.below bm6; have q0 := Rf.box.c0; have q1 := Rf.box.c1; have q2 := Rf.box.c2; have p0 := Rf.box.f0; have p1 := Rf.box.f1; have p2 := Rf.box.f2))
        all_goals
          go_wp2
          have hR3 := Rf.box.set (.bool b6) (.slice x5 n5 y5) (.slice x6 n6 y6)
          have r0 := hR3.c0
          have r1 := hR3.c1
          have r2 := hR3.c2
          refine bodyPost_ret (v := .tuple #[.agg #[.bool b6, .slice x5 n5 y5, .slice x6 n6 y6], .int .i64 err]) (by simp [results, Tryd.results55, go_sem, r0, r1, r2]) rfl ?_
          exact (rform_done ga (by omega) Ra.lt bm6 hform).gives HP.out

set_option maxRecDepth 100000 in
set_option maxHeartbeats 3200000 in
theorem floor_rat (h1 : Rd w.heap.size w (.slice a1 xn.length c1) xn) (h2 : Rd w.heap.size w (.slice a2 xd.length c2) xd) :
    Calls Tryd.prog 33 #[.agg #[.bool bx, .slice a1 xn.length c1, .slice a2 xd.length c2]] w fun e w' => Gives w (RightP bx xn xd) (sg bx (val xn) / val xd) 1 e w' := by
  have X := nvar_new (b := bx) h1 h2
  have g := below_alloc w (.cells #[.bool bx, .slice a1 xn.length c1, .slice a2 xd.length c2] 24)
  have R := rvar_new (w.alloc (.cells #[.bool bx, .slice a1 xn.length c1, .slice a2 xd.length c2] 24))
  have ka := below_alloc (w.alloc (.cells #[.bool bx, .slice a1 xn.length c1, .slice a2 xd.length c2] 24)) (.cells #[.bool false, .slice none 0 0, .slice none 0 0] 24)
  rw [World.size_alloc] at R
  replace X := X.below ka
  replace g := g.trans (ka.mono g.size)
  clear ka h1 h2
  obtain ⟨x0, x1, x2⟩ := X.cells
  go_enter Tryd.func33, Tryd.ntmps33
  go_wp2_with fail
  clear x0 x1 x2
  generalize hA : (w.alloc (.cells #[.bool bx, .slice a1 xn.length c1, .slice a2 xd.length c2] 24)).alloc (.cells #[.bool false, .slice none 0 0, .slice none 0 0] 24) = v at *
  clear hA
  refine (whole_rat bx X.rn X.rd).mono ?_
  rintro e wa ⟨ka, b6, x5, n5, y5, x6, n6, y6, err, rfl, ho⟩
  have Ra := R.below ka
  have q0 := Ra.box.c0
  have q1 := Ra.box.c1
  have q2 := Ra.box.c2
  have p0 := Ra.box.f0
  have p1 := Ra.box.f1
  have p2 := Ra.box.f2
  go_wp2
  have hR3 := Ra.box.set (.bool b6) (.slice x5 n5 y5) (.slice x6 n6 y6)
  have r0 := hR3.c0
  have r1 := hR3.c1
  have r2 := hR3.c2
  refine bodyPost_ret (v := .tuple #[.agg #[.bool b6, .slice x5 n5 y5, .slice x6 n6 y6], .int .i64 err]) (by simp [results, Tryd.results33, go_sem, r0, r1, r2]) rfl ?_
  have hd := gives_done g (by omega) R.lt ka (Nat.le_refl _) ho
  by_cases hP : RightP bx xn xd
  · rw [floor_whole bx _ _ (right_pos hP).2 (right_pos hP).1] at hd
    exact hd
  · obtain ⟨k1, c, z1, n, z2, z3, m, z4, er, he, hO⟩ := hd
    refine ⟨k1, c, z1, n, z2, z3, m, z4, er, he, ?_⟩
    rcases hO.out with h | ⟨h, _⟩ | ⟨h, _⟩
    · exact Or.inl h
    · exact absurd h hP
    · exact absurd h hP
end
end Go.Proofs.YtekmalpmcbjpeaaDoor

/- nat.word, nat.Small. -/
namespace Go.Proofs.YtekmalpmcbjpeaaDoor
set_option linter.unusedVariables false
set_option linter.unusedSimpArgs false
open Go.RowKit

theorem or_zero_left (x : Int) (h : 0 ≤ x ∧ x < 18446744073709551616) : bits .or .u64 0 x = x := by
  obtain ⟨a, rfl⟩ := Int.eq_ofNat_of_zero_le h.1
  have := bits_or_u64_nat 0 a (by omega) (by omega)
  rw [Nat.zero_or] at this
  exact this
theorem or_add_right (q v : Int) (hq : 0 ≤ q ∧ q < 4294967296) (hv : 0 ≤ v ∧ v < 4294967296) : bits .or .u64 v (q * 4294967296) = v + q * 4294967296 := by
  obtain ⟨a, rfl⟩ := Int.eq_ofNat_of_zero_le hq.1
  obtain ⟨b, rfl⟩ := Int.eq_ofNat_of_zero_le hv.1
  have e : ((a : Int) * 4294967296) = ((a * 4294967296 : Nat) : Int) := by omega
  rw [e, bits_or_u64_nat _ _ (by omega) (by omega)]
  have h : b ||| a * 4294967296 = a * 4294967296 + b := by
    have := Nat.two_pow_add_eq_or_of_lt (i := 32) (b := b) (by omega) a
    rw [Nat.mul_comm, Nat.or_comm]
    exact this.symm
  rw [h]; omega

set_option maxHeartbeats 800000 in
theorem word_two (b o c : Nat) (x y : Int) (w : World) (hx : 0 ≤ x ∧ x < 4294967296) (hy : 0 ≤ y ∧ y < 4294967296) (k1 : w.cell? ⟨b, o, none⟩ = some (.int .u32 x)) (k2 : w.cell? ⟨b, o + 1, none⟩ = some (.int .u32 y)) :
    Calls Tryd.prog 65 #[.slice (some ⟨b, o, none⟩) 2 c] w fun e w' => e = .returned (.int .u64 (x + y * 4294967296)) ∧ w = w' := by
  have e1 := or_zero_left x (by omega)
  have e2 := or_add_right y x hy hx
  go_enter Tryd.func65, Tryd.ntmps65
  go_wp2
  refine wp_loop_rounds 3 ?_
  rw [rounds_succ]
  go_wp2
  rw [rounds_succ]
  go_wp2
  rw [rounds_succ]
  go_wp2
  go_ret
  exact ⟨rfl, rfl⟩

set_option maxHeartbeats 800000 in
theorem word_one (b o c : Nat) (x : Int) (w : World) (hx : 0 ≤ x ∧ x < 4294967296) (k1 : w.cell? ⟨b, o, none⟩ = some (.int .u32 x)) :
    Calls Tryd.prog 65 #[.slice (some ⟨b, o, none⟩) 1 c] w fun e w' => e = .returned (.int .u64 x) ∧ w = w' := by
  have e1 := or_zero_left x (by omega)
  go_enter Tryd.func65, Tryd.ntmps65
  go_wp2
  refine wp_loop_rounds 2 ?_
  rw [rounds_succ]
  go_wp2
  rw [rounds_succ]
  go_wp2
  go_ret
  exact ⟨rfl, rfl⟩
theorem word_zero (a : Option Addr) (c : Nat) (w : World) :
    Calls Tryd.prog 65 #[.slice a 0 c] w fun e w' => e = .returned (.int .u64 0) ∧ w = w' := by
  go_enter Tryd.func65, Tryd.ntmps65
  go_wp2
  refine wp_loop_rounds 1 ?_
  rw [rounds_succ]
  go_wp2
  go_ret
  exact ⟨rfl, rfl⟩

/-- nat.word of at most two limbs: the number. -/
theorem word_rd {B : Nat} {w : World} {v : Value} {xs : List Int} (h : Rd B w v xs) (h2 : xs.length ≤ 2) :
    Calls Tryd.prog 65 #[v] w fun e w' => e = .returned (.int .u64 (val xs)) ∧ w = w' := by
  obtain ⟨hl, a, c, rfl, _, _, _, r⟩ := h
  match xs, h2 with
  | [], _ => exact word_zero a c w
  | [x], _ =>
    rcases r with r | ⟨b, o, rfl, _, k⟩
    · simp at r
    · have e : val [x] = x := by simp [val]
      rw [e]
      exact word_one b o c x w (hl x (by simp)) (k 0 (by simp))
  | [x, y], _ =>
    rcases r with r | ⟨b, o, rfl, _, k⟩
    · simp at r
    · have e : val [x, y] = x + y * 4294967296 := by simp [val]; rw [Int.mul_comm]
      rw [e]
      exact word_two b o c x y w (hl x (by simp)) (hl y (by simp)) (k 0 (by simp)) (k 1 (by simp))

/-- A number as an int, if it is below 2^63. -/
def smallV (n : Int) : Value := .tuple #[.int .i64 (if n < 9223372036854775808 then n else 0), .bool (decide (n < 9223372036854775808))]

theorem smallV_lt {n : Int} (h : n < 9223372036854775808) : smallV n = .tuple #[.int .i64 n, .bool true] := by unfold smallV; rw [if_pos h, decide_eq_true h]
theorem smallV_ge {n : Int} (h : 9223372036854775808 ≤ n) : smallV n = .tuple #[.int .i64 0, .bool false] := by unfold smallV; rw [if_neg (by omega), decide_eq_false (by omega)]
theorem list_two {us : List Int} (h : us.length ≤ 2) : us = [] ∨ (∃ x, us = [x]) ∨ ∃ x y, us = [x, y] := by
  match us, h with
  | [], _ => exact Or.inl rfl
  | [x], _ => exact Or.inr (Or.inl ⟨x, rfl⟩)
  | [x, y], _ => exact Or.inr (Or.inr ⟨x, y, rfl⟩)

theorem isBits_63 {n : Int} {b : Nat} (h : isBits n b) (h0 : 0 ≤ n) : b ≤ 63 ↔ n < 9223372036854775808 := by
  have e : p2 63 = 9223372036854775808 := by decide
  rcases h with ⟨rfl, rfl⟩ | ⟨h1, h2, h3⟩
  · exact ⟨fun _ => by omega, fun _ => by omega⟩
  · constructor
    · intro hb
      have := p2_mono (j := b) (k := 63) hb
      omega
    · intro hn
      by_cases hb : b ≤ 63
      · exact hb
      · have := p2_mono (j := 63) (k := b - 1) (by omega)
        omega

theorem can_two {us : List Int} (h : can us) (hv : val us < 18446744073709551616) : us.length ≤ 2 := by
  by_cases hl : us.length ≤ 2
  · exact hl
  · have h1 := can_low h (by omega)
    have h2 := pw_mono (j := 2) (k := us.length - 1) (by omega)
    have e : pw 2 = 18446744073709551616 := by decide
    omega

set_option maxHeartbeats 800000 in
/-- nat.Small. -/
theorem small_any {B : Nat} {w : World} {v : Value} {xs : List Int} (h : Rd B w v xs) (hn : xs.length ≤ 17592186044415) :
    Calls Tryd.prog 57 #[v] w fun e w' => e = .returned (smallV (val xs)) ∧ w = w' := by
  have h0 := (val_bound h.lim).1
  have m := meant_rd h
  have t := h.meant
  have ct := tr_can h.lim
  rw [← tr_length] at m t
  have hv := val_tr xs
  go_enter Tryd.func57, Tryd.ntmps57
  go_wp2_with fail
  refine (bits_any h hn).mono ?_
  rintro e w' ⟨b, rfl, hb, hbl, rfl⟩
  have h63 := isBits_63 hb h0
  clear hb
  generalize hV : val xs = V at *
  by_cases hlt : V < 9223372036854775808
  · have hb63 : b ≤ 63 := h63.2 hlt
    have hl2 : (tr xs).length ≤ 2 := can_two ct (by omega)
    have hw := word_rd t hl2
    rw [hv] at hw
    have HV : Hid (val xs = V) := hV
    clear h63 hv hV
    go_wp2_with fail
    refine m.mono ?_
    rintro e w' ⟨rfl, rfl⟩
    go_wp2_with fail
    refine hw.mono ?_
    rintro e w' ⟨rfl, rfl⟩
    go_wp2
    go_ret2
    refine ⟨?_, rfl⟩
    rw [HV.out, smallV_lt hlt]; rfl
  · have hb63 : ¬ b ≤ 63 := fun hb => hlt (h63.1 hb)
    have hb63' : 63 < b := by omega
    have HV : Hid (val xs = V) := hV
    clear h63 hv hV
    go_wp2
    go_ret2
    refine ⟨?_, rfl⟩
    rw [HV.out, smallV_ge (by omega)]; rfl

end Go.Proofs.YtekmalpmcbjpeaaDoor

/- rat.OfInt at every int. -/
namespace Go.Proofs.YtekmalpmcbjpeaaDoor
set_option linter.unusedVariables false
set_option linter.unusedSimpArgs false
open Go.RowKit

theorem of_can (n : Int) (h0 : 0 ≤ n) (h1 : n < 18446744073709551616) : can (tr [n % 4294967296, n / 4294967296]) ∧ val (tr [n % 4294967296, n / 4294967296]) = n ∧ (tr [n % 4294967296, n / 4294967296]).length ≤ 2 := by
  refine ⟨tr_can (fun x hx => by simp at hx; omega), ?_, ?_⟩
  · rw [val_tr]; simp [val]; omega
  · have := tr_length_le [n % 4294967296, n / 4294967296]
    simpa using this
theorem of_num (n : Int) (h0 : 0 ≤ n) (h1 : n < 18446744073709551616) (w : World) : Calls Tryd.prog 37 #[.int .u64 n] w fun e w' => ∃ ns, can ns ∧ Hid (val ns = n) ∧ ns.length ≤ 2 ∧ Makes w e w' ns := by
  refine (of_any n h0 h1 w).mono ?_
  intro e w' h
  have hc := of_can n h0 h1
  exact ⟨_, hc.1, hc.2.1, hc.2.2, h⟩

/-- A whole number as a number. -/
def WholeIs (k : Int) (b : Bool) (ns ds : List Int) : Prop := b = decide (k < 0) ∧ can ns ∧ val ns = (if k < 0 then -k else k) ∧ ns.length ≤ 2 ∧ ds = [1]
theorem WholeIs.right {k : Int} {b : Bool} {ns ds : List Int} (h : WholeIs k b ns ds) : RightP b ns ds := by
  obtain ⟨rfl, cn, vn, ln, rfl⟩ := h
  refine ⟨by omega, by simp, cn, can_one, ?_, by simp, by rw [one_val]; exact gI_one_right _⟩
  rintro ⟨hb, hz⟩
  rw [(can_zero cn).1 hz] at vn
  rw [decide_eq_true_iff] at hb
  rw [if_pos hb] at vn
  omega
theorem WholeIs.sg {k : Int} {b : Bool} {ns ds : List Int} (h : WholeIs k b ns ds) : sg b (val ns) = k ∧ val ds = 1 := by
  obtain ⟨rfl, cn, vn, ln, rfl⟩ := h
  refine ⟨?_, one_val⟩
  rw [vn]
  by_cases hk : k < 0
  · rw [decide_eq_true hk, if_pos hk]; simp [Go.Proofs.YtekmalpmcbjpeaaDoor.sg]
  · rw [decide_eq_false hk, if_neg hk]; rfl
/-- A whole number's answer. -/
def WholeNum (w : World) (k : Int) (e : Ending) (w' : World) : Prop :=
  Below w.heap.size w w' ∧ ∃ b ns ds a1 c1 a2 c2, Hid (WholeIs k b ns ds) ∧ e = .returned (.agg #[.bool b, .slice a1 ns.length c1, .slice a2 ds.length c2]) ∧ Own w.heap.size w' (.slice a1 ns.length c1) ns ∧ Own w.heap.size w' (.slice a2 ds.length c2) ds

set_option maxRecDepth 100000 in
set_option maxHeartbeats 3200000 in
theorem ofInt_any (k : Int) (h0 : -9223372036854775808 ≤ k) (h1 : k < 9223372036854775808) (w : World) : Calls Tryd.prog 19 #[.int .i64 k] w fun e w' => WholeNum w k e w' := by
  have R := rvar_new w
  have g := below_alloc w (.cells #[.bool false, .slice none 0 0, .slice none 0 0] 24)
  go_enter Tryd.func19, Tryd.ntmps19
  by_cases hk : k < 0
  · have hkb : decide (k < 0) = true := decide_eq_true hk
    have hw : IntKind.u64.wrap (-IntKind.u64.wrap k) = -k := by rw [IntKind.wrap_u64, IntKind.wrap_u64]; omega
    go_wp2_with fail
    generalize hA : w.alloc (.cells #[.bool false, .slice none 0 0, .slice none 0 0] 24) = v at *
    clear hA
    refine (of_num (-k) (by omega) (by omega) _).mono ?_
    rintro e wa ⟨ns, cn, vn, ln, x1, y1, rfl, o1, ka⟩
    go_wp2_with fail
    refine (one_any _).mono ?_
    rintro e wb ⟨x2, y2, hb, o2, kb⟩
    obtain ⟨ds, hds⟩ : ∃ ds : List Int, ds = [1] := ⟨_, rfl⟩
    rw [← hds] at hb o2
    subst hb
    have HD : Hid (ds = [1]) := hds
    clear hds
    have t : Below v.heap.size v wb := ka.trans (kb.mono ka.size)
    have Rb := R.below t
    have q0 := Rb.box.c0
    have q1 := Rb.box.c1
    have q2 := Rb.box.c2
    have p0 := Rb.box.f0
    have p1 := Rb.box.f1
    have p2 := Rb.box.f2
    go_wp2
    have hR3 := Rb.box.set (.bool true) (.slice x1 ns.length y1) (.slice x2 ds.length y2)
    have r0 := hR3.c0
    have r1 := hR3.c1
    have r2 := hR3.c2
    refine bodyPost_ret (v := .agg #[.bool true, .slice x1 ns.length y1, .slice x2 ds.length y2]) (by simp [results, Tryd.results19, go_sem, r0, r1, r2]) rfl ?_
    exact ⟨Below.set3 (g.trans (t.mono g.size)) (Nat.le_refl _) _ _ _, true, ns, ds, x1, y1, x2, y2, ⟨hkb.symm, cn, by rw [vn.out, if_pos hk], ln, HD.out⟩, rfl, (Own.set3 (o1.below kb (Nat.le_refl _)) R.lt _ _ _).mono g.size, (Own.set3 (o2.mono ka.size) R.lt _ _ _).mono g.size⟩
  · have hkb : decide (k < 0) = false := decide_eq_false hk
    go_wp2_with fail
    generalize hA : w.alloc (.cells #[.bool false, .slice none 0 0, .slice none 0 0] 24) = v at *
    clear hA
    refine (of_num k (by omega) (by omega) _).mono ?_
    rintro e wa ⟨ns, cn, vn, ln, x1, y1, rfl, o1, ka⟩
    go_wp2_with fail
    refine (one_any _).mono ?_
    rintro e wb ⟨x2, y2, hb, o2, kb⟩
    obtain ⟨ds, hds⟩ : ∃ ds : List Int, ds = [1] := ⟨_, rfl⟩
    rw [← hds] at hb o2
    subst hb
    have HD : Hid (ds = [1]) := hds
    clear hds
    have t : Below v.heap.size v wb := ka.trans (kb.mono ka.size)
    have Rb := R.below t
    have q0 := Rb.box.c0
    have q1 := Rb.box.c1
    have q2 := Rb.box.c2
    have p0 := Rb.box.f0
    have p1 := Rb.box.f1
    have p2 := Rb.box.f2
    go_wp2
    have hR3 := Rb.box.set (.bool false) (.slice x1 ns.length y1) (.slice x2 ds.length y2)
    have r0 := hR3.c0
    have r1 := hR3.c1
    have r2 := hR3.c2
    refine bodyPost_ret (v := .agg #[.bool false, .slice x1 ns.length y1, .slice x2 ds.length y2]) (by simp [results, Tryd.results19, go_sem, r0, r1, r2]) rfl ?_
    exact ⟨Below.set3 (g.trans (t.mono g.size)) (Nat.le_refl _) _ _ _, false, ns, ds, x1, y1, x2, y2, ⟨hkb.symm, cn, by rw [vn.out, if_neg (by omega)], ln, HD.out⟩, rfl, (Own.set3 (o1.below kb (Nat.le_refl _)) R.lt _ _ _).mono g.size, (Own.set3 (o2.mono ka.size) R.lt _ _ _).mono g.size⟩
end Go.Proofs.YtekmalpmcbjpeaaDoor

/- rat.powerOf. -/
namespace Go.Proofs.YtekmalpmcbjpeaaDoor
set_option linter.unusedVariables false
set_option linter.unusedSimpArgs false
open Go.RowKit

theorem pow_huge (A : Int) (N : Nat) (hA : 2 ≤ A) (hN : 1024 ≤ N) : pw 32 ≤ A ^ N := by
  rw [pw_p2]
  have h1 : p2 (32 * 32) ≤ p2 N := p2_mono hN
  have h2 : (2 : Int) ^ N ≤ A ^ N := (pow_le_pow (by omega) hA N).1
  unfold p2 at *
  omega
theorem bits_small {A : Int} {b : Nat} (h : isBits A b) (hb : b < 2) : A = 0 ∨ A = 1 := by
  rcases h with ⟨rfl, _⟩ | ⟨h1, h2, h3⟩
  · exact Or.inl rfl
  · obtain rfl : b = 1 := by omega
    have e1 : p2 (1 - 1) = 1 := by decide
    have e2 : p2 1 = 2 := by decide
    omega
theorem bits_great {A : Int} {b : Nat} (h : isBits A b) (hb : ¬ b < 2) : 2 ≤ A := by
  rcases h with ⟨rfl, h⟩ | ⟨h1, h2, h3⟩
  · omega
  · have := p2_mono (j := 1) (k := b - 1) (by omega)
    have e2 : p2 1 = 2 := by decide
    omega
theorem pow_unit {A : Int} (h : A = 0 ∨ A = 1) (N : Nat) (hN : 0 < N) : A ^ N = A := by
  obtain ⟨k, rfl⟩ : ∃ k, N = k + 1 := ⟨N - 1, by omega⟩
  rcases h with rfl | rfl
  · rw [Int.pow_succ, Int.mul_zero]
  · exact one_pow' _
theorem one_lt_pw : (1 : Int) < pw 32 := by
  have := pw_mono (j := 1) (k := 32) (by omega)
  have e : pw 1 = 4294967296 := by decide
  omega

/-- What rat.powerOf answers. -/
def PowGives (w : World) (A : Int) (N : Nat) (e : Ending) (w' : World) : Prop :=
  Below w.heap.size w w' ∧ ((pw 32 ≤ A ^ N ∧ e = .returned (.tuple #[.slice none 0 0, .bool false])) ∨ (A ^ N < pw 32 ∧ ∃ zs a c, can zs ∧ val zs = A ^ N ∧ e = .returned (.tuple #[.slice a zs.length c, .bool true]) ∧ Own w.heap.size w' (.slice a zs.length c) zs))

set_option maxRecDepth 100000 in
set_option maxHeartbeats 3200000 in
theorem powerOf_any {B : Nat} {w : World} {a1 a2 : Option Addr} {c1 c2 : Nat} {xs ys : List Int} (ha : Rd B w (.slice a1 xs.length c1) xs) (hn : Rd B w (.slice a2 ys.length c2) ys) (hB : B ≤ w.heap.size) (cx : can xs) (lx : xs.length ≤ 32) (ly : ys.length ≤ 32) (hy : 0 < val ys) :
    Calls Tryd.prog 35 #[.slice a1 xs.length c1, .slice a2 ys.length c2] w fun e w' => PowGives w (val xs) (val ys).toNat e w' := by
  have HT : Hid (tr xs = xs) := can_inj (tr_can ha.lim) cx (val_tr xs)
  go_enter Tryd.func35, Tryd.ntmps35
  go_wp2_with fail
  refine (bits_any ha (by omega)).mono ?_
  rintro e w' ⟨b, rfl, hb, hbl, rfl⟩
  by_cases h2 : b < 2
  · have HE : Hid (val xs ^ (val ys).toNat = val xs ∧ val xs < pw 32) := by
      have h3 := bits_small hb h2
      have h4 := one_lt_pw
      exact ⟨pow_unit h3 _ (by omega), by omega⟩
    clear hb
    go_wp2_with fail
    refine (trim_rd ha (by omega)).mono ?_
    intro e wa hm
    rw [HT.out] at hm
    obtain ⟨a3, c3, rfl, o3, ka⟩ := hm
    go_wp2
    go_ret2
    exact ⟨ka, Or.inr ⟨by rw [HE.out.1]; exact HE.out.2, xs, a3, c3, cx, HE.out.1.symm, rfl, o3⟩⟩
  · have HA : Hid (2 ≤ val xs) := bits_great hb h2
    clear hb
    go_wp2_with fail
    refine (small_any hn (by omega)).mono ?_
    rintro e w' ⟨rfl, rfl⟩
    by_cases hs : val ys < 9223372036854775808
    · rw [smallV_lt hs]
      obtain ⟨n, en⟩ := Int.eq_ofNat_of_zero_le (Int.le_of_lt hy)
      have HN : Hid ((val ys).toNat = n) := by unfold Hid; rw [en]; exact Int.toNat_natCast n
      have hn9 : n < 9223372036854775808 := by omega
      rw [en]
      clear hs hy
      go_wp2_with fail
      refine (power_any n 32 ha hB (by omega) hn9 (by omega)).mono ?_
      rintro e wa ⟨ka, h3, h4⟩
      have HP : Hid ((pw 32 ≤ val xs ^ n → e = .returned (.tuple #[.slice none 0 0, .bool false])) ∧ (val xs ^ n < pw 32 → ∃ zs a c, can zs ∧ val zs = val xs ^ n ∧ e = .returned (.tuple #[.slice a zs.length c, .bool true]) ∧ Own w.heap.size wa (.slice a zs.length c) zs)) := ⟨h3, h4⟩
      clear h3 h4
      by_cases hf : val xs ^ n < pw 32
      · obtain ⟨zs, a3, c3, cz, vz, rfl, o3⟩ := HP.out.2 hf
        have HF : Hid (val xs ^ n < pw 32 ∧ val zs = val xs ^ n) := ⟨hf, vz⟩
        clear HP hf vz
        go_wp2
        go_ret2
        unfold PowGives
        rw [en, Int.toNat_natCast]
        exact ⟨ka, Or.inr ⟨HF.out.1, zs, a3, c3, cz, HF.out.2, rfl, o3⟩⟩
      · have hf' : pw 32 ≤ val xs ^ n := by omega
        obtain rfl := HP.out.1 hf'
        have HF : Hid (pw 32 ≤ val xs ^ n) := hf'
        clear HP hf hf'
        go_wp2
        go_ret2
        unfold PowGives
        rw [en, Int.toNat_natCast]
        exact ⟨ka, Or.inl ⟨HF.out, rfl⟩⟩
    · rw [smallV_ge (by omega)]
      have HF : Hid (pw 32 ≤ val xs ^ (val ys).toNat) := pow_huge _ _ HA.out (by omega)
      clear hs
      go_wp2
      go_ret2
      exact ⟨Below.refl _ _, Or.inl ⟨HF.out, rfl⟩⟩
end Go.Proofs.YtekmalpmcbjpeaaDoor

/- rat.Power. -/
namespace Go.Proofs.YtekmalpmcbjpeaaDoor
set_option linter.unusedVariables false
set_option linter.unusedSimpArgs false
open Go.RowKit

theorem and_one_u32 (x : Int) (h0 : 0 ≤ x) (h1 : x < 4294967296) : bits .and .u32 x 1 = x % 2 :=
  bits_mask .u32 32 (by decide) (fun n a b => by rw [IntKind.wrap_u32]; omega) 1 (by decide) x h0 (by omega)
theorem rd_head {B : Nat} {w : World} {a : Option Addr} {c : Nat} {xs : List Int} (h : Rd B w (.slice a xs.length c) xs) (h0 : 0 < xs.length) : ∃ pb po, a = some ⟨pb, po, none⟩ ∧ xs.length ≤ c ∧ c ≤ 9223372036854775807 := by
  obtain ⟨_, a', c', e, h1, h2, _, h3⟩ := h
  have ea : a' = a ∧ c' = c := by cases e; exact ⟨rfl, rfl⟩
  obtain ⟨rfl, rfl⟩ := ea
  rcases h3 with h3 | ⟨b, o, rfl, _, _⟩
  · omega
  · exact ⟨b, o, rfl, h1, h2⟩
theorem rd_cell0 {B pb po : Nat} {w : World} {c : Nat} {xs : List Int} (h : Rd B w (.slice (some ⟨pb, po, none⟩) xs.length c) xs) (h0 : 0 < xs.length) : w.cell? ⟨pb, po, none⟩ = some (.int .u32 (xs.getD 0 0)) := by
  obtain ⟨_, a', c', e, _, _, _, h3⟩ := h
  have ea : a' = some ⟨pb, po, none⟩ := by cases e; rfl
  subst ea
  rcases h3 with h3 | ⟨b, o, e2, _, k⟩
  · omega
  · have eb : b = pb ∧ o = po := by cases e2; exact ⟨rfl, rfl⟩
    obtain ⟨rfl, rfl⟩ := eb
    exact k 0 h0
theorem val_odd {xs : List Int} (h : lim xs) : val xs % 2 = xs.getD 0 0 % 2 ∧ 0 ≤ xs.getD 0 0 ∧ xs.getD 0 0 < 4294967296 := by
  match xs with
  | [] => exact ⟨by decide, by decide, by decide⟩
  | x :: t =>
    have hx := h x (by simp)
    refine ⟨?_, ?_, ?_⟩
    · simp only [val, List.getD_cons_zero]; omega
    · simpa using hx.1
    · simpa using hx.2
theorem sg_pow (b : Bool) (x : Int) (N : Nat) : sg b x ^ N = sg (b && decide (N % 2 = 1)) (x ^ N) := by
  cases b with
  | false => simp [sg]
  | true =>
    induction N with
    | zero => simp [sg]
    | succ N ih =>
      rw [Int.pow_succ, ih, Int.pow_succ]
      have e : ∀ y : Int, sg true y = -y := fun y => rfl
      by_cases h : N % 2 = 1
      · have h2 : ¬ (N + 1) % 2 = 1 := by omega
        simp only [h, h2, decide_true, decide_false, Bool.and_true, Bool.and_false, e, sg_false]
        rw [Int.neg_mul_neg]
      · have h2 : (N + 1) % 2 = 1 := by omega
        simp only [h, h2, decide_true, decide_false, Bool.and_true, Bool.and_false, e, sg_false]
        rw [Int.mul_neg]
theorem gI_pow {x y : Int} (hx : 0 ≤ x) (hy : 0 ≤ y) (h : gI x y = 1) (N : Nat) : gI (x ^ N) (y ^ N) = 1 := by
  obtain ⟨a, rfl⟩ := Int.eq_ofNat_of_zero_le hx
  obtain ⟨b, rfl⟩ := Int.eq_ofNat_of_zero_le hy
  unfold gI at *
  have e : ∀ c : Nat, ((c : Int) ^ N).toNat = c ^ N := fun c => by rw [← Int.natCast_pow]; exact Int.toNat_natCast _
  rw [e, e]
  simp only [Int.toNat_natCast] at h
  have h1 : Nat.Coprime a b := by unfold Nat.Coprime; omega
  have h2 : Nat.gcd (a ^ N) (b ^ N) = 1 := Nat.Coprime.pow N N h1
  rw [h2]
  rfl
theorem pow_right {b : Bool} {zs us : List Int} {A D : Int} {N : Nat} (cz : can zs) (cu : can us) (vz : val zs = A ^ N) (vu : val us = D ^ N) (hA : 0 ≤ A) (hD : 0 < D) (hg : gI A D = 1) (lz : A ^ N < pw 32) (lu : D ^ N < pw 32) :
    RightP (b && decide (0 < zs.length)) zs us ∧ zs.length ≤ 32 ∧ us.length ≤ 32 ∧ sg (b && decide (0 < zs.length)) (val zs) = sg b (A ^ N) := by
  have l1 : zs.length ≤ 32 := by rw [can_len_pw cz, vz]; exact lz
  have l2 : us.length ≤ 32 := by rw [can_len_pw cu, vu]; exact lu
  have hDp : 0 < D ^ N := Int.pow_pos hD
  have hus : 0 < us.length := by
    by_cases h : us.length = 0
    · have := (can_zero cu).1 h
      omega
    · omega
  refine ⟨⟨l1, l2, cz, cu, ?_, hus, by rw [vz, vu]; exact gI_pow hA (Int.le_of_lt hD) hg N⟩, l1, l2, ?_⟩
  · rintro ⟨h, hz⟩
    rw [decide_eq_false (by omega), Bool.and_false] at h
    cases h
  · by_cases h : 0 < zs.length
    · rw [decide_eq_true h, Bool.and_true, vz]
    · have h2 := (can_zero cz).1 (by omega)
      rw [h2, sg_zero, ← vz, h2, sg_zero]

/-- The size ahead, and the size below, of a power. -/
def pnum (c : Bool) (xn xd : List Int) : Int := if c = true then val xd else val xn
def pden (c : Bool) (xn xd : List Int) : Int := if c = true then val xn else val xd
/-- What rat.Power answers. -/
def Pows (w' : World) (k : Nat) (P : Prop) (bx : Bool) (xn xd : List Int) (cy : Bool) (yn yd : List Int) (b : Bool) (x1 : Option Addr) (n y1 : Nat) (x2 : Option Addr) (m y2 : Nat) (err : Int) : Prop :=
  (¬ P ∧ err = 22 ∧ b = false ∧ x1 = none ∧ n = 0 ∧ y1 = 0 ∧ x2 = none ∧ m = 0 ∧ y2 = 0) ∨
  (P ∧ (¬ yd = [1] ∨ (yd = [1] ∧ 0 < yn.length ∧ xn.length = 0 ∧ cy = true)) ∧ err = 3 ∧ b = false ∧ x1 = none ∧ n = 0 ∧ y1 = 0 ∧ x2 = none ∧ m = 0 ∧ y2 = 0) ∨
  (P ∧ yd = [1] ∧ 0 < yn.length ∧ ¬ (xn.length = 0 ∧ cy = true) ∧ err = 8 ∧ b = false ∧ x1 = none ∧ n = 0 ∧ y1 = 0 ∧ x2 = none ∧ m = 0 ∧ y2 = 0 ∧ (pw 32 ≤ pnum cy xn xd ^ (val yn).toNat ∨ pw 32 ≤ pden cy xn xd ^ (val yn).toNat)) ∨
  (P ∧ yd = [1] ∧ ¬ (0 < yn.length ∧ xn.length = 0 ∧ cy = true) ∧ err = 0 ∧ pnum cy xn xd ^ (val yn).toNat < pw 32 ∧ pden cy xn xd ^ (val yn).toNat < pw 32 ∧ ∃ ns ds, n = ns.length ∧ m = ds.length ∧ Own k w' (.slice x1 n y1) ns ∧ Own k w' (.slice x2 m y2) ds ∧ RightP b ns ds ∧ sg b (val ns) = sg bx (pnum cy xn xd) ^ (val yn).toNat ∧ val ds = pden cy xn xd ^ (val yn).toNat)
def PowsGive (w : World) (P : Prop) (bx : Bool) (xn xd : List Int) (cy : Bool) (yn yd : List Int) (e : Ending) (w' : World) : Prop :=
  Below w.heap.size w w' ∧ ∃ b x1 n y1 x2 m y2 err, e = .returned (.tuple #[.agg #[.bool b, .slice x1 n y1, .slice x2 m y2], .int .i64 err]) ∧ Hid (Pows w' w.heap.size P bx xn xd cy yn yd b x1 n y1 x2 m y2 err)

section
variable {w : World} {bx cy : Bool} {a1 a2 a3 a4 : Option Addr} {c1 c2 c3 c4 : Nat} {xn xd yn yd : List Int}

set_option maxRecDepth 100000 in
set_option maxHeartbeats 16000000 in
theorem power_rat (h1 : Rd w.heap.size w (.slice a1 xn.length c1) xn) (h2 : Rd w.heap.size w (.slice a2 xd.length c2) xd) (h3 : Rd w.heap.size w (.slice a3 yn.length c3) yn) (h4 : Rd w.heap.size w (.slice a4 yd.length c4) yd) :
    Calls Tryd.prog 18 #[.agg #[.bool bx, .slice a1 xn.length c1, .slice a2 xd.length c2], .agg #[.bool cy, .slice a3 yn.length c3, .slice a4 yd.length c4]] w fun e w' => PowsGive w (RightP bx xn xd ∧ RightP cy yn yd) bx xn xd cy yn yd e w' := by
  have I := in2_new w (.bool bx) (.slice a1 xn.length c1) (.slice a2 xd.length c2) (.bool cy) (.slice a3 yn.length c3) (.slice a4 yd.length c4)
  go_enter Tryd.func18, Tryd.ntmps18
  go_wp2_with fail
  generalize hA : ((((w.alloc (.cells #[.bool bx, .slice a1 xn.length c1, .slice a2 xd.length c2] 24)).alloc (.cells #[.bool cy, .slice a3 yn.length c3, .slice a4 yd.length c4] 24)).alloc (.cells #[.bool false, .slice none 0 0, .slice none 0 0] 24)).alloc (.cells #[.bool bx, .slice a1 xn.length c1, .slice a2 xd.length c2, .bool cy, .slice a3 yn.length c3, .slice a4 yd.length c4] 24)) = v0 at *
  clear hA
  obtain ⟨hX, hY, hR, hT, g, s0⟩ := I
  have X : NVar v0 w.heap.size bx a1 xn c1 a2 xd c2 := ⟨by omega, hX, (h1.below g).mono g.size, (h2.below g).mono g.size⟩
  have Y : NVar v0 (w.heap.size + 1) cy a3 yn c3 a4 yd c4 := ⟨by omega, hY, (h3.below g).mono g.size, (h4.below g).mono g.size⟩
  have R : RVar v0 (w.heap.size + 1 + 1) := ⟨by omega, hR⟩
  have s1 : w.heap.size ≤ w.heap.size + 1 + 1 := by omega
  clear hX hY hR h1 h2 h3 h4 s0
  refine (allRight2 hT X.rn X.rd Y.rn Y.rd (Nat.le_refl _)).mono ?_
  rintro e w0 ⟨⟨r, rfl, hr⟩, k0⟩
  replace X := X.below k0
  replace Y := Y.below k0
  replace R := R.below k0
  replace g := g.trans (k0.mono g.size)
  clear hT k0
  cases r with
  | false =>
    have HP : Hid (¬ (RightP bx xn xd ∧ RightP cy yn yd)) := fun h => by have := hr.2 h; cases this
    clear hr
    have q0 := R.box.c0
    have q1 := R.box.c1
    have q2 := R.box.c2
    have p0 := R.box.f0
    have p1 := R.box.f1
    have p2 := R.box.f2
    go_wp2
    have hR3 := R.box.set (.bool false) (.slice none 0 0) (.slice none 0 0)
    have r0 := hR3.c0
    have r1 := hR3.c1
    have r2 := hR3.c2
    refine bodyPost_ret (v := .tuple #[.agg #[.bool false, .slice none 0 0, .slice none 0 0], .int .i64 22]) (by simp [results, Tryd.results18, go_sem, r0, r1, r2]) rfl ?_
    exact ⟨Below.set3 g s1 _ _ _, false, none, 0, 0, none, 0, 0, 22, rfl, Or.inl ⟨HP.out, rfl, rfl, rfl, rfl, rfl, rfl, rfl, rfl⟩⟩
  | true =>
    have HP : Hid (RightP bx xn xd ∧ RightP cy yn yd) := hr.1 rfl
    clear hr
    obtain ⟨Y0, Y1, Y2⟩ := Y.cells
    go_wp2_with fail
    clear Y0 Y1 Y2
    refine (isOne_any Y.rd).mono ?_
    rintro e w1 ⟨rfl, rfl⟩
    by_cases hone : yd = [1]
    · have HO : Hid (yd = [1]) := hone
      rw [decide_eq_true hone]
      clear hone
      by_cases hy0 : 0 < yn.length
      · have hyb : ((yn.length : Int) == 0) = false := by rw [beq_eq_false_iff_ne]; omega
        by_cases hxz : xn.length = 0 ∧ cy = true
        · obtain ⟨hx0, rfl⟩ := hxz
          have hxb : ((xn.length : Int) == 0) = true := by rw [hx0]; rfl
          have Hx : Hid (xn.length = 0) := hx0
          clear hx0
          obtain ⟨X0, X1, X2⟩ := X.cells
          obtain ⟨Y0, Y1, Y2⟩ := Y.cells
          have q0 := R.box.c0
          have q1 := R.box.c1
          have q2 := R.box.c2
          have p0 := R.box.f0
          have p1 := R.box.f1
          have p2 := R.box.f2
          go_wp2
          have hR3 := R.box.set (.bool false) (.slice none 0 0) (.slice none 0 0)
          have r0 := hR3.c0
          have r1 := hR3.c1
          have r2 := hR3.c2
          refine bodyPost_ret (v := .tuple #[.agg #[.bool false, .slice none 0 0, .slice none 0 0], .int .i64 3]) (by simp [results, Tryd.results18, go_sem, r0, r1, r2]) rfl ?_
          exact ⟨Below.set3 g s1 _ _ _, false, none, 0, 0, none, 0, 0, 3, rfl, Or.inr (Or.inl ⟨HP.out, Or.inr ⟨HO.out, hy0, Hx.out, rfl⟩, rfl, rfl, rfl, rfl, rfl, rfl, rfl, rfl⟩)⟩
        · have HXZ : Hid (¬ (xn.length = 0 ∧ cy = true)) := hxz
          have hcs : (cy = true ∧ ((xn.length : Int) == 0) = false) ∨ (cy = false ∧ ((xn.length : Int) == 0) = false) ∨ (cy = false ∧ ((xn.length : Int) == 0) = true) := by
            cases cy with
            | false =>
              cases hh : ((xn.length : Int) == 0) with
              | false => exact Or.inr (Or.inl ⟨rfl, rfl⟩)
              | true => exact Or.inr (Or.inr ⟨rfl, rfl⟩)
            | true => refine Or.inl ⟨rfl, ?_⟩; rw [beq_eq_false_iff_ne]; intro h; exact hxz ⟨rfl.mp (by omega), rfl⟩
          have HXZ2 : Hid (¬ (0 < yn.length ∧ xn.length = 0 ∧ cy = true)) := fun h => hxz h.2
          clear hxz
          have HYv : Hid (0 < val yn) := by
            have h5 := can_low HP.out.2.2.2.1 hy0
            have h6 := pw_pos (yn.length - 1)
            unfold Hid
            omega
          have l1 := HP.out.1.1
          have l2 := HP.out.1.2.1
          have l3 := HP.out.2.1
          obtain ⟨pb, po, rfl, hyc, hym⟩ := rd_head Y.rn hy0
          have ho := val_odd HP.out.2.2.2.1.1
          have hw1 := and_one_u32 (yn.getD 0 0) ho.2.1 ho.2.2
          have HOd : Hid ((yn.getD 0 0 % 2 == 1) = decide ((val yn).toNat % 2 = 1)) := by
            unfold Hid
            have h5 := HYv.out
            by_cases h6 : yn.getD 0 0 % 2 = 1
            · rw [beq_iff_eq.2 h6, decide_eq_true (by omega)]
            · rw [beq_eq_false_iff_ne.2 h6, decide_eq_false (by omega)]
          clear ho
          generalize hy00 : yn.getD 0 0 = y00 at *
          rcases hcs with ⟨rfl, hxb⟩ | ⟨rfl, hxb⟩ | ⟨rfl, hxb⟩
          · have HN : Hid (pnum true xn xd = val xd ∧ pden true xn xd = val xn ∧ 0 ≤ val xd ∧ 0 < val xn ∧ gI (val xd) (val xn) = 1) := by
              have hx0 : 0 < xn.length := by
                rw [beq_eq_false_iff_ne] at hxb
                omega
              have h5 := can_low HP.out.1.2.2.1 hx0
              have h6 := pw_pos (xn.length - 1)
              exact ⟨rfl, rfl, Int.le_of_lt (right_pos HP.out.1).1, by omega, by rw [gI_comm]; exact HP.out.1.2.2.2.2.2.2⟩
            obtain ⟨X0, X1, X2⟩ := X.cells
            obtain ⟨Y0, Y1, Y2⟩ := Y.cells
            go_wp2
            go_quiet (fail)
            go_wp2_with fail
            clear X0 X1 X2 Y0 Y1 Y2
            have kq := below_drewN' (Below.refl w0.heap.size w0) nq
            replace X := X.below kq
            replace Y := Y.below kq
            replace R := R.below kq
            replace g := g.trans (kq.mono g.size)
            generalize hA : w0.drewN nq = v1 at *
            clear hA kq
            have g1 := g
            have R1 := R
            refine (powerOf_any X.rd Y.rn (Nat.le_refl _) HP.out.1.2.2.2.1 (by omega) (by omega) HYv.out).mono ?_
            rintro e w2 ⟨k2, ⟨hbig, rfl⟩ | ⟨hfit, zs, z1, z2, cz, vz, rfl, oz⟩⟩
            · replace X := X.below k2
              replace Y := Y.below k2
              replace R := R.below k2
              replace g := g.trans (k2.mono g.size)
              have HB : Hid (pw 32 ≤ pnum true xn xd ^ (val yn).toNat) := by unfold Hid; rw [HN.out.1]; exact hbig
              clear hbig
              have q0 := R.box.c0
              have q1 := R.box.c1
              have q2 := R.box.c2
              have p0 := R.box.f0
              have p1 := R.box.f1
              have p2 := R.box.f2
              go_wp2
              have hR3 := R.box.set (.bool false) (.slice none 0 0) (.slice none 0 0)
              have r0 := hR3.c0
              have r1 := hR3.c1
              have r2 := hR3.c2
              refine bodyPost_ret (v := .tuple #[.agg #[.bool false, .slice none 0 0, .slice none 0 0], .int .i64 8]) (by simp [results, Tryd.results18, go_sem, r0, r1, r2]) rfl ?_
              exact ⟨Below.set3 g s1 _ _ _, false, none, 0, 0, none, 0, 0, 8, rfl, Or.inr (Or.inr (Or.inl ⟨HP.out, HO.out, hy0, (by first | exact HXZ.out | (have h5 := HXZ.out; simpa using h5)), rfl, rfl, rfl, rfl, rfl, rfl, rfl, rfl, Or.inl HB.out⟩))⟩
            · replace X := X.below k2
              replace Y := Y.below k2
              replace R := R.below k2
              replace g := g.trans (k2.mono g.size)
              have HZ : Hid (val zs = val xd ^ (val yn).toNat ∧ val xd ^ (val yn).toNat < pw 32) := ⟨vz, hfit⟩
              clear vz hfit
              obtain ⟨Y0, Y1, Y2⟩ := Y.cells
              go_wp2_with fail
              clear Y0 Y1 Y2
              refine (powerOf_any X.rn Y.rn (Nat.le_refl _) HP.out.1.2.2.1 (by omega) (by omega) HYv.out).mono ?_
              rintro e w3 ⟨k3, ⟨hbig, rfl⟩ | ⟨hfit, us, u1, u2, cu, vu, rfl, ou⟩⟩
              · replace X := X.below k3
                replace Y := Y.below k3
                replace R := R.below k3
                replace g := g.trans (k3.mono g.size)
                have HB : Hid (pw 32 ≤ pden true xn xd ^ (val yn).toNat) := by unfold Hid; rw [HN.out.2.1]; exact hbig
                clear hbig
                have q0 := R.box.c0
                have q1 := R.box.c1
                have q2 := R.box.c2
                have p0 := R.box.f0
                have p1 := R.box.f1
                have p2 := R.box.f2
                go_wp2
                have hR3 := R.box.set (.bool false) (.slice none 0 0) (.slice none 0 0)
                have r0 := hR3.c0
                have r1 := hR3.c1
                have r2 := hR3.c2
                refine bodyPost_ret (v := .tuple #[.agg #[.bool false, .slice none 0 0, .slice none 0 0], .int .i64 8]) (by simp [results, Tryd.results18, go_sem, r0, r1, r2]) rfl ?_
                exact ⟨Below.set3 g s1 _ _ _, false, none, 0, 0, none, 0, 0, 8, rfl, Or.inr (Or.inr (Or.inl ⟨HP.out, HO.out, hy0, (by first | exact HXZ.out | (have h5 := HXZ.out; simpa using h5)), rfl, rfl, rfl, rfl, rfl, rfl, rfl, rfl, Or.inr HB.out⟩))⟩
              · replace X := X.below k3
                replace Y := Y.below k3
                replace R := R.below k3
                replace g := g.trans (k3.mono g.size)
                have HU : Hid (val us = val xn ^ (val yn).toNat ∧ val xn ^ (val yn).toNat < pw 32) := ⟨vu, hfit⟩
                clear vu hfit
                have HR := fun b : Bool => pow_right (b := b) (A := val xd) (D := val xn) (N := (val yn).toNat) cz cu HZ.out.1 HU.out.1 HN.out.2.2.1 HN.out.2.2.2.1 HN.out.2.2.2.2 HZ.out.2 HU.out.2
                have lz := (HR true).2.1
                have lu := (HR true).2.2.1
                have HR2 : Hid (∀ b : Bool, RightP (b && decide (0 < zs.length)) zs us ∧ sg (b && decide (0 < zs.length)) (val zs) = sg b (val xd ^ (val yn).toNat)) := fun b => ⟨(HR b).1, (HR b).2.2.2⟩
                clear HR
                have t3 : Below v1.heap.size v1 w3 := k2.trans (k3.mono k2.size)
                have hc0 := rd_cell0 Y.rn hy0
                rw [hy00] at hc0
                have ozz := oz.below k3 (Nat.le_refl _)
                have ouu : Own v1.heap.size w3 (.slice u1 us.length u2) us := ou.mono k2.size
                by_cases hodd : y00 % 2 = 1
                · have hob : (y00 % 2 == 1) = true := by rw [beq_iff_eq]; exact hodd
                  have HOd2 : Hid (decide ((val yn).toNat % 2 = 1) = true) := by unfold Hid; rw [← HOd.out]; exact hob
                  cases bx with
                  | false =>
                    obtain ⟨X0, X1, X2⟩ := X.cells
                    obtain ⟨Y0, Y1, Y2⟩ := Y.cells
                    go_wp2_with fail
                    clear X0 X1 X2 Y0 Y1 Y2
                    refine (limited_ok false z1 u1 zs.length z2 us.length u2 _ lz lu).mono ?_
                    rintro e w4 ⟨rfl, k4⟩
                    have HR3 := HR2.out false
                    have HS : Hid (RightP (false && decide (0 < zs.length)) zs us ∧ sg (false && decide (0 < zs.length)) (val zs) = sg false (pnum true xn xd) ^ (val yn).toNat) := ⟨HR3.1, by rw [HR3.2, HN.out.1, sg_pow, HOd2.out]; rfl⟩
                    clear HR3
                    replace X := X.below k4
                    replace Y := Y.below k4
                    replace R := R.below k4
                    replace g := g.trans (k4.mono g.size)
                    have hbb : (false && decide (0 < zs.length)) = false := by rfl
                    rw [hbb] at HS
                    clear hbb
                    have q0 := R.box.c0
                    have q1 := R.box.c1
                    have q2 := R.box.c2
                    have p0 := R.box.f0
                    have p1 := R.box.f1
                    have p2 := R.box.f2
                    go_wp2
                    have hR3 := R.box.set (.bool false) (.slice z1 zs.length z2) (.slice u1 us.length u2)
                    have r0 := hR3.c0
                    have r1 := hR3.c1
                    have r2 := hR3.c2
                    refine bodyPost_ret (v := .tuple #[.agg #[.bool false, .slice z1 zs.length z2, .slice u1 us.length u2], .int .i64 0]) (by simp [results, Tryd.results18, go_sem, r0, r1, r2]) rfl ?_
                    exact ⟨Below.set3 g s1 _ _ _, false, z1, zs.length, z2, u1, us.length, u2, 0, rfl, Or.inr (Or.inr (Or.inr ⟨HP.out, HO.out, (by first | exact HXZ2.out | (have h5 := HXZ2.out; simpa using h5)), rfl, by rw [HN.out.1]; exact HZ.out.2, by rw [HN.out.2.1]; exact HU.out.2, zs, us, rfl, rfl, (Own.set3 (ozz.below k4 (Nat.le_refl _)) R1.lt _ _ _).mono g1.size, (Own.set3 (ouu.below k4 (Nat.le_refl _)) R1.lt _ _ _).mono g1.size, HS.out.1, HS.out.2, by rw [HN.out.2.1]; exact HU.out.1⟩))⟩
                  | true =>
                    obtain ⟨X0, X1, X2⟩ := X.cells
                    obtain ⟨Y0, Y1, Y2⟩ := Y.cells
                    go_wp2_with fail
                    clear X0 X1 X2 Y0 Y1 Y2
                    refine (limited_ok true z1 u1 zs.length z2 us.length u2 _ lz lu).mono ?_
                    rintro e w4 ⟨rfl, k4⟩
                    have HR3 := HR2.out true
                    have HS : Hid (RightP (true && decide (0 < zs.length)) zs us ∧ sg (true && decide (0 < zs.length)) (val zs) = sg true (pnum true xn xd) ^ (val yn).toNat) := ⟨HR3.1, by rw [HR3.2, HN.out.1, sg_pow, HOd2.out]; rfl⟩
                    clear HR3
                    replace X := X.below k4
                    replace Y := Y.below k4
                    replace R := R.below k4
                    replace g := g.trans (k4.mono g.size)
                    have hbb : (true && decide (0 < zs.length)) = decide (0 < zs.length) := by rw [Bool.true_and]
                    rw [hbb] at HS
                    clear hbb
                    generalize decide (0 < zs.length) = bz at *
                    have q0 := R.box.c0
                    have q1 := R.box.c1
                    have q2 := R.box.c2
                    have p0 := R.box.f0
                    have p1 := R.box.f1
                    have p2 := R.box.f2
                    go_wp2
                    have hR3 := R.box.set (.bool bz) (.slice z1 zs.length z2) (.slice u1 us.length u2)
                    have r0 := hR3.c0
                    have r1 := hR3.c1
                    have r2 := hR3.c2
                    refine bodyPost_ret (v := .tuple #[.agg #[.bool bz, .slice z1 zs.length z2, .slice u1 us.length u2], .int .i64 0]) (by simp [results, Tryd.results18, go_sem, r0, r1, r2]) rfl ?_
                    exact ⟨Below.set3 g s1 _ _ _, bz, z1, zs.length, z2, u1, us.length, u2, 0, rfl, Or.inr (Or.inr (Or.inr ⟨HP.out, HO.out, (by first | exact HXZ2.out | (have h5 := HXZ2.out; simpa using h5)), rfl, by rw [HN.out.1]; exact HZ.out.2, by rw [HN.out.2.1]; exact HU.out.2, zs, us, rfl, rfl, (Own.set3 (ozz.below k4 (Nat.le_refl _)) R1.lt _ _ _).mono g1.size, (Own.set3 (ouu.below k4 (Nat.le_refl _)) R1.lt _ _ _).mono g1.size, HS.out.1, HS.out.2, by rw [HN.out.2.1]; exact HU.out.1⟩))⟩
                · have hob : (y00 % 2 == 1) = false := by rw [beq_eq_false_iff_ne]; exact hodd
                  have HOd2 : Hid (decide ((val yn).toNat % 2 = 1) = false) := by unfold Hid; rw [← HOd.out]; exact hob
                  cases bx with
                  | false =>
                    obtain ⟨X0, X1, X2⟩ := X.cells
                    obtain ⟨Y0, Y1, Y2⟩ := Y.cells
                    go_wp2_with fail
                    clear X0 X1 X2 Y0 Y1 Y2
                    refine (limited_ok false z1 u1 zs.length z2 us.length u2 _ lz lu).mono ?_
                    rintro e w4 ⟨rfl, k4⟩
                    have HR3 := HR2.out false
                    have HS : Hid (RightP (false && decide (0 < zs.length)) zs us ∧ sg (false && decide (0 < zs.length)) (val zs) = sg false (pnum true xn xd) ^ (val yn).toNat) := ⟨HR3.1, by rw [HR3.2, HN.out.1, sg_pow, HOd2.out]; rfl⟩
                    clear HR3
                    replace X := X.below k4
                    replace Y := Y.below k4
                    replace R := R.below k4
                    replace g := g.trans (k4.mono g.size)
                    have hbb : (false && decide (0 < zs.length)) = false := by rfl
                    rw [hbb] at HS
                    clear hbb
                    have q0 := R.box.c0
                    have q1 := R.box.c1
                    have q2 := R.box.c2
                    have p0 := R.box.f0
                    have p1 := R.box.f1
                    have p2 := R.box.f2
                    go_wp2
                    have hR3 := R.box.set (.bool false) (.slice z1 zs.length z2) (.slice u1 us.length u2)
                    have r0 := hR3.c0
                    have r1 := hR3.c1
                    have r2 := hR3.c2
                    refine bodyPost_ret (v := .tuple #[.agg #[.bool false, .slice z1 zs.length z2, .slice u1 us.length u2], .int .i64 0]) (by simp [results, Tryd.results18, go_sem, r0, r1, r2]) rfl ?_
                    exact ⟨Below.set3 g s1 _ _ _, false, z1, zs.length, z2, u1, us.length, u2, 0, rfl, Or.inr (Or.inr (Or.inr ⟨HP.out, HO.out, (by first | exact HXZ2.out | (have h5 := HXZ2.out; simpa using h5)), rfl, by rw [HN.out.1]; exact HZ.out.2, by rw [HN.out.2.1]; exact HU.out.2, zs, us, rfl, rfl, (Own.set3 (ozz.below k4 (Nat.le_refl _)) R1.lt _ _ _).mono g1.size, (Own.set3 (ouu.below k4 (Nat.le_refl _)) R1.lt _ _ _).mono g1.size, HS.out.1, HS.out.2, by rw [HN.out.2.1]; exact HU.out.1⟩))⟩
                  | true =>
                    obtain ⟨X0, X1, X2⟩ := X.cells
                    obtain ⟨Y0, Y1, Y2⟩ := Y.cells
                    go_wp2_with fail
                    clear X0 X1 X2 Y0 Y1 Y2
                    refine (limited_ok false z1 u1 zs.length z2 us.length u2 _ lz lu).mono ?_
                    rintro e w4 ⟨rfl, k4⟩
                    have HR3 := HR2.out false
                    have HS : Hid (RightP (false && decide (0 < zs.length)) zs us ∧ sg (false && decide (0 < zs.length)) (val zs) = sg true (pnum true xn xd) ^ (val yn).toNat) := ⟨HR3.1, by rw [HR3.2, HN.out.1, sg_pow, HOd2.out]; rfl⟩
                    clear HR3
                    replace X := X.below k4
                    replace Y := Y.below k4
                    replace R := R.below k4
                    replace g := g.trans (k4.mono g.size)
                    have hbb : (false && decide (0 < zs.length)) = false := by rfl
                    rw [hbb] at HS
                    clear hbb
                    have q0 := R.box.c0
                    have q1 := R.box.c1
                    have q2 := R.box.c2
                    have p0 := R.box.f0
                    have p1 := R.box.f1
                    have p2 := R.box.f2
                    go_wp2
                    have hR3 := R.box.set (.bool false) (.slice z1 zs.length z2) (.slice u1 us.length u2)
                    have r0 := hR3.c0
                    have r1 := hR3.c1
                    have r2 := hR3.c2
                    refine bodyPost_ret (v := .tuple #[.agg #[.bool false, .slice z1 zs.length z2, .slice u1 us.length u2], .int .i64 0]) (by simp [results, Tryd.results18, go_sem, r0, r1, r2]) rfl ?_
                    exact ⟨Below.set3 g s1 _ _ _, false, z1, zs.length, z2, u1, us.length, u2, 0, rfl, Or.inr (Or.inr (Or.inr ⟨HP.out, HO.out, (by first | exact HXZ2.out | (have h5 := HXZ2.out; simpa using h5)), rfl, by rw [HN.out.1]; exact HZ.out.2, by rw [HN.out.2.1]; exact HU.out.2, zs, us, rfl, rfl, (Own.set3 (ozz.below k4 (Nat.le_refl _)) R1.lt _ _ _).mono g1.size, (Own.set3 (ouu.below k4 (Nat.le_refl _)) R1.lt _ _ _).mono g1.size, HS.out.1, HS.out.2, by rw [HN.out.2.1]; exact HU.out.1⟩))⟩
          · have HN : Hid (pnum false xn xd = val xn ∧ pden false xn xd = val xd ∧ 0 ≤ val xn ∧ 0 < val xd ∧ gI (val xn) (val xd) = 1) := by
              exact ⟨rfl, rfl, (right_pos HP.out.1).2, (right_pos HP.out.1).1, HP.out.1.2.2.2.2.2.2⟩
            obtain ⟨X0, X1, X2⟩ := X.cells
            obtain ⟨Y0, Y1, Y2⟩ := Y.cells
            go_wp2
            go_quiet (fail)
            go_wp2_with fail
            clear X0 X1 X2 Y0 Y1 Y2
            have kq := below_drewN' (Below.refl w0.heap.size w0) nq
            replace X := X.below kq
            replace Y := Y.below kq
            replace R := R.below kq
            replace g := g.trans (kq.mono g.size)
            generalize hA : w0.drewN nq = v1 at *
            clear hA kq
            have g1 := g
            have R1 := R
            refine (powerOf_any X.rn Y.rn (Nat.le_refl _) HP.out.1.2.2.1 (by omega) (by omega) HYv.out).mono ?_
            rintro e w2 ⟨k2, ⟨hbig, rfl⟩ | ⟨hfit, zs, z1, z2, cz, vz, rfl, oz⟩⟩
            · replace X := X.below k2
              replace Y := Y.below k2
              replace R := R.below k2
              replace g := g.trans (k2.mono g.size)
              have HB : Hid (pw 32 ≤ pnum false xn xd ^ (val yn).toNat) := by unfold Hid; rw [HN.out.1]; exact hbig
              clear hbig
              have q0 := R.box.c0
              have q1 := R.box.c1
              have q2 := R.box.c2
              have p0 := R.box.f0
              have p1 := R.box.f1
              have p2 := R.box.f2
              go_wp2
              have hR3 := R.box.set (.bool false) (.slice none 0 0) (.slice none 0 0)
              have r0 := hR3.c0
              have r1 := hR3.c1
              have r2 := hR3.c2
              refine bodyPost_ret (v := .tuple #[.agg #[.bool false, .slice none 0 0, .slice none 0 0], .int .i64 8]) (by simp [results, Tryd.results18, go_sem, r0, r1, r2]) rfl ?_
              exact ⟨Below.set3 g s1 _ _ _, false, none, 0, 0, none, 0, 0, 8, rfl, Or.inr (Or.inr (Or.inl ⟨HP.out, HO.out, hy0, (by first | exact HXZ.out | (have h5 := HXZ.out; simpa using h5)), rfl, rfl, rfl, rfl, rfl, rfl, rfl, rfl, Or.inl HB.out⟩))⟩
            · replace X := X.below k2
              replace Y := Y.below k2
              replace R := R.below k2
              replace g := g.trans (k2.mono g.size)
              have HZ : Hid (val zs = val xn ^ (val yn).toNat ∧ val xn ^ (val yn).toNat < pw 32) := ⟨vz, hfit⟩
              clear vz hfit
              obtain ⟨Y0, Y1, Y2⟩ := Y.cells
              go_wp2_with fail
              clear Y0 Y1 Y2
              refine (powerOf_any X.rd Y.rn (Nat.le_refl _) HP.out.1.2.2.2.1 (by omega) (by omega) HYv.out).mono ?_
              rintro e w3 ⟨k3, ⟨hbig, rfl⟩ | ⟨hfit, us, u1, u2, cu, vu, rfl, ou⟩⟩
              · replace X := X.below k3
                replace Y := Y.below k3
                replace R := R.below k3
                replace g := g.trans (k3.mono g.size)
                have HB : Hid (pw 32 ≤ pden false xn xd ^ (val yn).toNat) := by unfold Hid; rw [HN.out.2.1]; exact hbig
                clear hbig
                have q0 := R.box.c0
                have q1 := R.box.c1
                have q2 := R.box.c2
                have p0 := R.box.f0
                have p1 := R.box.f1
                have p2 := R.box.f2
                go_wp2
                have hR3 := R.box.set (.bool false) (.slice none 0 0) (.slice none 0 0)
                have r0 := hR3.c0
                have r1 := hR3.c1
                have r2 := hR3.c2
                refine bodyPost_ret (v := .tuple #[.agg #[.bool false, .slice none 0 0, .slice none 0 0], .int .i64 8]) (by simp [results, Tryd.results18, go_sem, r0, r1, r2]) rfl ?_
                exact ⟨Below.set3 g s1 _ _ _, false, none, 0, 0, none, 0, 0, 8, rfl, Or.inr (Or.inr (Or.inl ⟨HP.out, HO.out, hy0, (by first | exact HXZ.out | (have h5 := HXZ.out; simpa using h5)), rfl, rfl, rfl, rfl, rfl, rfl, rfl, rfl, Or.inr HB.out⟩))⟩
              · replace X := X.below k3
                replace Y := Y.below k3
                replace R := R.below k3
                replace g := g.trans (k3.mono g.size)
                have HU : Hid (val us = val xd ^ (val yn).toNat ∧ val xd ^ (val yn).toNat < pw 32) := ⟨vu, hfit⟩
                clear vu hfit
                have HR := fun b : Bool => pow_right (b := b) (A := val xn) (D := val xd) (N := (val yn).toNat) cz cu HZ.out.1 HU.out.1 HN.out.2.2.1 HN.out.2.2.2.1 HN.out.2.2.2.2 HZ.out.2 HU.out.2
                have lz := (HR true).2.1
                have lu := (HR true).2.2.1
                have HR2 : Hid (∀ b : Bool, RightP (b && decide (0 < zs.length)) zs us ∧ sg (b && decide (0 < zs.length)) (val zs) = sg b (val xn ^ (val yn).toNat)) := fun b => ⟨(HR b).1, (HR b).2.2.2⟩
                clear HR
                have t3 : Below v1.heap.size v1 w3 := k2.trans (k3.mono k2.size)
                have hc0 := rd_cell0 Y.rn hy0
                rw [hy00] at hc0
                have ozz := oz.below k3 (Nat.le_refl _)
                have ouu : Own v1.heap.size w3 (.slice u1 us.length u2) us := ou.mono k2.size
                by_cases hodd : y00 % 2 = 1
                · have hob : (y00 % 2 == 1) = true := by rw [beq_iff_eq]; exact hodd
                  have HOd2 : Hid (decide ((val yn).toNat % 2 = 1) = true) := by unfold Hid; rw [← HOd.out]; exact hob
                  cases bx with
                  | false =>
                    obtain ⟨X0, X1, X2⟩ := X.cells
                    obtain ⟨Y0, Y1, Y2⟩ := Y.cells
                    go_wp2_with fail
                    clear X0 X1 X2 Y0 Y1 Y2
                    refine (limited_ok false z1 u1 zs.length z2 us.length u2 _ lz lu).mono ?_
                    rintro e w4 ⟨rfl, k4⟩
                    have HR3 := HR2.out false
                    have HS : Hid (RightP (false && decide (0 < zs.length)) zs us ∧ sg (false && decide (0 < zs.length)) (val zs) = sg false (pnum false xn xd) ^ (val yn).toNat) := ⟨HR3.1, by rw [HR3.2, HN.out.1, sg_pow, HOd2.out]; rfl⟩
                    clear HR3
                    replace X := X.below k4
                    replace Y := Y.below k4
                    replace R := R.below k4
                    replace g := g.trans (k4.mono g.size)
                    have hbb : (false && decide (0 < zs.length)) = false := by rfl
                    rw [hbb] at HS
                    clear hbb
                    have q0 := R.box.c0
                    have q1 := R.box.c1
                    have q2 := R.box.c2
                    have p0 := R.box.f0
                    have p1 := R.box.f1
                    have p2 := R.box.f2
                    go_wp2
                    have hR3 := R.box.set (.bool false) (.slice z1 zs.length z2) (.slice u1 us.length u2)
                    have r0 := hR3.c0
                    have r1 := hR3.c1
                    have r2 := hR3.c2
                    refine bodyPost_ret (v := .tuple #[.agg #[.bool false, .slice z1 zs.length z2, .slice u1 us.length u2], .int .i64 0]) (by simp [results, Tryd.results18, go_sem, r0, r1, r2]) rfl ?_
                    exact ⟨Below.set3 g s1 _ _ _, false, z1, zs.length, z2, u1, us.length, u2, 0, rfl, Or.inr (Or.inr (Or.inr ⟨HP.out, HO.out, (by first | exact HXZ2.out | (have h5 := HXZ2.out; simpa using h5)), rfl, by rw [HN.out.1]; exact HZ.out.2, by rw [HN.out.2.1]; exact HU.out.2, zs, us, rfl, rfl, (Own.set3 (ozz.below k4 (Nat.le_refl _)) R1.lt _ _ _).mono g1.size, (Own.set3 (ouu.below k4 (Nat.le_refl _)) R1.lt _ _ _).mono g1.size, HS.out.1, HS.out.2, by rw [HN.out.2.1]; exact HU.out.1⟩))⟩
                  | true =>
                    obtain ⟨X0, X1, X2⟩ := X.cells
                    obtain ⟨Y0, Y1, Y2⟩ := Y.cells
                    go_wp2_with fail
                    clear X0 X1 X2 Y0 Y1 Y2
                    refine (limited_ok true z1 u1 zs.length z2 us.length u2 _ lz lu).mono ?_
                    rintro e w4 ⟨rfl, k4⟩
                    have HR3 := HR2.out true
                    have HS : Hid (RightP (true && decide (0 < zs.length)) zs us ∧ sg (true && decide (0 < zs.length)) (val zs) = sg true (pnum false xn xd) ^ (val yn).toNat) := ⟨HR3.1, by rw [HR3.2, HN.out.1, sg_pow, HOd2.out]; rfl⟩
                    clear HR3
                    replace X := X.below k4
                    replace Y := Y.below k4
                    replace R := R.below k4
                    replace g := g.trans (k4.mono g.size)
                    have hbb : (true && decide (0 < zs.length)) = decide (0 < zs.length) := by rw [Bool.true_and]
                    rw [hbb] at HS
                    clear hbb
                    generalize decide (0 < zs.length) = bz at *
                    have q0 := R.box.c0
                    have q1 := R.box.c1
                    have q2 := R.box.c2
                    have p0 := R.box.f0
                    have p1 := R.box.f1
                    have p2 := R.box.f2
                    go_wp2
                    have hR3 := R.box.set (.bool bz) (.slice z1 zs.length z2) (.slice u1 us.length u2)
                    have r0 := hR3.c0
                    have r1 := hR3.c1
                    have r2 := hR3.c2
                    refine bodyPost_ret (v := .tuple #[.agg #[.bool bz, .slice z1 zs.length z2, .slice u1 us.length u2], .int .i64 0]) (by simp [results, Tryd.results18, go_sem, r0, r1, r2]) rfl ?_
                    exact ⟨Below.set3 g s1 _ _ _, bz, z1, zs.length, z2, u1, us.length, u2, 0, rfl, Or.inr (Or.inr (Or.inr ⟨HP.out, HO.out, (by first | exact HXZ2.out | (have h5 := HXZ2.out; simpa using h5)), rfl, by rw [HN.out.1]; exact HZ.out.2, by rw [HN.out.2.1]; exact HU.out.2, zs, us, rfl, rfl, (Own.set3 (ozz.below k4 (Nat.le_refl _)) R1.lt _ _ _).mono g1.size, (Own.set3 (ouu.below k4 (Nat.le_refl _)) R1.lt _ _ _).mono g1.size, HS.out.1, HS.out.2, by rw [HN.out.2.1]; exact HU.out.1⟩))⟩
                · have hob : (y00 % 2 == 1) = false := by rw [beq_eq_false_iff_ne]; exact hodd
                  have HOd2 : Hid (decide ((val yn).toNat % 2 = 1) = false) := by unfold Hid; rw [← HOd.out]; exact hob
                  cases bx with
                  | false =>
                    obtain ⟨X0, X1, X2⟩ := X.cells
                    obtain ⟨Y0, Y1, Y2⟩ := Y.cells
                    go_wp2_with fail
                    clear X0 X1 X2 Y0 Y1 Y2
                    refine (limited_ok false z1 u1 zs.length z2 us.length u2 _ lz lu).mono ?_
                    rintro e w4 ⟨rfl, k4⟩
                    have HR3 := HR2.out false
                    have HS : Hid (RightP (false && decide (0 < zs.length)) zs us ∧ sg (false && decide (0 < zs.length)) (val zs) = sg false (pnum false xn xd) ^ (val yn).toNat) := ⟨HR3.1, by rw [HR3.2, HN.out.1, sg_pow, HOd2.out]; rfl⟩
                    clear HR3
                    replace X := X.below k4
                    replace Y := Y.below k4
                    replace R := R.below k4
                    replace g := g.trans (k4.mono g.size)
                    have hbb : (false && decide (0 < zs.length)) = false := by rfl
                    rw [hbb] at HS
                    clear hbb
                    have q0 := R.box.c0
                    have q1 := R.box.c1
                    have q2 := R.box.c2
                    have p0 := R.box.f0
                    have p1 := R.box.f1
                    have p2 := R.box.f2
                    go_wp2
                    have hR3 := R.box.set (.bool false) (.slice z1 zs.length z2) (.slice u1 us.length u2)
                    have r0 := hR3.c0
                    have r1 := hR3.c1
                    have r2 := hR3.c2
                    refine bodyPost_ret (v := .tuple #[.agg #[.bool false, .slice z1 zs.length z2, .slice u1 us.length u2], .int .i64 0]) (by simp [results, Tryd.results18, go_sem, r0, r1, r2]) rfl ?_
                    exact ⟨Below.set3 g s1 _ _ _, false, z1, zs.length, z2, u1, us.length, u2, 0, rfl, Or.inr (Or.inr (Or.inr ⟨HP.out, HO.out, (by first | exact HXZ2.out | (have h5 := HXZ2.out; simpa using h5)), rfl, by rw [HN.out.1]; exact HZ.out.2, by rw [HN.out.2.1]; exact HU.out.2, zs, us, rfl, rfl, (Own.set3 (ozz.below k4 (Nat.le_refl _)) R1.lt _ _ _).mono g1.size, (Own.set3 (ouu.below k4 (Nat.le_refl _)) R1.lt _ _ _).mono g1.size, HS.out.1, HS.out.2, by rw [HN.out.2.1]; exact HU.out.1⟩))⟩
                  | true =>
                    obtain ⟨X0, X1, X2⟩ := X.cells
                    obtain ⟨Y0, Y1, Y2⟩ := Y.cells
                    go_wp2_with fail
                    clear X0 X1 X2 Y0 Y1 Y2
                    refine (limited_ok false z1 u1 zs.length z2 us.length u2 _ lz lu).mono ?_
                    rintro e w4 ⟨rfl, k4⟩
                    have HR3 := HR2.out false
                    have HS : Hid (RightP (false && decide (0 < zs.length)) zs us ∧ sg (false && decide (0 < zs.length)) (val zs) = sg true (pnum false xn xd) ^ (val yn).toNat) := ⟨HR3.1, by rw [HR3.2, HN.out.1, sg_pow, HOd2.out]; rfl⟩
                    clear HR3
                    replace X := X.below k4
                    replace Y := Y.below k4
                    replace R := R.below k4
                    replace g := g.trans (k4.mono g.size)
                    have hbb : (false && decide (0 < zs.length)) = false := by rfl
                    rw [hbb] at HS
                    clear hbb
                    have q0 := R.box.c0
                    have q1 := R.box.c1
                    have q2 := R.box.c2
                    have p0 := R.box.f0
                    have p1 := R.box.f1
                    have p2 := R.box.f2
                    go_wp2
                    have hR3 := R.box.set (.bool false) (.slice z1 zs.length z2) (.slice u1 us.length u2)
                    have r0 := hR3.c0
                    have r1 := hR3.c1
                    have r2 := hR3.c2
                    refine bodyPost_ret (v := .tuple #[.agg #[.bool false, .slice z1 zs.length z2, .slice u1 us.length u2], .int .i64 0]) (by simp [results, Tryd.results18, go_sem, r0, r1, r2]) rfl ?_
                    exact ⟨Below.set3 g s1 _ _ _, false, z1, zs.length, z2, u1, us.length, u2, 0, rfl, Or.inr (Or.inr (Or.inr ⟨HP.out, HO.out, (by first | exact HXZ2.out | (have h5 := HXZ2.out; simpa using h5)), rfl, by rw [HN.out.1]; exact HZ.out.2, by rw [HN.out.2.1]; exact HU.out.2, zs, us, rfl, rfl, (Own.set3 (ozz.below k4 (Nat.le_refl _)) R1.lt _ _ _).mono g1.size, (Own.set3 (ouu.below k4 (Nat.le_refl _)) R1.lt _ _ _).mono g1.size, HS.out.1, HS.out.2, by rw [HN.out.2.1]; exact HU.out.1⟩))⟩
          · have HN : Hid (pnum false xn xd = val xn ∧ pden false xn xd = val xd ∧ 0 ≤ val xn ∧ 0 < val xd ∧ gI (val xn) (val xd) = 1) := by
              exact ⟨rfl, rfl, (right_pos HP.out.1).2, (right_pos HP.out.1).1, HP.out.1.2.2.2.2.2.2⟩
            obtain ⟨X0, X1, X2⟩ := X.cells
            obtain ⟨Y0, Y1, Y2⟩ := Y.cells
            go_wp2
            go_quiet (fail)
            go_wp2_with fail
            clear X0 X1 X2 Y0 Y1 Y2
            have kq := below_drewN' (Below.refl w0.heap.size w0) nq
            replace X := X.below kq
            replace Y := Y.below kq
            replace R := R.below kq
            replace g := g.trans (kq.mono g.size)
            generalize hA : w0.drewN nq = v1 at *
            clear hA kq
            have g1 := g
            have R1 := R
            refine (powerOf_any X.rn Y.rn (Nat.le_refl _) HP.out.1.2.2.1 (by omega) (by omega) HYv.out).mono ?_
            rintro e w2 ⟨k2, ⟨hbig, rfl⟩ | ⟨hfit, zs, z1, z2, cz, vz, rfl, oz⟩⟩
            · replace X := X.below k2
              replace Y := Y.below k2
              replace R := R.below k2
              replace g := g.trans (k2.mono g.size)
              have HB : Hid (pw 32 ≤ pnum false xn xd ^ (val yn).toNat) := by unfold Hid; rw [HN.out.1]; exact hbig
              clear hbig
              have q0 := R.box.c0
              have q1 := R.box.c1
              have q2 := R.box.c2
              have p0 := R.box.f0
              have p1 := R.box.f1
              have p2 := R.box.f2
              go_wp2
              have hR3 := R.box.set (.bool false) (.slice none 0 0) (.slice none 0 0)
              have r0 := hR3.c0
              have r1 := hR3.c1
              have r2 := hR3.c2
              refine bodyPost_ret (v := .tuple #[.agg #[.bool false, .slice none 0 0, .slice none 0 0], .int .i64 8]) (by simp [results, Tryd.results18, go_sem, r0, r1, r2]) rfl ?_
              exact ⟨Below.set3 g s1 _ _ _, false, none, 0, 0, none, 0, 0, 8, rfl, Or.inr (Or.inr (Or.inl ⟨HP.out, HO.out, hy0, (by first | exact HXZ.out | (have h5 := HXZ.out; simpa using h5)), rfl, rfl, rfl, rfl, rfl, rfl, rfl, rfl, Or.inl HB.out⟩))⟩
            · replace X := X.below k2
              replace Y := Y.below k2
              replace R := R.below k2
              replace g := g.trans (k2.mono g.size)
              have HZ : Hid (val zs = val xn ^ (val yn).toNat ∧ val xn ^ (val yn).toNat < pw 32) := ⟨vz, hfit⟩
              clear vz hfit
              obtain ⟨Y0, Y1, Y2⟩ := Y.cells
              go_wp2_with fail
              clear Y0 Y1 Y2
              refine (powerOf_any X.rd Y.rn (Nat.le_refl _) HP.out.1.2.2.2.1 (by omega) (by omega) HYv.out).mono ?_
              rintro e w3 ⟨k3, ⟨hbig, rfl⟩ | ⟨hfit, us, u1, u2, cu, vu, rfl, ou⟩⟩
              · replace X := X.below k3
                replace Y := Y.below k3
                replace R := R.below k3
                replace g := g.trans (k3.mono g.size)
                have HB : Hid (pw 32 ≤ pden false xn xd ^ (val yn).toNat) := by unfold Hid; rw [HN.out.2.1]; exact hbig
                clear hbig
                have q0 := R.box.c0
                have q1 := R.box.c1
                have q2 := R.box.c2
                have p0 := R.box.f0
                have p1 := R.box.f1
                have p2 := R.box.f2
                go_wp2
                have hR3 := R.box.set (.bool false) (.slice none 0 0) (.slice none 0 0)
                have r0 := hR3.c0
                have r1 := hR3.c1
                have r2 := hR3.c2
                refine bodyPost_ret (v := .tuple #[.agg #[.bool false, .slice none 0 0, .slice none 0 0], .int .i64 8]) (by simp [results, Tryd.results18, go_sem, r0, r1, r2]) rfl ?_
                exact ⟨Below.set3 g s1 _ _ _, false, none, 0, 0, none, 0, 0, 8, rfl, Or.inr (Or.inr (Or.inl ⟨HP.out, HO.out, hy0, (by first | exact HXZ.out | (have h5 := HXZ.out; simpa using h5)), rfl, rfl, rfl, rfl, rfl, rfl, rfl, rfl, Or.inr HB.out⟩))⟩
              · replace X := X.below k3
                replace Y := Y.below k3
                replace R := R.below k3
                replace g := g.trans (k3.mono g.size)
                have HU : Hid (val us = val xd ^ (val yn).toNat ∧ val xd ^ (val yn).toNat < pw 32) := ⟨vu, hfit⟩
                clear vu hfit
                have HR := fun b : Bool => pow_right (b := b) (A := val xn) (D := val xd) (N := (val yn).toNat) cz cu HZ.out.1 HU.out.1 HN.out.2.2.1 HN.out.2.2.2.1 HN.out.2.2.2.2 HZ.out.2 HU.out.2
                have lz := (HR true).2.1
                have lu := (HR true).2.2.1
                have HR2 : Hid (∀ b : Bool, RightP (b && decide (0 < zs.length)) zs us ∧ sg (b && decide (0 < zs.length)) (val zs) = sg b (val xn ^ (val yn).toNat)) := fun b => ⟨(HR b).1, (HR b).2.2.2⟩
                clear HR
                have t3 : Below v1.heap.size v1 w3 := k2.trans (k3.mono k2.size)
                have hc0 := rd_cell0 Y.rn hy0
                rw [hy00] at hc0
                have ozz := oz.below k3 (Nat.le_refl _)
                have ouu : Own v1.heap.size w3 (.slice u1 us.length u2) us := ou.mono k2.size
                by_cases hodd : y00 % 2 = 1
                · have hob : (y00 % 2 == 1) = true := by rw [beq_iff_eq]; exact hodd
                  have HOd2 : Hid (decide ((val yn).toNat % 2 = 1) = true) := by unfold Hid; rw [← HOd.out]; exact hob
                  cases bx with
                  | false =>
                    obtain ⟨X0, X1, X2⟩ := X.cells
                    obtain ⟨Y0, Y1, Y2⟩ := Y.cells
                    go_wp2_with fail
                    clear X0 X1 X2 Y0 Y1 Y2
                    refine (limited_ok false z1 u1 zs.length z2 us.length u2 _ lz lu).mono ?_
                    rintro e w4 ⟨rfl, k4⟩
                    have HR3 := HR2.out false
                    have HS : Hid (RightP (false && decide (0 < zs.length)) zs us ∧ sg (false && decide (0 < zs.length)) (val zs) = sg false (pnum false xn xd) ^ (val yn).toNat) := ⟨HR3.1, by rw [HR3.2, HN.out.1, sg_pow, HOd2.out]; rfl⟩
                    clear HR3
                    replace X := X.below k4
                    replace Y := Y.below k4
                    replace R := R.below k4
                    replace g := g.trans (k4.mono g.size)
                    have hbb : (false && decide (0 < zs.length)) = false := by rfl
                    rw [hbb] at HS
                    clear hbb
                    have q0 := R.box.c0
                    have q1 := R.box.c1
                    have q2 := R.box.c2
                    have p0 := R.box.f0
                    have p1 := R.box.f1
                    have p2 := R.box.f2
                    go_wp2
                    have hR3 := R.box.set (.bool false) (.slice z1 zs.length z2) (.slice u1 us.length u2)
                    have r0 := hR3.c0
                    have r1 := hR3.c1
                    have r2 := hR3.c2
                    refine bodyPost_ret (v := .tuple #[.agg #[.bool false, .slice z1 zs.length z2, .slice u1 us.length u2], .int .i64 0]) (by simp [results, Tryd.results18, go_sem, r0, r1, r2]) rfl ?_
                    exact ⟨Below.set3 g s1 _ _ _, false, z1, zs.length, z2, u1, us.length, u2, 0, rfl, Or.inr (Or.inr (Or.inr ⟨HP.out, HO.out, (by first | exact HXZ2.out | (have h5 := HXZ2.out; simpa using h5)), rfl, by rw [HN.out.1]; exact HZ.out.2, by rw [HN.out.2.1]; exact HU.out.2, zs, us, rfl, rfl, (Own.set3 (ozz.below k4 (Nat.le_refl _)) R1.lt _ _ _).mono g1.size, (Own.set3 (ouu.below k4 (Nat.le_refl _)) R1.lt _ _ _).mono g1.size, HS.out.1, HS.out.2, by rw [HN.out.2.1]; exact HU.out.1⟩))⟩
                  | true =>
                    obtain ⟨X0, X1, X2⟩ := X.cells
                    obtain ⟨Y0, Y1, Y2⟩ := Y.cells
                    go_wp2_with fail
                    clear X0 X1 X2 Y0 Y1 Y2
                    refine (limited_ok true z1 u1 zs.length z2 us.length u2 _ lz lu).mono ?_
                    rintro e w4 ⟨rfl, k4⟩
                    have HR3 := HR2.out true
                    have HS : Hid (RightP (true && decide (0 < zs.length)) zs us ∧ sg (true && decide (0 < zs.length)) (val zs) = sg true (pnum false xn xd) ^ (val yn).toNat) := ⟨HR3.1, by rw [HR3.2, HN.out.1, sg_pow, HOd2.out]; rfl⟩
                    clear HR3
                    replace X := X.below k4
                    replace Y := Y.below k4
                    replace R := R.below k4
                    replace g := g.trans (k4.mono g.size)
                    have hbb : (true && decide (0 < zs.length)) = decide (0 < zs.length) := by rw [Bool.true_and]
                    rw [hbb] at HS
                    clear hbb
                    generalize decide (0 < zs.length) = bz at *
                    have q0 := R.box.c0
                    have q1 := R.box.c1
                    have q2 := R.box.c2
                    have p0 := R.box.f0
                    have p1 := R.box.f1
                    have p2 := R.box.f2
                    go_wp2
                    have hR3 := R.box.set (.bool bz) (.slice z1 zs.length z2) (.slice u1 us.length u2)
                    have r0 := hR3.c0
                    have r1 := hR3.c1
                    have r2 := hR3.c2
                    refine bodyPost_ret (v := .tuple #[.agg #[.bool bz, .slice z1 zs.length z2, .slice u1 us.length u2], .int .i64 0]) (by simp [results, Tryd.results18, go_sem, r0, r1, r2]) rfl ?_
                    exact ⟨Below.set3 g s1 _ _ _, bz, z1, zs.length, z2, u1, us.length, u2, 0, rfl, Or.inr (Or.inr (Or.inr ⟨HP.out, HO.out, (by first | exact HXZ2.out | (have h5 := HXZ2.out; simpa using h5)), rfl, by rw [HN.out.1]; exact HZ.out.2, by rw [HN.out.2.1]; exact HU.out.2, zs, us, rfl, rfl, (Own.set3 (ozz.below k4 (Nat.le_refl _)) R1.lt _ _ _).mono g1.size, (Own.set3 (ouu.below k4 (Nat.le_refl _)) R1.lt _ _ _).mono g1.size, HS.out.1, HS.out.2, by rw [HN.out.2.1]; exact HU.out.1⟩))⟩
                · have hob : (y00 % 2 == 1) = false := by rw [beq_eq_false_iff_ne]; exact hodd
                  have HOd2 : Hid (decide ((val yn).toNat % 2 = 1) = false) := by unfold Hid; rw [← HOd.out]; exact hob
                  cases bx with
                  | false =>
                    obtain ⟨X0, X1, X2⟩ := X.cells
                    obtain ⟨Y0, Y1, Y2⟩ := Y.cells
                    go_wp2_with fail
                    clear X0 X1 X2 Y0 Y1 Y2
                    refine (limited_ok false z1 u1 zs.length z2 us.length u2 _ lz lu).mono ?_
                    rintro e w4 ⟨rfl, k4⟩
                    have HR3 := HR2.out false
                    have HS : Hid (RightP (false && decide (0 < zs.length)) zs us ∧ sg (false && decide (0 < zs.length)) (val zs) = sg false (pnum false xn xd) ^ (val yn).toNat) := ⟨HR3.1, by rw [HR3.2, HN.out.1, sg_pow, HOd2.out]; rfl⟩
                    clear HR3
                    replace X := X.below k4
                    replace Y := Y.below k4
                    replace R := R.below k4
                    replace g := g.trans (k4.mono g.size)
                    have hbb : (false && decide (0 < zs.length)) = false := by rfl
                    rw [hbb] at HS
                    clear hbb
                    have q0 := R.box.c0
                    have q1 := R.box.c1
                    have q2 := R.box.c2
                    have p0 := R.box.f0
                    have p1 := R.box.f1
                    have p2 := R.box.f2
                    go_wp2
                    have hR3 := R.box.set (.bool false) (.slice z1 zs.length z2) (.slice u1 us.length u2)
                    have r0 := hR3.c0
                    have r1 := hR3.c1
                    have r2 := hR3.c2
                    refine bodyPost_ret (v := .tuple #[.agg #[.bool false, .slice z1 zs.length z2, .slice u1 us.length u2], .int .i64 0]) (by simp [results, Tryd.results18, go_sem, r0, r1, r2]) rfl ?_
                    exact ⟨Below.set3 g s1 _ _ _, false, z1, zs.length, z2, u1, us.length, u2, 0, rfl, Or.inr (Or.inr (Or.inr ⟨HP.out, HO.out, (by first | exact HXZ2.out | (have h5 := HXZ2.out; simpa using h5)), rfl, by rw [HN.out.1]; exact HZ.out.2, by rw [HN.out.2.1]; exact HU.out.2, zs, us, rfl, rfl, (Own.set3 (ozz.below k4 (Nat.le_refl _)) R1.lt _ _ _).mono g1.size, (Own.set3 (ouu.below k4 (Nat.le_refl _)) R1.lt _ _ _).mono g1.size, HS.out.1, HS.out.2, by rw [HN.out.2.1]; exact HU.out.1⟩))⟩
                  | true =>
                    obtain ⟨X0, X1, X2⟩ := X.cells
                    obtain ⟨Y0, Y1, Y2⟩ := Y.cells
                    go_wp2_with fail
                    clear X0 X1 X2 Y0 Y1 Y2
                    refine (limited_ok false z1 u1 zs.length z2 us.length u2 _ lz lu).mono ?_
                    rintro e w4 ⟨rfl, k4⟩
                    have HR3 := HR2.out false
                    have HS : Hid (RightP (false && decide (0 < zs.length)) zs us ∧ sg (false && decide (0 < zs.length)) (val zs) = sg true (pnum false xn xd) ^ (val yn).toNat) := ⟨HR3.1, by rw [HR3.2, HN.out.1, sg_pow, HOd2.out]; rfl⟩
                    clear HR3
                    replace X := X.below k4
                    replace Y := Y.below k4
                    replace R := R.below k4
                    replace g := g.trans (k4.mono g.size)
                    have hbb : (false && decide (0 < zs.length)) = false := by rfl
                    rw [hbb] at HS
                    clear hbb
                    have q0 := R.box.c0
                    have q1 := R.box.c1
                    have q2 := R.box.c2
                    have p0 := R.box.f0
                    have p1 := R.box.f1
                    have p2 := R.box.f2
                    go_wp2
                    have hR3 := R.box.set (.bool false) (.slice z1 zs.length z2) (.slice u1 us.length u2)
                    have r0 := hR3.c0
                    have r1 := hR3.c1
                    have r2 := hR3.c2
                    refine bodyPost_ret (v := .tuple #[.agg #[.bool false, .slice z1 zs.length z2, .slice u1 us.length u2], .int .i64 0]) (by simp [results, Tryd.results18, go_sem, r0, r1, r2]) rfl ?_
                    exact ⟨Below.set3 g s1 _ _ _, false, z1, zs.length, z2, u1, us.length, u2, 0, rfl, Or.inr (Or.inr (Or.inr ⟨HP.out, HO.out, (by first | exact HXZ2.out | (have h5 := HXZ2.out; simpa using h5)), rfl, by rw [HN.out.1]; exact HZ.out.2, by rw [HN.out.2.1]; exact HU.out.2, zs, us, rfl, rfl, (Own.set3 (ozz.below k4 (Nat.le_refl _)) R1.lt _ _ _).mono g1.size, (Own.set3 (ouu.below k4 (Nat.le_refl _)) R1.lt _ _ _).mono g1.size, HS.out.1, HS.out.2, by rw [HN.out.2.1]; exact HU.out.1⟩))⟩
      · have hyb : ((yn.length : Int) == 0) = true := by rw [beq_iff_eq]; omega
        have HY0 : Hid ((val yn).toNat = 0 ∧ ¬ 0 < yn.length) := by
          refine ⟨?_, hy0⟩
          rw [(can_zero HP.out.2.2.2.1).1 (by omega)]
          rfl
        have g1 := g
        have R1 := R
        obtain ⟨Y0, Y1, Y2⟩ := Y.cells
        go_wp2_with fail
        clear Y0 Y1 Y2
        refine (ofInt_any 1 (by omega) (by omega) _).mono ?_
        rintro e w2 ⟨k2, b1, ns, ds, x1, y1, x2, y2, HW, rfl, on, od⟩
        replace X := X.below k2
        replace Y := Y.below k2
        replace R := R.below k2
        replace g := g.trans (k2.mono g.size)
        have q0 := R.box.c0
        have q1 := R.box.c1
        have q2 := R.box.c2
        have p0 := R.box.f0
        have p1 := R.box.f1
        have p2 := R.box.f2
        go_wp2
        have hR3 := R.box.set (.bool b1) (.slice x1 ns.length y1) (.slice x2 ds.length y2)
        have r0 := hR3.c0
        have r1 := hR3.c1
        have r2 := hR3.c2
        refine bodyPost_ret (v := .tuple #[.agg #[.bool b1, .slice x1 ns.length y1, .slice x2 ds.length y2], .int .i64 0]) (by simp [results, Tryd.results18, go_sem, r0, r1, r2]) rfl ?_
        exact ⟨Below.set3 g s1 _ _ _, b1, x1, ns.length, y1, x2, ds.length, y2, 0, rfl, Or.inr (Or.inr (Or.inr ⟨HP.out, HO.out, fun h => HY0.out.2 h.1, rfl, by rw [HY0.out.1, Int.pow_zero]; exact one_lt_pw, by rw [HY0.out.1, Int.pow_zero]; exact one_lt_pw, ns, ds, rfl, rfl, (Own.set3 on R1.lt _ _ _).mono g1.size, (Own.set3 od R1.lt _ _ _).mono g1.size, HW.out.right, by rw [HY0.out.1, HW.out.sg.1, Int.pow_zero], by rw [HY0.out.1, HW.out.sg.2, Int.pow_zero]⟩))⟩
    · have HO : Hid (¬ yd = [1]) := hone
      rw [decide_eq_false hone]
      clear hone
      have q0 := R.box.c0
      have q1 := R.box.c1
      have q2 := R.box.c2
      have p0 := R.box.f0
      have p1 := R.box.f1
      have p2 := R.box.f2
      go_wp2
      have hR3 := R.box.set (.bool false) (.slice none 0 0) (.slice none 0 0)
      have r0 := hR3.c0
      have r1 := hR3.c1
      have r2 := hR3.c2
      refine bodyPost_ret (v := .tuple #[.agg #[.bool false, .slice none 0 0, .slice none 0 0], .int .i64 3]) (by simp [results, Tryd.results18, go_sem, r0, r1, r2]) rfl ?_
      exact ⟨Below.set3 g s1 _ _ _, false, none, 0, 0, none, 0, 0, 3, rfl, Or.inr (Or.inl ⟨HP.out, Or.inl HO.out, rfl, rfl, rfl, rfl, rfl, rfl, rfl, rfl⟩)⟩
end
end Go.Proofs.YtekmalpmcbjpeaaDoor

/- The walk over RatPowers: x to a power, times x, is x to one more. -/
namespace Go.Proofs.YtekmalpmcbjpeaaDoor
set_option linter.unusedVariables false
set_option linter.unusedSimpArgs false
open Go.RowKit

/-- What a power's answer reads as. -/
def PowIs (bx : Bool) (xn xd : List Int) (k : Int) (b : Bool) (ns ds : List Int) (err : Int) : Prop :=
  (err = 22 ↔ ¬ RightP bx xn xd) ∧ (err = 0 → RightP bx xn xd ∧ RightP b ns ds ∧ ¬ (k < 0 ∧ xn.length = 0) ∧ sg b (val ns) = sg bx (pnum (decide (k < 0)) xn xd) ^ k.natAbs ∧ val ds = pden (decide (k < 0)) xn xd ^ k.natAbs)
theorem pows_is {w' : World} {kk : Nat} {bx : Bool} {xn xd : List Int} {k : Int} {by' : Bool} {yn yd : List Int} {b : Bool} {x1 x2 : Option Addr} {n y1 m y2 : Nat} {err : Int} (HW : WholeIs k by' yn yd) (h : Pows w' kk (RightP bx xn xd ∧ RightP by' yn yd) bx xn xd by' yn yd b x1 n y1 x2 m y2 err) :
    ∃ ns ds, n = ns.length ∧ m = ds.length ∧ Own kk w' (.slice x1 ns.length y1) ns ∧ Own kk w' (.slice x2 ds.length y2) ds ∧ Hid (PowIs bx xn xd k b ns ds err) := by
  have hr := HW.right
  have nil : Own kk w' (.slice none ([] : List Int).length 0) [] := ⟨lim_nil, World.ownsRow_nil _ _ _ _⟩
  have hN : (val yn).toNat = k.natAbs := by
    obtain ⟨_, _, vn, _, _⟩ := HW
    rw [vn]
    split <;> omega
  have hb : by' = decide (k < 0) := HW.1
  rcases h with ⟨hp, rfl, rfl, rfl, rfl, rfl, rfl, rfl, rfl⟩ | ⟨hp, _, rfl, rfl, rfl, rfl, rfl, rfl, rfl, rfl⟩ | ⟨hp, _, _, _, rfl, rfl, rfl, rfl, rfl, rfl, rfl, rfl, _⟩ | ⟨hp, _, hnz, rfl, _, _, ns, ds, rfl, rfl, on, od, hr2, hv, hd⟩
  · exact ⟨[], [], rfl, rfl, nil, nil, ⟨fun _ h => hp ⟨h, hr⟩, fun _ => rfl⟩, fun h => by omega⟩
  · exact ⟨[], [], rfl, rfl, nil, nil, ⟨fun h => by omega, fun h => absurd hp.1 h⟩, fun h => by omega⟩
  · exact ⟨[], [], rfl, rfl, nil, nil, ⟨fun h => by omega, fun h => absurd hp.1 h⟩, fun h => by omega⟩
  · refine ⟨ns, ds, rfl, rfl, on, od, ⟨fun h => by omega, fun h => absurd hp.1 h⟩, fun _ => ⟨hp.1, hr2, ?_, ?_, ?_⟩⟩
    · rintro ⟨hk, hx0⟩
      refine hnz ⟨?_, hx0, by rw [hb]; exact decide_eq_true hk⟩
      by_cases h0 : yn.length = 0
      · have h1 := (can_zero hr.2.2.1).1 h0
        have h2 := HW.2.2.1
        rw [h1, if_pos hk] at h2
        omega
      · omega
    · rw [hv, hN, hb]
    · rw [hd, hN, hb]

theorem sg_both (b : Bool) (x y : Int) : sg b x * sg b y = x * y := by unfold sg; cases b <;> simp [Int.neg_mul_neg]
theorem pow_step (bx : Bool) (xn xd : List Int) (K : Int) : sg bx (pnum (decide (K + 1 < 0)) xn xd) ^ (K + 1).natAbs * (pden (decide (K < 0)) xn xd ^ K.natAbs * val xd) = sg bx (pnum (decide (K < 0)) xn xd) ^ K.natAbs * sg bx (val xn) * pden (decide (K + 1 < 0)) xn xd ^ (K + 1).natAbs := by
  have pt : pnum true xn xd = val xd ∧ pden true xn xd = val xn := ⟨rfl, rfl⟩
  have pf : pnum false xn xd = val xn ∧ pden false xn xd = val xd := ⟨rfl, rfl⟩
  rcases Int.lt_or_le K (-1) with h | h
  · rw [decide_eq_true (show K < 0 by omega), decide_eq_true (show K + 1 < 0 by omega), pt.1, pt.2]
    obtain ⟨j, hj⟩ : ∃ j, (K + 1).natAbs = j ∧ K.natAbs = j + 1 := ⟨(K + 1).natAbs, rfl, by omega⟩
    rw [hj.1, hj.2, Int.pow_succ, Int.pow_succ]
    have e1 : sg bx (val xd) ^ j * (val xn ^ j * val xn * val xd) = sg bx (val xd) ^ j * val xn ^ j * (val xd * val xn) := by ac_rfl
    have e2 : sg bx (val xd) ^ j * sg bx (val xd) * sg bx (val xn) * val xn ^ j = sg bx (val xd) ^ j * val xn ^ j * (sg bx (val xd) * sg bx (val xn)) := by ac_rfl
    rw [e1, e2, sg_both]
  · rcases Int.lt_or_le K 0 with h2 | h2
    · obtain rfl : K = -1 := by omega
      rw [decide_eq_true (show (-1 : Int) < 0 by omega), decide_eq_false (show ¬ (-1 : Int) + 1 < 0 by omega), pt.1, pt.2, pf.1, pf.2]
      have e0 : ((-1 : Int) + 1).natAbs = 0 := rfl
      have e1 : (-1 : Int).natAbs = 1 := rfl
      rw [e0, e1, Int.pow_zero, Int.pow_zero, Int.pow_succ, Int.pow_succ, Int.pow_zero, Int.pow_zero, Int.one_mul, Int.one_mul, Int.one_mul, Int.mul_one, sg_both, Int.mul_comm]
    · rw [decide_eq_false (show ¬ K < 0 by omega), decide_eq_false (show ¬ K + 1 < 0 by omega), pf.1, pf.2]
      obtain ⟨j, hj⟩ : ∃ j, K.natAbs = j ∧ (K + 1).natAbs = j + 1 := ⟨K.natAbs, rfl, by omega⟩
      rw [hj.1, hj.2, Int.pow_succ, Int.pow_succ]
      all_goals ac_rfl

set_option maxRecDepth 100000 in
set_option maxHeartbeats 32000000 in
theorem ratPowers_walk {w : World} {bx : Bool} {a1 a2 : Option Addr} {c1 c2 : Nat} {xn xd : List Int} {n : Int} (h1 : Rd w.heap.size w (.slice a1 xn.length c1) xn) (h2 : Rd w.heap.size w (.slice a2 xd.length c2) xd) (n0 : -128 ≤ n ∧ n < 128) (htab : Lib.TabIs Tryd.prog w "internal/strconv.uint64pow10" .u64 Lib.pow10Tab) :
    Calls Tryd.prog 6 #[.agg #[.bool bx, .slice a1 xn.length c1, .slice a2 xd.length c2], .int .i8 n] w fun e w' => e = .returned (.bool true) ∧ Below w.heap.size w w' := by
  have X := nvar_new (b := bx) h1 h2
  have g := below_alloc w (.cells #[.bool bx, .slice a1 xn.length c1, .slice a2 xd.length c2] 24)
  have hK : -19 ≤ n.tmod 20 ∧ n.tmod 20 ≤ 19 := by
    have q1 := Int.tmod_lt_of_pos n (show (0 : Int) < 20 by omega)
    have q2 : -20 < n.tmod 20 := by
      have := Int.neg_tmod n 20
      have q3 := Int.tmod_lt_of_pos (-n) (show (0 : Int) < 20 by omega)
      rw [this] at q3
      omega
    omega
  obtain ⟨X0, X1, X2⟩ := X.cells
  go_enter Tryd.func6, Tryd.ntmps6
  go_wp2
  clear X0 X1 X2
  generalize hA : w.alloc (.cells #[.bool bx, .slice a1 xn.length c1, .slice a2 xd.length c2] 24) = v at *
  clear hA
  generalize n.tmod 20 = K at *
  obtain ⟨hK0, hK1⟩ := hK
  have hwK : IntKind.i64.wrap (K + 1) = K + 1 := by rw [IntKind.wrap_i64]; omega
  have hcellsa : ∀ {w' : World}, Below v.heap.size v w' → w'.cell? ⟨w.heap.size, 0, none⟩ = some (.bool bx) ∧ w'.cell? ⟨w.heap.size, 1, none⟩ = some (.slice a1 xn.length c1) ∧ w'.cell? ⟨w.heap.size, 2, none⟩ = some (.slice a2 xd.length c2) := fun hb => (X.below hb).cells
  obtain ⟨X0, X1, X2⟩ := X.cells
  have hna : w.heap.size ≠ v.heap.size := by have h5 := X.lt; omega
  have kZa := below_alloc v.drew (.cells #[.bool false, .slice none 0 0, .slice none 0 0] 24)
  have RZa := rvar_new v.drew
  go_region_held3 (fun w' => w'.cell? ⟨w.heap.size, 0, none⟩ = some (.bool bx) ∧ w'.cell? ⟨w.heap.size, 1, none⟩ = some (.slice a1 xn.length c1) ∧ w'.cell? ⟨w.heap.size, 2, none⟩ = some (.slice a2 xd.length c2))
    (first | (go_keep; done) | exact twa1 | exact twa2 | exact twa3 | exact twsa)
    (first
      | (go_at_call 19; refine (ofInt_any (K) (by omega) (by omega) _).mono ?_; rintro e wa1 ⟨ka1, ba, yna, yda, y1a, y2a, y3a, y4a, HWa, rfl, ona, oda⟩; (first | (have ta1 : Below v.heap.size v wa1 := (below_undrew (w := v) (B := v.heap.size) ka1); have twa1 := hcellsa ta1; have XXa := X.below ta1; have BZa := True.intro) | (have ta1 : Below v.heap.size v wa1 := (below_undrew (w := v) (B := v.heap.size) (kZa.trans (ka1.mono kZa.size))); have twa1 := hcellsa ta1; have XXa := X.below ta1; have BZa : RVar wa1 v.heap.size := RZa.below ka1)); have kYa := below_alloc wa1 (.cells #[.bool false, .slice none 0 0, .slice none 0 0] 24); have XYa := XXa.below kYa; have hma : w.heap.size ≠ wa1.heap.size := (by have h5 := X.lt; have h6 := ta1.size; omega); have RYa := rvar_new wa1; have twa2 := XYa.cells)
      | (go_at_call 18; refine (power_rat (by first | exact XXa.rn | exact XYa.rn) (by first | exact XXa.rd | exact XYa.rd) (by first | exact ona.rd | exact (ona.alloc _).rd) (by first | exact oda.rd | exact (oda.alloc _).rd)).mono ?_; rintro e wa2 ⟨ka2, bpa, x1a, nna, z1a, x2a, mma, z2a, era, rfl, HOa⟩; obtain ⟨nsa, dsa, rfl, rfl, opa, oqa, HPa⟩ := pows_is HWa.out HOa.out; clear HOa; first | (have ta2 : Below v.heap.size v wa2 := ta1.trans (ka2.mono ta1.size); have twa3 := hcellsa ta2; have XBa := (X.below ta2).box; first | (have CZa : RVar wa2 v.heap.size := BZa.below ka2; have twsa := And.intro (XBa.other hna (.bool bpa) (.slice x1a nsa.length z1a) (.slice x2a dsa.length z2a)).c0 (And.intro (XBa.other hna (.bool bpa) (.slice x1a nsa.length z1a) (.slice x2a dsa.length z2a)).c1 (XBa.other hna (.bool bpa) (.slice x1a nsa.length z1a) (.slice x2a dsa.length z2a)).c2); have q0 := CZa.box.c0; have q1 := CZa.box.c1; have q2 := CZa.box.c2; have p0 := CZa.box.f0; have p1 := CZa.box.f1; have p2 := CZa.box.f2) | skip) | (have ta2 : Below v.heap.size v wa2 := ta1.trans ((kYa.trans (ka2.mono kYa.size)).mono ta1.size); have twa3 := hcellsa ta2; have XBa := (X.below ta2).box; have CZa : RVar wa2 wa1.heap.size := RYa.below ka2; have twsa := And.intro (XBa.other hma (.bool bpa) (.slice x1a nsa.length z1a) (.slice x2a dsa.length z2a)).c0 (And.intro (XBa.other hma (.bool bpa) (.slice x1a nsa.length z1a) (.slice x2a dsa.length z2a)).c1 (XBa.other hma (.bool bpa) (.slice x1a nsa.length z1a) (.slice x2a dsa.length z2a)).c2); have q0 := CZa.box.c0; have q1 := CZa.box.c1; have q2 := CZa.box.c2; have p0 := CZa.box.f0; have p1 := CZa.box.f1; have p2 := CZa.box.f2)))
  · have gg : Below w.heap.size w (wa2.alloc (.cells #[.bool bpa, .slice x1a nsa.length z1a, .slice x2a dsa.length z2a] 24)) := (g.trans (ta2.mono g.size)).alloc (Nat.le_trans g.size ta2.size) _
    have P := nvar_new (b := bpa) opa.rd oqa.rd
    replace X := (X.below ta2).below (below_alloc wa2 (.cells #[.bool bpa, .slice x1a nsa.length z1a, .slice x2a dsa.length z2a] 24))
    replace g := gg
    clear gg
    generalize hA : wa2.alloc (.cells #[.bool bpa, .slice x1a nsa.length z1a, .slice x2a dsa.length z2a] 24) = ua at *
    clear hA
    clear hcellsa hna kZa RZa X0 X1 X2 twa1 twa2 twa3 XBa XXa XYa kYa RYa hma BZa
    go_wp2
    have hcellsb : ∀ {w' : World}, Below ua.heap.size ua w' → w'.cell? ⟨w.heap.size, 0, none⟩ = some (.bool bx) ∧ w'.cell? ⟨w.heap.size, 1, none⟩ = some (.slice a1 xn.length c1) ∧ w'.cell? ⟨w.heap.size, 2, none⟩ = some (.slice a2 xd.length c2) := fun hb => (X.below hb).cells
    obtain ⟨X0, X1, X2⟩ := X.cells
    have hnb : w.heap.size ≠ ua.heap.size := by have h5 := X.lt; omega
    have kZb := below_alloc ua.drew (.cells #[.bool false, .slice none 0 0, .slice none 0 0] 24)
    have RZb := rvar_new ua.drew
    go_region_held3 (fun w' => w'.cell? ⟨w.heap.size, 0, none⟩ = some (.bool bx) ∧ w'.cell? ⟨w.heap.size, 1, none⟩ = some (.slice a1 xn.length c1) ∧ w'.cell? ⟨w.heap.size, 2, none⟩ = some (.slice a2 xd.length c2))
      (first | (go_keep; done) | exact twb1 | exact twb2 | exact twb3 | exact twsb)
      (first
        | (go_at_call 19; refine (ofInt_any (K + 1) (by omega) (by omega) _).mono ?_; rintro e wb1 ⟨kb1, bb, ynb, ydb, y1b, y2b, y3b, y4b, HWb, rfl, onb, odb⟩; (first | (have tb1 : Below ua.heap.size ua wb1 := (below_undrew (w := ua) (B := ua.heap.size) kb1); have twb1 := hcellsb tb1; have XXb := X.below tb1; have BZb := True.intro) | (have tb1 : Below ua.heap.size ua wb1 := (below_undrew (w := ua) (B := ua.heap.size) (kZb.trans (kb1.mono kZb.size))); have twb1 := hcellsb tb1; have XXb := X.below tb1; have BZb : RVar wb1 ua.heap.size := RZb.below kb1)); have kYb := below_alloc wb1 (.cells #[.bool false, .slice none 0 0, .slice none 0 0] 24); have XYb := XXb.below kYb; have hmb : w.heap.size ≠ wb1.heap.size := (by have h5 := X.lt; have h6 := tb1.size; omega); have RYb := rvar_new wb1; have twb2 := XYb.cells)
        | (go_at_call 18; refine (power_rat (by first | exact XXb.rn | exact XYb.rn) (by first | exact XXb.rd | exact XYb.rd) (by first | exact onb.rd | exact (onb.alloc _).rd) (by first | exact odb.rd | exact (odb.alloc _).rd)).mono ?_; rintro e wb2 ⟨kb2, bpb, x1b, nnb, z1b, x2b, mmb, z2b, erb, rfl, HOb⟩; obtain ⟨nsb, dsb, rfl, rfl, opb, oqb, HPb⟩ := pows_is HWb.out HOb.out; clear HOb; first | (have tb2 : Below ua.heap.size ua wb2 := tb1.trans (kb2.mono tb1.size); have twb3 := hcellsb tb2; have XBb := (X.below tb2).box; first | (have CZb : RVar wb2 ua.heap.size := BZb.below kb2; have twsb := And.intro (XBb.other hnb (.bool bpb) (.slice x1b nsb.length z1b) (.slice x2b dsb.length z2b)).c0 (And.intro (XBb.other hnb (.bool bpb) (.slice x1b nsb.length z1b) (.slice x2b dsb.length z2b)).c1 (XBb.other hnb (.bool bpb) (.slice x1b nsb.length z1b) (.slice x2b dsb.length z2b)).c2); have q0 := CZb.box.c0; have q1 := CZb.box.c1; have q2 := CZb.box.c2; have p0 := CZb.box.f0; have p1 := CZb.box.f1; have p2 := CZb.box.f2) | skip) | (have tb2 : Below ua.heap.size ua wb2 := tb1.trans ((kYb.trans (kb2.mono kYb.size)).mono tb1.size); have twb3 := hcellsb tb2; have XBb := (X.below tb2).box; have CZb : RVar wb2 wb1.heap.size := RYb.below kb2; have twsb := And.intro (XBb.other hmb (.bool bpb) (.slice x1b nsb.length z1b) (.slice x2b dsb.length z2b)).c0 (And.intro (XBb.other hmb (.bool bpb) (.slice x1b nsb.length z1b) (.slice x2b dsb.length z2b)).c1 (XBb.other hmb (.bool bpb) (.slice x1b nsb.length z1b) (.slice x2b dsb.length z2b)).c2); have q0 := CZb.box.c0; have q1 := CZb.box.c1; have q2 := CZb.box.c2; have p0 := CZb.box.f0; have p1 := CZb.box.f1; have p2 := CZb.box.f2)))
    · have gg : Below w.heap.size w (wb2.alloc (.cells #[.bool bpb, .slice x1b nsb.length z1b, .slice x2b dsb.length z2b] 24)) := (g.trans (tb2.mono g.size)).alloc (Nat.le_trans g.size tb2.size) _
      have Q := nvar_new (b := bpb) opb.rd oqb.rd
      replace X := (X.below tb2).below (below_alloc wb2 (.cells #[.bool bpb, .slice x1b nsb.length z1b, .slice x2b dsb.length z2b] 24))
      replace P := (P.below tb2).below (below_alloc wb2 (.cells #[.bool bpb, .slice x1b nsb.length z1b, .slice x2b dsb.length z2b] 24))
      replace g := gg
      clear gg
      generalize hA : wb2.alloc (.cells #[.bool bpb, .slice x1b nsb.length z1b, .slice x2b dsb.length z2b] 24) = ub at *
      clear hA
      clear hcellsb hnb kZb RZb X0 X1 X2 twb1 twb2 twb3 XBb XXb XYb kYb RYb hmb BZb
      by_cases hea : era = 0
      · subst hea
        by_cases heb : erb = 0
        · subst heb
          have Ha : Hid (RightP bx xn xd ∧ RightP bpa nsa dsa ∧ ¬ (K < 0 ∧ xn.length = 0) ∧ sg bpa (val nsa) = sg bx (pnum (decide (K < 0)) xn xd) ^ K.natAbs ∧ val dsa = pden (decide (K < 0)) xn xd ^ K.natAbs) := HPa.out.2 rfl
          have Hb : Hid (RightP bx xn xd ∧ RightP bpb nsb dsb ∧ ¬ (K + 1 < 0 ∧ xn.length = 0) ∧ sg bpb (val nsb) = sg bx (pnum (decide (K + 1 < 0)) xn xd) ^ (K + 1).natAbs ∧ val dsb = pden (decide (K + 1 < 0)) xn xd ^ (K + 1).natAbs) := HPb.out.2 rfl
          clear HPa HPb
          obtain ⟨X0, X1, X2⟩ := X.cells
          obtain ⟨P0, P1, P2⟩ := P.cells
          obtain ⟨TL, _, _, kb101⟩ := nvar_two P X
          replace X := X.below kb101
          replace P := P.below kb101
          replace Q := Q.below kb101
          replace g := g.trans (kb101.mono g.size)
          clear kb101
          go_wp2_with fail
          clear P0 P1 P2 X0 X1 X2
          generalize hA : (ub.alloc (.cells #[.bool bpa, .slice x1a nsa.length z1a, .slice x2a dsa.length z2a, .bool bx, .slice a1 xn.length c1, .slice a2 xd.length c2] 24)) = v102 at *
          clear hA
          refine (mul2 TL P.rn P.rd X.rn X.rd (Nat.le_refl _)).mono ?_
          intro e w103 hm
          obtain ⟨k104, r1, r2, r3, r4, rfl, on, od⟩ := gives_is hm ⟨Ha.out.2.1, Ha.out.1⟩ (Int.mul_pos (right_pos Ha.out.2.1).1 (right_pos Ha.out.1).1) Hb.out.2.1 (by rw [Hb.out.2.2.2.1, Hb.out.2.2.2.2, Ha.out.2.2.2.1, Ha.out.2.2.2.2]; exact pow_step bx xn xd K)
          clear hm TL
          replace X := X.below k104
          replace P := P.below k104
          replace Q := Q.below k104
          replace g := g.trans (k104.mono g.size)
          have ka105 := below_alloc w103 (.cells #[.bool bpb, .slice r1 nsb.length r2, .slice r3 dsb.length r4] 24)
          have R := nvar_new (b := bpb) on.rd od.rd
          replace X := X.below ka105
          replace P := P.below ka105
          replace Q := Q.below ka105
          replace g := g.trans (ka105.mono g.size)
          clear ka105
          by_cases hk1 : K = -1
          · subst hk1
            obtain ⟨X0, X1, X2⟩ := X.cells
            go_wp2_with fail
            clear X0 X1 X2
            generalize hA : (w103.alloc (.cells #[.bool bpb, .slice r1 nsb.length r2, .slice r3 dsb.length r4] 24)) = v106 at *
            clear hA
            refine (sign_rat X.rn X.rd).mono ?_
            rintro e w107 ⟨k108, rs, rfl, HS⟩
            replace X := X.below k108
            replace P := P.below k108
            replace Q := Q.below k108
            replace R := R.below k108
            replace g := g.trans (k108.mono g.size)
            have hsb : (rs == 0) = false := by
              rw [beq_eq_false_iff_ne, HS.out.2 Ha.out.1]
              intro h5
              have h6 : sg bx (val xn) = 0 := by
                unfold cmpI at h5
                split at h5
                · omega
                · split at h5 <;> omega
              have h7 : val xn = 0 := by unfold sg at h6; split at h6 <;> omega
              exact Ha.out.2.2.1 ⟨by omega, (can_zero Ha.out.1.2.2.1).2 h7⟩
            clear HS
            go_wp2_with fail
            refine (live_rat _ (tabIs_below htab g)).mono ?_
            rintro e w109 ⟨rfl, k110⟩
            replace X := X.below k110
            replace P := P.below k110
            replace Q := Q.below k110
            replace R := R.below k110
            replace g := g.trans (k110.mono g.size)
            obtain ⟨R0, R1, R2⟩ := R.cells
            obtain ⟨Q0, Q1, Q2⟩ := Q.cells
            go_wp2_with fail
            clear Q0 Q1 Q2 R0 R1 R2
            refine (same_rat R.rn R.rd Q.rn Q.rd).mono ?_
            rintro e w111 ⟨rfl, k112⟩
            go_wp2
            go_ret
            exact ⟨rfl, g.trans (k112.mono g.size)⟩
          · have hkb : (K == -1) = false := by rw [beq_eq_false_iff_ne]; exact hk1
            go_wp2_with fail
            generalize hA : (w103.alloc (.cells #[.bool bpb, .slice r1 nsb.length r2, .slice r3 dsb.length r4] 24)) = v113 at *
            clear hA
            refine (live_rat _ (tabIs_below htab g)).mono ?_
            rintro e w114 ⟨rfl, k115⟩
            replace X := X.below k115
            replace P := P.below k115
            replace Q := Q.below k115
            replace R := R.below k115
            replace g := g.trans (k115.mono g.size)
            obtain ⟨R0, R1, R2⟩ := R.cells
            obtain ⟨Q0, Q1, Q2⟩ := Q.cells
            go_wp2_with fail
            clear Q0 Q1 Q2 R0 R1 R2
            refine (same_rat R.rn R.rd Q.rn Q.rd).mono ?_
            rintro e w116 ⟨rfl, k117⟩
            go_wp2
            go_ret
            exact ⟨rfl, g.trans (k117.mono g.size)⟩
        · have hb1 : (erb == 0) = false := by rw [beq_eq_false_iff_ne]; exact heb
          have hb2 : (erb != 0) = true := by rw [bne_iff_ne]; exact heb
          go_wp2_with fail
          refine (live_rat _ (tabIs_below htab g)).mono ?_
          rintro e wl118 ⟨rfl, kl119⟩
          go_wp2
          go_ret
          exact ⟨rfl, g.trans (kl119.mono g.size)⟩
      · have hb1 : (era == 0) = false := by rw [beq_eq_false_iff_ne]; exact hea
        have hb2 : (era != 0) = true := by rw [bne_iff_ne]; exact hea
        by_cases h22 : era = 22
        · subst h22
          have HN : Hid (¬ RightP bx xn xd) := HPa.out.1.1 rfl
          go_wp2_with fail
          refine (live_rat _ (tabIs_below htab g)).mono ?_
          rintro e w201 ⟨rfl, k202⟩
          replace X := X.below k202
          replace P := P.below k202
          replace Q := Q.below k202
          replace g := g.trans (k202.mono g.size)
          obtain ⟨X0, X1, X2⟩ := X.cells
          go_wp2_with fail
          clear X0 X1 X2
          refine (right_rat X.rn X.rd (Nat.le_refl _)).mono ?_
          rintro e w203 ⟨⟨r, rfl, hr⟩, k204⟩
          have hrf : r = false := by
            cases r with
            | false => rfl
            | true => exact absurd (hr.1 rfl) HN.out
          subst hrf
          clear hr
          go_wp2
          go_ret
          exact ⟨rfl, g.trans (k204.mono g.size)⟩
        · have hb3 : (era == 22) = false := by rw [beq_eq_false_iff_ne]; exact h22
          have hb4 : (era != 22) = true := by rw [bne_iff_ne]; exact h22
          go_wp2_with fail
          refine (live_rat _ (tabIs_below htab g)).mono ?_
          rintro e wl205 ⟨rfl, kl206⟩
          go_wp2
          go_ret
          exact ⟨rfl, g.trans (kl206.mono g.size)⟩
    · have kle : w.heap.size ≤ wb1.heap.size := Nat.le_trans g.size tb1.size
      have gg : Below w.heap.size w (((wb2.setCell ⟨wb1.heap.size, 0, none⟩ (.bool bpb)).setCell ⟨wb1.heap.size, 1, none⟩ (.slice x1b nsb.length z1b)).setCell ⟨wb1.heap.size, 2, none⟩ (.slice x2b dsb.length z2b)) := Below.set3 (g.trans (tb2.mono g.size)) kle _ _ _
      have szz : (((wb2.setCell ⟨wb1.heap.size, 0, none⟩ (.bool bpb)).setCell ⟨wb1.heap.size, 1, none⟩ (.slice x1b nsb.length z1b)).setCell ⟨wb1.heap.size, 2, none⟩ (.slice x2b dsb.length z2b)).heap.size = wb2.heap.size := by simp [World.setCell]
      have Q : NVar (((wb2.setCell ⟨wb1.heap.size, 0, none⟩ (.bool bpb)).setCell ⟨wb1.heap.size, 1, none⟩ (.slice x1b nsb.length z1b)).setCell ⟨wb1.heap.size, 2, none⟩ (.slice x2b dsb.length z2b)) (wb1.heap.size) bpb x1b nsb z1b x2b dsb z2b := ⟨by rw [szz]; exact CZb.lt, CZb.box.set _ _ _, (Own.set3 opb (by simp) _ _ _).rd, (Own.set3 oqb (by simp) _ _ _).rd⟩
      replace X := X.below (Below.set3 tb2 (tb1.size) (.bool bpb) (.slice x1b nsb.length z1b) (.slice x2b dsb.length z2b))
      replace P := P.below (Below.set3 tb2 (tb1.size) (.bool bpb) (.slice x1b nsb.length z1b) (.slice x2b dsb.length z2b))
      replace g := gg
      clear gg szz kle
      generalize hA : ((wb2.setCell ⟨wb1.heap.size, 0, none⟩ (.bool bpb)).setCell ⟨wb1.heap.size, 1, none⟩ (.slice x1b nsb.length z1b)).setCell ⟨wb1.heap.size, 2, none⟩ (.slice x2b dsb.length z2b) = ub at *
      clear hA
      clear hcellsb hnb kZb RZb X0 X1 X2 twb1 twb2 twb3 XBb XXb XYb kYb RYb hmb BZb CZb twsb q0 q1 q2 p0 p1 p2
      by_cases hea : era = 0
      · subst hea
        by_cases heb : erb = 0
        · subst heb
          have Ha : Hid (RightP bx xn xd ∧ RightP bpa nsa dsa ∧ ¬ (K < 0 ∧ xn.length = 0) ∧ sg bpa (val nsa) = sg bx (pnum (decide (K < 0)) xn xd) ^ K.natAbs ∧ val dsa = pden (decide (K < 0)) xn xd ^ K.natAbs) := HPa.out.2 rfl
          have Hb : Hid (RightP bx xn xd ∧ RightP bpb nsb dsb ∧ ¬ (K + 1 < 0 ∧ xn.length = 0) ∧ sg bpb (val nsb) = sg bx (pnum (decide (K + 1 < 0)) xn xd) ^ (K + 1).natAbs ∧ val dsb = pden (decide (K + 1 < 0)) xn xd ^ (K + 1).natAbs) := HPb.out.2 rfl
          clear HPa HPb
          obtain ⟨X0, X1, X2⟩ := X.cells
          obtain ⟨P0, P1, P2⟩ := P.cells
          obtain ⟨TL, _, _, kb101⟩ := nvar_two P X
          replace X := X.below kb101
          replace P := P.below kb101
          replace Q := Q.below kb101
          replace g := g.trans (kb101.mono g.size)
          clear kb101
          go_wp2_with fail
          clear P0 P1 P2 X0 X1 X2
          generalize hA : (ub.alloc (.cells #[.bool bpa, .slice x1a nsa.length z1a, .slice x2a dsa.length z2a, .bool bx, .slice a1 xn.length c1, .slice a2 xd.length c2] 24)) = v102 at *
          clear hA
          refine (mul2 TL P.rn P.rd X.rn X.rd (Nat.le_refl _)).mono ?_
          intro e w103 hm
          obtain ⟨k104, r1, r2, r3, r4, rfl, on, od⟩ := gives_is hm ⟨Ha.out.2.1, Ha.out.1⟩ (Int.mul_pos (right_pos Ha.out.2.1).1 (right_pos Ha.out.1).1) Hb.out.2.1 (by rw [Hb.out.2.2.2.1, Hb.out.2.2.2.2, Ha.out.2.2.2.1, Ha.out.2.2.2.2]; exact pow_step bx xn xd K)
          clear hm TL
          replace X := X.below k104
          replace P := P.below k104
          replace Q := Q.below k104
          replace g := g.trans (k104.mono g.size)
          have ka105 := below_alloc w103 (.cells #[.bool bpb, .slice r1 nsb.length r2, .slice r3 dsb.length r4] 24)
          have R := nvar_new (b := bpb) on.rd od.rd
          replace X := X.below ka105
          replace P := P.below ka105
          replace Q := Q.below ka105
          replace g := g.trans (ka105.mono g.size)
          clear ka105
          by_cases hk1 : K = -1
          · subst hk1
            obtain ⟨X0, X1, X2⟩ := X.cells
            go_wp2_with fail
            clear X0 X1 X2
            generalize hA : (w103.alloc (.cells #[.bool bpb, .slice r1 nsb.length r2, .slice r3 dsb.length r4] 24)) = v106 at *
            clear hA
            refine (sign_rat X.rn X.rd).mono ?_
            rintro e w107 ⟨k108, rs, rfl, HS⟩
            replace X := X.below k108
            replace P := P.below k108
            replace Q := Q.below k108
            replace R := R.below k108
            replace g := g.trans (k108.mono g.size)
            have hsb : (rs == 0) = false := by
              rw [beq_eq_false_iff_ne, HS.out.2 Ha.out.1]
              intro h5
              have h6 : sg bx (val xn) = 0 := by
                unfold cmpI at h5
                split at h5
                · omega
                · split at h5 <;> omega
              have h7 : val xn = 0 := by unfold sg at h6; split at h6 <;> omega
              exact Ha.out.2.2.1 ⟨by omega, (can_zero Ha.out.1.2.2.1).2 h7⟩
            clear HS
            go_wp2_with fail
            refine (live_rat _ (tabIs_below htab g)).mono ?_
            rintro e w109 ⟨rfl, k110⟩
            replace X := X.below k110
            replace P := P.below k110
            replace Q := Q.below k110
            replace R := R.below k110
            replace g := g.trans (k110.mono g.size)
            obtain ⟨R0, R1, R2⟩ := R.cells
            obtain ⟨Q0, Q1, Q2⟩ := Q.cells
            go_wp2_with fail
            clear Q0 Q1 Q2 R0 R1 R2
            refine (same_rat R.rn R.rd Q.rn Q.rd).mono ?_
            rintro e w111 ⟨rfl, k112⟩
            go_wp2
            go_ret
            exact ⟨rfl, g.trans (k112.mono g.size)⟩
          · have hkb : (K == -1) = false := by rw [beq_eq_false_iff_ne]; exact hk1
            go_wp2_with fail
            generalize hA : (w103.alloc (.cells #[.bool bpb, .slice r1 nsb.length r2, .slice r3 dsb.length r4] 24)) = v113 at *
            clear hA
            refine (live_rat _ (tabIs_below htab g)).mono ?_
            rintro e w114 ⟨rfl, k115⟩
            replace X := X.below k115
            replace P := P.below k115
            replace Q := Q.below k115
            replace R := R.below k115
            replace g := g.trans (k115.mono g.size)
            obtain ⟨R0, R1, R2⟩ := R.cells
            obtain ⟨Q0, Q1, Q2⟩ := Q.cells
            go_wp2_with fail
            clear Q0 Q1 Q2 R0 R1 R2
            refine (same_rat R.rn R.rd Q.rn Q.rd).mono ?_
            rintro e w116 ⟨rfl, k117⟩
            go_wp2
            go_ret
            exact ⟨rfl, g.trans (k117.mono g.size)⟩
        · have hb1 : (erb == 0) = false := by rw [beq_eq_false_iff_ne]; exact heb
          have hb2 : (erb != 0) = true := by rw [bne_iff_ne]; exact heb
          go_wp2_with fail
          refine (live_rat _ (tabIs_below htab g)).mono ?_
          rintro e wl118 ⟨rfl, kl119⟩
          go_wp2
          go_ret
          exact ⟨rfl, g.trans (kl119.mono g.size)⟩
      · have hb1 : (era == 0) = false := by rw [beq_eq_false_iff_ne]; exact hea
        have hb2 : (era != 0) = true := by rw [bne_iff_ne]; exact hea
        by_cases h22 : era = 22
        · subst h22
          have HN : Hid (¬ RightP bx xn xd) := HPa.out.1.1 rfl
          go_wp2_with fail
          refine (live_rat _ (tabIs_below htab g)).mono ?_
          rintro e w201 ⟨rfl, k202⟩
          replace X := X.below k202
          replace P := P.below k202
          replace Q := Q.below k202
          replace g := g.trans (k202.mono g.size)
          obtain ⟨X0, X1, X2⟩ := X.cells
          go_wp2_with fail
          clear X0 X1 X2
          refine (right_rat X.rn X.rd (Nat.le_refl _)).mono ?_
          rintro e w203 ⟨⟨r, rfl, hr⟩, k204⟩
          have hrf : r = false := by
            cases r with
            | false => rfl
            | true => exact absurd (hr.1 rfl) HN.out
          subst hrf
          clear hr
          go_wp2
          go_ret
          exact ⟨rfl, g.trans (k204.mono g.size)⟩
        · have hb3 : (era == 22) = false := by rw [beq_eq_false_iff_ne]; exact h22
          have hb4 : (era != 22) = true := by rw [bne_iff_ne]; exact h22
          go_wp2_with fail
          refine (live_rat _ (tabIs_below htab g)).mono ?_
          rintro e wl205 ⟨rfl, kl206⟩
          go_wp2
          go_ret
          exact ⟨rfl, g.trans (kl206.mono g.size)⟩
    · have kle : w.heap.size ≤ ua.heap.size := g.size
      have gg : Below w.heap.size w (((wb2.setCell ⟨ua.heap.size, 0, none⟩ (.bool bpb)).setCell ⟨ua.heap.size, 1, none⟩ (.slice x1b nsb.length z1b)).setCell ⟨ua.heap.size, 2, none⟩ (.slice x2b dsb.length z2b)) := Below.set3 (g.trans (tb2.mono g.size)) kle _ _ _
      have szz : (((wb2.setCell ⟨ua.heap.size, 0, none⟩ (.bool bpb)).setCell ⟨ua.heap.size, 1, none⟩ (.slice x1b nsb.length z1b)).setCell ⟨ua.heap.size, 2, none⟩ (.slice x2b dsb.length z2b)).heap.size = wb2.heap.size := by simp [World.setCell]
      have Q : NVar (((wb2.setCell ⟨ua.heap.size, 0, none⟩ (.bool bpb)).setCell ⟨ua.heap.size, 1, none⟩ (.slice x1b nsb.length z1b)).setCell ⟨ua.heap.size, 2, none⟩ (.slice x2b dsb.length z2b)) (ua.heap.size) bpb x1b nsb z1b x2b dsb z2b := ⟨by rw [szz]; exact CZb.lt, CZb.box.set _ _ _, (Own.set3 opb BZb.lt _ _ _).rd, (Own.set3 oqb BZb.lt _ _ _).rd⟩
      replace X := X.below (Below.set3 tb2 (Nat.le_refl _) (.bool bpb) (.slice x1b nsb.length z1b) (.slice x2b dsb.length z2b))
      replace P := P.below (Below.set3 tb2 (Nat.le_refl _) (.bool bpb) (.slice x1b nsb.length z1b) (.slice x2b dsb.length z2b))
      replace g := gg
      clear gg szz kle
      generalize hA : ((wb2.setCell ⟨ua.heap.size, 0, none⟩ (.bool bpb)).setCell ⟨ua.heap.size, 1, none⟩ (.slice x1b nsb.length z1b)).setCell ⟨ua.heap.size, 2, none⟩ (.slice x2b dsb.length z2b) = ub at *
      clear hA
      clear hcellsb hnb kZb RZb X0 X1 X2 twb1 twb2 twb3 XBb XXb XYb kYb RYb hmb BZb CZb twsb q0 q1 q2 p0 p1 p2
      by_cases hea : era = 0
      · subst hea
        by_cases heb : erb = 0
        · subst heb
          have Ha : Hid (RightP bx xn xd ∧ RightP bpa nsa dsa ∧ ¬ (K < 0 ∧ xn.length = 0) ∧ sg bpa (val nsa) = sg bx (pnum (decide (K < 0)) xn xd) ^ K.natAbs ∧ val dsa = pden (decide (K < 0)) xn xd ^ K.natAbs) := HPa.out.2 rfl
          have Hb : Hid (RightP bx xn xd ∧ RightP bpb nsb dsb ∧ ¬ (K + 1 < 0 ∧ xn.length = 0) ∧ sg bpb (val nsb) = sg bx (pnum (decide (K + 1 < 0)) xn xd) ^ (K + 1).natAbs ∧ val dsb = pden (decide (K + 1 < 0)) xn xd ^ (K + 1).natAbs) := HPb.out.2 rfl
          clear HPa HPb
          obtain ⟨X0, X1, X2⟩ := X.cells
          obtain ⟨P0, P1, P2⟩ := P.cells
          obtain ⟨TL, _, _, kb101⟩ := nvar_two P X
          replace X := X.below kb101
          replace P := P.below kb101
          replace Q := Q.below kb101
          replace g := g.trans (kb101.mono g.size)
          clear kb101
          go_wp2_with fail
          clear P0 P1 P2 X0 X1 X2
          generalize hA : (ub.alloc (.cells #[.bool bpa, .slice x1a nsa.length z1a, .slice x2a dsa.length z2a, .bool bx, .slice a1 xn.length c1, .slice a2 xd.length c2] 24)) = v102 at *
          clear hA
          refine (mul2 TL P.rn P.rd X.rn X.rd (Nat.le_refl _)).mono ?_
          intro e w103 hm
          obtain ⟨k104, r1, r2, r3, r4, rfl, on, od⟩ := gives_is hm ⟨Ha.out.2.1, Ha.out.1⟩ (Int.mul_pos (right_pos Ha.out.2.1).1 (right_pos Ha.out.1).1) Hb.out.2.1 (by rw [Hb.out.2.2.2.1, Hb.out.2.2.2.2, Ha.out.2.2.2.1, Ha.out.2.2.2.2]; exact pow_step bx xn xd K)
          clear hm TL
          replace X := X.below k104
          replace P := P.below k104
          replace Q := Q.below k104
          replace g := g.trans (k104.mono g.size)
          have ka105 := below_alloc w103 (.cells #[.bool bpb, .slice r1 nsb.length r2, .slice r3 dsb.length r4] 24)
          have R := nvar_new (b := bpb) on.rd od.rd
          replace X := X.below ka105
          replace P := P.below ka105
          replace Q := Q.below ka105
          replace g := g.trans (ka105.mono g.size)
          clear ka105
          by_cases hk1 : K = -1
          · subst hk1
            obtain ⟨X0, X1, X2⟩ := X.cells
            go_wp2_with fail
            clear X0 X1 X2
            generalize hA : (w103.alloc (.cells #[.bool bpb, .slice r1 nsb.length r2, .slice r3 dsb.length r4] 24)) = v106 at *
            clear hA
            refine (sign_rat X.rn X.rd).mono ?_
            rintro e w107 ⟨k108, rs, rfl, HS⟩
            replace X := X.below k108
            replace P := P.below k108
            replace Q := Q.below k108
            replace R := R.below k108
            replace g := g.trans (k108.mono g.size)
            have hsb : (rs == 0) = false := by
              rw [beq_eq_false_iff_ne, HS.out.2 Ha.out.1]
              intro h5
              have h6 : sg bx (val xn) = 0 := by
                unfold cmpI at h5
                split at h5
                · omega
                · split at h5 <;> omega
              have h7 : val xn = 0 := by unfold sg at h6; split at h6 <;> omega
              exact Ha.out.2.2.1 ⟨by omega, (can_zero Ha.out.1.2.2.1).2 h7⟩
            clear HS
            go_wp2_with fail
            refine (live_rat _ (tabIs_below htab g)).mono ?_
            rintro e w109 ⟨rfl, k110⟩
            replace X := X.below k110
            replace P := P.below k110
            replace Q := Q.below k110
            replace R := R.below k110
            replace g := g.trans (k110.mono g.size)
            obtain ⟨R0, R1, R2⟩ := R.cells
            obtain ⟨Q0, Q1, Q2⟩ := Q.cells
            go_wp2_with fail
            clear Q0 Q1 Q2 R0 R1 R2
            refine (same_rat R.rn R.rd Q.rn Q.rd).mono ?_
            rintro e w111 ⟨rfl, k112⟩
            go_wp2
            go_ret
            exact ⟨rfl, g.trans (k112.mono g.size)⟩
          · have hkb : (K == -1) = false := by rw [beq_eq_false_iff_ne]; exact hk1
            go_wp2_with fail
            generalize hA : (w103.alloc (.cells #[.bool bpb, .slice r1 nsb.length r2, .slice r3 dsb.length r4] 24)) = v113 at *
            clear hA
            refine (live_rat _ (tabIs_below htab g)).mono ?_
            rintro e w114 ⟨rfl, k115⟩
            replace X := X.below k115
            replace P := P.below k115
            replace Q := Q.below k115
            replace R := R.below k115
            replace g := g.trans (k115.mono g.size)
            obtain ⟨R0, R1, R2⟩ := R.cells
            obtain ⟨Q0, Q1, Q2⟩ := Q.cells
            go_wp2_with fail
            clear Q0 Q1 Q2 R0 R1 R2
            refine (same_rat R.rn R.rd Q.rn Q.rd).mono ?_
            rintro e w116 ⟨rfl, k117⟩
            go_wp2
            go_ret
            exact ⟨rfl, g.trans (k117.mono g.size)⟩
        · have hb1 : (erb == 0) = false := by rw [beq_eq_false_iff_ne]; exact heb
          have hb2 : (erb != 0) = true := by rw [bne_iff_ne]; exact heb
          go_wp2_with fail
          refine (live_rat _ (tabIs_below htab g)).mono ?_
          rintro e wl118 ⟨rfl, kl119⟩
          go_wp2
          go_ret
          exact ⟨rfl, g.trans (kl119.mono g.size)⟩
      · have hb1 : (era == 0) = false := by rw [beq_eq_false_iff_ne]; exact hea
        have hb2 : (era != 0) = true := by rw [bne_iff_ne]; exact hea
        by_cases h22 : era = 22
        · subst h22
          have HN : Hid (¬ RightP bx xn xd) := HPa.out.1.1 rfl
          go_wp2_with fail
          refine (live_rat _ (tabIs_below htab g)).mono ?_
          rintro e w201 ⟨rfl, k202⟩
          replace X := X.below k202
          replace P := P.below k202
          replace Q := Q.below k202
          replace g := g.trans (k202.mono g.size)
          obtain ⟨X0, X1, X2⟩ := X.cells
          go_wp2_with fail
          clear X0 X1 X2
          refine (right_rat X.rn X.rd (Nat.le_refl _)).mono ?_
          rintro e w203 ⟨⟨r, rfl, hr⟩, k204⟩
          have hrf : r = false := by
            cases r with
            | false => rfl
            | true => exact absurd (hr.1 rfl) HN.out
          subst hrf
          clear hr
          go_wp2
          go_ret
          exact ⟨rfl, g.trans (k204.mono g.size)⟩
        · have hb3 : (era == 22) = false := by rw [beq_eq_false_iff_ne]; exact h22
          have hb4 : (era != 22) = true := by rw [bne_iff_ne]; exact h22
          go_wp2_with fail
          refine (live_rat _ (tabIs_below htab g)).mono ?_
          rintro e wl205 ⟨rfl, kl206⟩
          go_wp2
          go_ret
          exact ⟨rfl, g.trans (kl206.mono g.size)⟩
  · have kle : w.heap.size ≤ wa1.heap.size := Nat.le_trans g.size ta1.size
    have gg : Below w.heap.size w (((wa2.setCell ⟨wa1.heap.size, 0, none⟩ (.bool bpa)).setCell ⟨wa1.heap.size, 1, none⟩ (.slice x1a nsa.length z1a)).setCell ⟨wa1.heap.size, 2, none⟩ (.slice x2a dsa.length z2a)) := Below.set3 (g.trans (ta2.mono g.size)) kle _ _ _
    have szz : (((wa2.setCell ⟨wa1.heap.size, 0, none⟩ (.bool bpa)).setCell ⟨wa1.heap.size, 1, none⟩ (.slice x1a nsa.length z1a)).setCell ⟨wa1.heap.size, 2, none⟩ (.slice x2a dsa.length z2a)).heap.size = wa2.heap.size := by simp [World.setCell]
    have P : NVar (((wa2.setCell ⟨wa1.heap.size, 0, none⟩ (.bool bpa)).setCell ⟨wa1.heap.size, 1, none⟩ (.slice x1a nsa.length z1a)).setCell ⟨wa1.heap.size, 2, none⟩ (.slice x2a dsa.length z2a)) (wa1.heap.size) bpa x1a nsa z1a x2a dsa z2a := ⟨by rw [szz]; exact CZa.lt, CZa.box.set _ _ _, (Own.set3 opa (by simp) _ _ _).rd, (Own.set3 oqa (by simp) _ _ _).rd⟩
    replace X := X.below (Below.set3 ta2 (ta1.size) (.bool bpa) (.slice x1a nsa.length z1a) (.slice x2a dsa.length z2a))
    replace g := gg
    clear gg szz kle
    generalize hA : ((wa2.setCell ⟨wa1.heap.size, 0, none⟩ (.bool bpa)).setCell ⟨wa1.heap.size, 1, none⟩ (.slice x1a nsa.length z1a)).setCell ⟨wa1.heap.size, 2, none⟩ (.slice x2a dsa.length z2a) = ua at *
    clear hA
    clear hcellsa hna kZa RZa X0 X1 X2 twa1 twa2 twa3 XBa XXa XYa kYa RYa hma BZa CZa twsa q0 q1 q2 p0 p1 p2
    go_wp2
    have hcellsb : ∀ {w' : World}, Below ua.heap.size ua w' → w'.cell? ⟨w.heap.size, 0, none⟩ = some (.bool bx) ∧ w'.cell? ⟨w.heap.size, 1, none⟩ = some (.slice a1 xn.length c1) ∧ w'.cell? ⟨w.heap.size, 2, none⟩ = some (.slice a2 xd.length c2) := fun hb => (X.below hb).cells
    obtain ⟨X0, X1, X2⟩ := X.cells
    have hnb : w.heap.size ≠ ua.heap.size := by have h5 := X.lt; omega
    have kZb := below_alloc ua.drew (.cells #[.bool false, .slice none 0 0, .slice none 0 0] 24)
    have RZb := rvar_new ua.drew
    go_region_held3 (fun w' => w'.cell? ⟨w.heap.size, 0, none⟩ = some (.bool bx) ∧ w'.cell? ⟨w.heap.size, 1, none⟩ = some (.slice a1 xn.length c1) ∧ w'.cell? ⟨w.heap.size, 2, none⟩ = some (.slice a2 xd.length c2))
      (first | (go_keep; done) | exact twb1 | exact twb2 | exact twb3 | exact twsb)
      (first
        | (go_at_call 19; refine (ofInt_any (K + 1) (by omega) (by omega) _).mono ?_; rintro e wb1 ⟨kb1, bb, ynb, ydb, y1b, y2b, y3b, y4b, HWb, rfl, onb, odb⟩; (first | (have tb1 : Below ua.heap.size ua wb1 := (below_undrew (w := ua) (B := ua.heap.size) kb1); have twb1 := hcellsb tb1; have XXb := X.below tb1; have BZb := True.intro) | (have tb1 : Below ua.heap.size ua wb1 := (below_undrew (w := ua) (B := ua.heap.size) (kZb.trans (kb1.mono kZb.size))); have twb1 := hcellsb tb1; have XXb := X.below tb1; have BZb : RVar wb1 ua.heap.size := RZb.below kb1)); have kYb := below_alloc wb1 (.cells #[.bool false, .slice none 0 0, .slice none 0 0] 24); have XYb := XXb.below kYb; have hmb : w.heap.size ≠ wb1.heap.size := (by have h5 := X.lt; have h6 := tb1.size; omega); have RYb := rvar_new wb1; have twb2 := XYb.cells)
        | (go_at_call 18; refine (power_rat (by first | exact XXb.rn | exact XYb.rn) (by first | exact XXb.rd | exact XYb.rd) (by first | exact onb.rd | exact (onb.alloc _).rd) (by first | exact odb.rd | exact (odb.alloc _).rd)).mono ?_; rintro e wb2 ⟨kb2, bpb, x1b, nnb, z1b, x2b, mmb, z2b, erb, rfl, HOb⟩; obtain ⟨nsb, dsb, rfl, rfl, opb, oqb, HPb⟩ := pows_is HWb.out HOb.out; clear HOb; first | (have tb2 : Below ua.heap.size ua wb2 := tb1.trans (kb2.mono tb1.size); have twb3 := hcellsb tb2; have XBb := (X.below tb2).box; first | (have CZb : RVar wb2 ua.heap.size := BZb.below kb2; have twsb := And.intro (XBb.other hnb (.bool bpb) (.slice x1b nsb.length z1b) (.slice x2b dsb.length z2b)).c0 (And.intro (XBb.other hnb (.bool bpb) (.slice x1b nsb.length z1b) (.slice x2b dsb.length z2b)).c1 (XBb.other hnb (.bool bpb) (.slice x1b nsb.length z1b) (.slice x2b dsb.length z2b)).c2); have q0 := CZb.box.c0; have q1 := CZb.box.c1; have q2 := CZb.box.c2; have p0 := CZb.box.f0; have p1 := CZb.box.f1; have p2 := CZb.box.f2) | skip) | (have tb2 : Below ua.heap.size ua wb2 := tb1.trans ((kYb.trans (kb2.mono kYb.size)).mono tb1.size); have twb3 := hcellsb tb2; have XBb := (X.below tb2).box; have CZb : RVar wb2 wb1.heap.size := RYb.below kb2; have twsb := And.intro (XBb.other hmb (.bool bpb) (.slice x1b nsb.length z1b) (.slice x2b dsb.length z2b)).c0 (And.intro (XBb.other hmb (.bool bpb) (.slice x1b nsb.length z1b) (.slice x2b dsb.length z2b)).c1 (XBb.other hmb (.bool bpb) (.slice x1b nsb.length z1b) (.slice x2b dsb.length z2b)).c2); have q0 := CZb.box.c0; have q1 := CZb.box.c1; have q2 := CZb.box.c2; have p0 := CZb.box.f0; have p1 := CZb.box.f1; have p2 := CZb.box.f2)))
    · have gg : Below w.heap.size w (wb2.alloc (.cells #[.bool bpb, .slice x1b nsb.length z1b, .slice x2b dsb.length z2b] 24)) := (g.trans (tb2.mono g.size)).alloc (Nat.le_trans g.size tb2.size) _
      have Q := nvar_new (b := bpb) opb.rd oqb.rd
      replace X := (X.below tb2).below (below_alloc wb2 (.cells #[.bool bpb, .slice x1b nsb.length z1b, .slice x2b dsb.length z2b] 24))
      replace P := (P.below tb2).below (below_alloc wb2 (.cells #[.bool bpb, .slice x1b nsb.length z1b, .slice x2b dsb.length z2b] 24))
      replace g := gg
      clear gg
      generalize hA : wb2.alloc (.cells #[.bool bpb, .slice x1b nsb.length z1b, .slice x2b dsb.length z2b] 24) = ub at *
      clear hA
      clear hcellsb hnb kZb RZb X0 X1 X2 twb1 twb2 twb3 XBb XXb XYb kYb RYb hmb BZb
      by_cases hea : era = 0
      · subst hea
        by_cases heb : erb = 0
        · subst heb
          have Ha : Hid (RightP bx xn xd ∧ RightP bpa nsa dsa ∧ ¬ (K < 0 ∧ xn.length = 0) ∧ sg bpa (val nsa) = sg bx (pnum (decide (K < 0)) xn xd) ^ K.natAbs ∧ val dsa = pden (decide (K < 0)) xn xd ^ K.natAbs) := HPa.out.2 rfl
          have Hb : Hid (RightP bx xn xd ∧ RightP bpb nsb dsb ∧ ¬ (K + 1 < 0 ∧ xn.length = 0) ∧ sg bpb (val nsb) = sg bx (pnum (decide (K + 1 < 0)) xn xd) ^ (K + 1).natAbs ∧ val dsb = pden (decide (K + 1 < 0)) xn xd ^ (K + 1).natAbs) := HPb.out.2 rfl
          clear HPa HPb
          obtain ⟨X0, X1, X2⟩ := X.cells
          obtain ⟨P0, P1, P2⟩ := P.cells
          obtain ⟨TL, _, _, kb101⟩ := nvar_two P X
          replace X := X.below kb101
          replace P := P.below kb101
          replace Q := Q.below kb101
          replace g := g.trans (kb101.mono g.size)
          clear kb101
          go_wp2_with fail
          clear P0 P1 P2 X0 X1 X2
          generalize hA : (ub.alloc (.cells #[.bool bpa, .slice x1a nsa.length z1a, .slice x2a dsa.length z2a, .bool bx, .slice a1 xn.length c1, .slice a2 xd.length c2] 24)) = v102 at *
          clear hA
          refine (mul2 TL P.rn P.rd X.rn X.rd (Nat.le_refl _)).mono ?_
          intro e w103 hm
          obtain ⟨k104, r1, r2, r3, r4, rfl, on, od⟩ := gives_is hm ⟨Ha.out.2.1, Ha.out.1⟩ (Int.mul_pos (right_pos Ha.out.2.1).1 (right_pos Ha.out.1).1) Hb.out.2.1 (by rw [Hb.out.2.2.2.1, Hb.out.2.2.2.2, Ha.out.2.2.2.1, Ha.out.2.2.2.2]; exact pow_step bx xn xd K)
          clear hm TL
          replace X := X.below k104
          replace P := P.below k104
          replace Q := Q.below k104
          replace g := g.trans (k104.mono g.size)
          have ka105 := below_alloc w103 (.cells #[.bool bpb, .slice r1 nsb.length r2, .slice r3 dsb.length r4] 24)
          have R := nvar_new (b := bpb) on.rd od.rd
          replace X := X.below ka105
          replace P := P.below ka105
          replace Q := Q.below ka105
          replace g := g.trans (ka105.mono g.size)
          clear ka105
          by_cases hk1 : K = -1
          · subst hk1
            obtain ⟨X0, X1, X2⟩ := X.cells
            go_wp2_with fail
            clear X0 X1 X2
            generalize hA : (w103.alloc (.cells #[.bool bpb, .slice r1 nsb.length r2, .slice r3 dsb.length r4] 24)) = v106 at *
            clear hA
            refine (sign_rat X.rn X.rd).mono ?_
            rintro e w107 ⟨k108, rs, rfl, HS⟩
            replace X := X.below k108
            replace P := P.below k108
            replace Q := Q.below k108
            replace R := R.below k108
            replace g := g.trans (k108.mono g.size)
            have hsb : (rs == 0) = false := by
              rw [beq_eq_false_iff_ne, HS.out.2 Ha.out.1]
              intro h5
              have h6 : sg bx (val xn) = 0 := by
                unfold cmpI at h5
                split at h5
                · omega
                · split at h5 <;> omega
              have h7 : val xn = 0 := by unfold sg at h6; split at h6 <;> omega
              exact Ha.out.2.2.1 ⟨by omega, (can_zero Ha.out.1.2.2.1).2 h7⟩
            clear HS
            go_wp2_with fail
            refine (live_rat _ (tabIs_below htab g)).mono ?_
            rintro e w109 ⟨rfl, k110⟩
            replace X := X.below k110
            replace P := P.below k110
            replace Q := Q.below k110
            replace R := R.below k110
            replace g := g.trans (k110.mono g.size)
            obtain ⟨R0, R1, R2⟩ := R.cells
            obtain ⟨Q0, Q1, Q2⟩ := Q.cells
            go_wp2_with fail
            clear Q0 Q1 Q2 R0 R1 R2
            refine (same_rat R.rn R.rd Q.rn Q.rd).mono ?_
            rintro e w111 ⟨rfl, k112⟩
            go_wp2
            go_ret
            exact ⟨rfl, g.trans (k112.mono g.size)⟩
          · have hkb : (K == -1) = false := by rw [beq_eq_false_iff_ne]; exact hk1
            go_wp2_with fail
            generalize hA : (w103.alloc (.cells #[.bool bpb, .slice r1 nsb.length r2, .slice r3 dsb.length r4] 24)) = v113 at *
            clear hA
            refine (live_rat _ (tabIs_below htab g)).mono ?_
            rintro e w114 ⟨rfl, k115⟩
            replace X := X.below k115
            replace P := P.below k115
            replace Q := Q.below k115
            replace R := R.below k115
            replace g := g.trans (k115.mono g.size)
            obtain ⟨R0, R1, R2⟩ := R.cells
            obtain ⟨Q0, Q1, Q2⟩ := Q.cells
            go_wp2_with fail
            clear Q0 Q1 Q2 R0 R1 R2
            refine (same_rat R.rn R.rd Q.rn Q.rd).mono ?_
            rintro e w116 ⟨rfl, k117⟩
            go_wp2
            go_ret
            exact ⟨rfl, g.trans (k117.mono g.size)⟩
        · have hb1 : (erb == 0) = false := by rw [beq_eq_false_iff_ne]; exact heb
          have hb2 : (erb != 0) = true := by rw [bne_iff_ne]; exact heb
          go_wp2_with fail
          refine (live_rat _ (tabIs_below htab g)).mono ?_
          rintro e wl118 ⟨rfl, kl119⟩
          go_wp2
          go_ret
          exact ⟨rfl, g.trans (kl119.mono g.size)⟩
      · have hb1 : (era == 0) = false := by rw [beq_eq_false_iff_ne]; exact hea
        have hb2 : (era != 0) = true := by rw [bne_iff_ne]; exact hea
        by_cases h22 : era = 22
        · subst h22
          have HN : Hid (¬ RightP bx xn xd) := HPa.out.1.1 rfl
          go_wp2_with fail
          refine (live_rat _ (tabIs_below htab g)).mono ?_
          rintro e w201 ⟨rfl, k202⟩
          replace X := X.below k202
          replace P := P.below k202
          replace Q := Q.below k202
          replace g := g.trans (k202.mono g.size)
          obtain ⟨X0, X1, X2⟩ := X.cells
          go_wp2_with fail
          clear X0 X1 X2
          refine (right_rat X.rn X.rd (Nat.le_refl _)).mono ?_
          rintro e w203 ⟨⟨r, rfl, hr⟩, k204⟩
          have hrf : r = false := by
            cases r with
            | false => rfl
            | true => exact absurd (hr.1 rfl) HN.out
          subst hrf
          clear hr
          go_wp2
          go_ret
          exact ⟨rfl, g.trans (k204.mono g.size)⟩
        · have hb3 : (era == 22) = false := by rw [beq_eq_false_iff_ne]; exact h22
          have hb4 : (era != 22) = true := by rw [bne_iff_ne]; exact h22
          go_wp2_with fail
          refine (live_rat _ (tabIs_below htab g)).mono ?_
          rintro e wl205 ⟨rfl, kl206⟩
          go_wp2
          go_ret
          exact ⟨rfl, g.trans (kl206.mono g.size)⟩
    · have kle : w.heap.size ≤ wb1.heap.size := Nat.le_trans g.size tb1.size
      have gg : Below w.heap.size w (((wb2.setCell ⟨wb1.heap.size, 0, none⟩ (.bool bpb)).setCell ⟨wb1.heap.size, 1, none⟩ (.slice x1b nsb.length z1b)).setCell ⟨wb1.heap.size, 2, none⟩ (.slice x2b dsb.length z2b)) := Below.set3 (g.trans (tb2.mono g.size)) kle _ _ _
      have szz : (((wb2.setCell ⟨wb1.heap.size, 0, none⟩ (.bool bpb)).setCell ⟨wb1.heap.size, 1, none⟩ (.slice x1b nsb.length z1b)).setCell ⟨wb1.heap.size, 2, none⟩ (.slice x2b dsb.length z2b)).heap.size = wb2.heap.size := by simp [World.setCell]
      have Q : NVar (((wb2.setCell ⟨wb1.heap.size, 0, none⟩ (.bool bpb)).setCell ⟨wb1.heap.size, 1, none⟩ (.slice x1b nsb.length z1b)).setCell ⟨wb1.heap.size, 2, none⟩ (.slice x2b dsb.length z2b)) (wb1.heap.size) bpb x1b nsb z1b x2b dsb z2b := ⟨by rw [szz]; exact CZb.lt, CZb.box.set _ _ _, (Own.set3 opb (by simp) _ _ _).rd, (Own.set3 oqb (by simp) _ _ _).rd⟩
      replace X := X.below (Below.set3 tb2 (tb1.size) (.bool bpb) (.slice x1b nsb.length z1b) (.slice x2b dsb.length z2b))
      replace P := P.below (Below.set3 tb2 (tb1.size) (.bool bpb) (.slice x1b nsb.length z1b) (.slice x2b dsb.length z2b))
      replace g := gg
      clear gg szz kle
      generalize hA : ((wb2.setCell ⟨wb1.heap.size, 0, none⟩ (.bool bpb)).setCell ⟨wb1.heap.size, 1, none⟩ (.slice x1b nsb.length z1b)).setCell ⟨wb1.heap.size, 2, none⟩ (.slice x2b dsb.length z2b) = ub at *
      clear hA
      clear hcellsb hnb kZb RZb X0 X1 X2 twb1 twb2 twb3 XBb XXb XYb kYb RYb hmb BZb CZb twsb q0 q1 q2 p0 p1 p2
      by_cases hea : era = 0
      · subst hea
        by_cases heb : erb = 0
        · subst heb
          have Ha : Hid (RightP bx xn xd ∧ RightP bpa nsa dsa ∧ ¬ (K < 0 ∧ xn.length = 0) ∧ sg bpa (val nsa) = sg bx (pnum (decide (K < 0)) xn xd) ^ K.natAbs ∧ val dsa = pden (decide (K < 0)) xn xd ^ K.natAbs) := HPa.out.2 rfl
          have Hb : Hid (RightP bx xn xd ∧ RightP bpb nsb dsb ∧ ¬ (K + 1 < 0 ∧ xn.length = 0) ∧ sg bpb (val nsb) = sg bx (pnum (decide (K + 1 < 0)) xn xd) ^ (K + 1).natAbs ∧ val dsb = pden (decide (K + 1 < 0)) xn xd ^ (K + 1).natAbs) := HPb.out.2 rfl
          clear HPa HPb
          obtain ⟨X0, X1, X2⟩ := X.cells
          obtain ⟨P0, P1, P2⟩ := P.cells
          obtain ⟨TL, _, _, kb101⟩ := nvar_two P X
          replace X := X.below kb101
          replace P := P.below kb101
          replace Q := Q.below kb101
          replace g := g.trans (kb101.mono g.size)
          clear kb101
          go_wp2_with fail
          clear P0 P1 P2 X0 X1 X2
          generalize hA : (ub.alloc (.cells #[.bool bpa, .slice x1a nsa.length z1a, .slice x2a dsa.length z2a, .bool bx, .slice a1 xn.length c1, .slice a2 xd.length c2] 24)) = v102 at *
          clear hA
          refine (mul2 TL P.rn P.rd X.rn X.rd (Nat.le_refl _)).mono ?_
          intro e w103 hm
          obtain ⟨k104, r1, r2, r3, r4, rfl, on, od⟩ := gives_is hm ⟨Ha.out.2.1, Ha.out.1⟩ (Int.mul_pos (right_pos Ha.out.2.1).1 (right_pos Ha.out.1).1) Hb.out.2.1 (by rw [Hb.out.2.2.2.1, Hb.out.2.2.2.2, Ha.out.2.2.2.1, Ha.out.2.2.2.2]; exact pow_step bx xn xd K)
          clear hm TL
          replace X := X.below k104
          replace P := P.below k104
          replace Q := Q.below k104
          replace g := g.trans (k104.mono g.size)
          have ka105 := below_alloc w103 (.cells #[.bool bpb, .slice r1 nsb.length r2, .slice r3 dsb.length r4] 24)
          have R := nvar_new (b := bpb) on.rd od.rd
          replace X := X.below ka105
          replace P := P.below ka105
          replace Q := Q.below ka105
          replace g := g.trans (ka105.mono g.size)
          clear ka105
          by_cases hk1 : K = -1
          · subst hk1
            obtain ⟨X0, X1, X2⟩ := X.cells
            go_wp2_with fail
            clear X0 X1 X2
            generalize hA : (w103.alloc (.cells #[.bool bpb, .slice r1 nsb.length r2, .slice r3 dsb.length r4] 24)) = v106 at *
            clear hA
            refine (sign_rat X.rn X.rd).mono ?_
            rintro e w107 ⟨k108, rs, rfl, HS⟩
            replace X := X.below k108
            replace P := P.below k108
            replace Q := Q.below k108
            replace R := R.below k108
            replace g := g.trans (k108.mono g.size)
            have hsb : (rs == 0) = false := by
              rw [beq_eq_false_iff_ne, HS.out.2 Ha.out.1]
              intro h5
              have h6 : sg bx (val xn) = 0 := by
                unfold cmpI at h5
                split at h5
                · omega
                · split at h5 <;> omega
              have h7 : val xn = 0 := by unfold sg at h6; split at h6 <;> omega
              exact Ha.out.2.2.1 ⟨by omega, (can_zero Ha.out.1.2.2.1).2 h7⟩
            clear HS
            go_wp2_with fail
            refine (live_rat _ (tabIs_below htab g)).mono ?_
            rintro e w109 ⟨rfl, k110⟩
            replace X := X.below k110
            replace P := P.below k110
            replace Q := Q.below k110
            replace R := R.below k110
            replace g := g.trans (k110.mono g.size)
            obtain ⟨R0, R1, R2⟩ := R.cells
            obtain ⟨Q0, Q1, Q2⟩ := Q.cells
            go_wp2_with fail
            clear Q0 Q1 Q2 R0 R1 R2
            refine (same_rat R.rn R.rd Q.rn Q.rd).mono ?_
            rintro e w111 ⟨rfl, k112⟩
            go_wp2
            go_ret
            exact ⟨rfl, g.trans (k112.mono g.size)⟩
          · have hkb : (K == -1) = false := by rw [beq_eq_false_iff_ne]; exact hk1
            go_wp2_with fail
            generalize hA : (w103.alloc (.cells #[.bool bpb, .slice r1 nsb.length r2, .slice r3 dsb.length r4] 24)) = v113 at *
            clear hA
            refine (live_rat _ (tabIs_below htab g)).mono ?_
            rintro e w114 ⟨rfl, k115⟩
            replace X := X.below k115
            replace P := P.below k115
            replace Q := Q.below k115
            replace R := R.below k115
            replace g := g.trans (k115.mono g.size)
            obtain ⟨R0, R1, R2⟩ := R.cells
            obtain ⟨Q0, Q1, Q2⟩ := Q.cells
            go_wp2_with fail
            clear Q0 Q1 Q2 R0 R1 R2
            refine (same_rat R.rn R.rd Q.rn Q.rd).mono ?_
            rintro e w116 ⟨rfl, k117⟩
            go_wp2
            go_ret
            exact ⟨rfl, g.trans (k117.mono g.size)⟩
        · have hb1 : (erb == 0) = false := by rw [beq_eq_false_iff_ne]; exact heb
          have hb2 : (erb != 0) = true := by rw [bne_iff_ne]; exact heb
          go_wp2_with fail
          refine (live_rat _ (tabIs_below htab g)).mono ?_
          rintro e wl118 ⟨rfl, kl119⟩
          go_wp2
          go_ret
          exact ⟨rfl, g.trans (kl119.mono g.size)⟩
      · have hb1 : (era == 0) = false := by rw [beq_eq_false_iff_ne]; exact hea
        have hb2 : (era != 0) = true := by rw [bne_iff_ne]; exact hea
        by_cases h22 : era = 22
        · subst h22
          have HN : Hid (¬ RightP bx xn xd) := HPa.out.1.1 rfl
          go_wp2_with fail
          refine (live_rat _ (tabIs_below htab g)).mono ?_
          rintro e w201 ⟨rfl, k202⟩
          replace X := X.below k202
          replace P := P.below k202
          replace Q := Q.below k202
          replace g := g.trans (k202.mono g.size)
          obtain ⟨X0, X1, X2⟩ := X.cells
          go_wp2_with fail
          clear X0 X1 X2
          refine (right_rat X.rn X.rd (Nat.le_refl _)).mono ?_
          rintro e w203 ⟨⟨r, rfl, hr⟩, k204⟩
          have hrf : r = false := by
            cases r with
            | false => rfl
            | true => exact absurd (hr.1 rfl) HN.out
          subst hrf
          clear hr
          go_wp2
          go_ret
          exact ⟨rfl, g.trans (k204.mono g.size)⟩
        · have hb3 : (era == 22) = false := by rw [beq_eq_false_iff_ne]; exact h22
          have hb4 : (era != 22) = true := by rw [bne_iff_ne]; exact h22
          go_wp2_with fail
          refine (live_rat _ (tabIs_below htab g)).mono ?_
          rintro e wl205 ⟨rfl, kl206⟩
          go_wp2
          go_ret
          exact ⟨rfl, g.trans (kl206.mono g.size)⟩
    · have kle : w.heap.size ≤ ua.heap.size := g.size
      have gg : Below w.heap.size w (((wb2.setCell ⟨ua.heap.size, 0, none⟩ (.bool bpb)).setCell ⟨ua.heap.size, 1, none⟩ (.slice x1b nsb.length z1b)).setCell ⟨ua.heap.size, 2, none⟩ (.slice x2b dsb.length z2b)) := Below.set3 (g.trans (tb2.mono g.size)) kle _ _ _
      have szz : (((wb2.setCell ⟨ua.heap.size, 0, none⟩ (.bool bpb)).setCell ⟨ua.heap.size, 1, none⟩ (.slice x1b nsb.length z1b)).setCell ⟨ua.heap.size, 2, none⟩ (.slice x2b dsb.length z2b)).heap.size = wb2.heap.size := by simp [World.setCell]
      have Q : NVar (((wb2.setCell ⟨ua.heap.size, 0, none⟩ (.bool bpb)).setCell ⟨ua.heap.size, 1, none⟩ (.slice x1b nsb.length z1b)).setCell ⟨ua.heap.size, 2, none⟩ (.slice x2b dsb.length z2b)) (ua.heap.size) bpb x1b nsb z1b x2b dsb z2b := ⟨by rw [szz]; exact CZb.lt, CZb.box.set _ _ _, (Own.set3 opb BZb.lt _ _ _).rd, (Own.set3 oqb BZb.lt _ _ _).rd⟩
      replace X := X.below (Below.set3 tb2 (Nat.le_refl _) (.bool bpb) (.slice x1b nsb.length z1b) (.slice x2b dsb.length z2b))
      replace P := P.below (Below.set3 tb2 (Nat.le_refl _) (.bool bpb) (.slice x1b nsb.length z1b) (.slice x2b dsb.length z2b))
      replace g := gg
      clear gg szz kle
      generalize hA : ((wb2.setCell ⟨ua.heap.size, 0, none⟩ (.bool bpb)).setCell ⟨ua.heap.size, 1, none⟩ (.slice x1b nsb.length z1b)).setCell ⟨ua.heap.size, 2, none⟩ (.slice x2b dsb.length z2b) = ub at *
      clear hA
      clear hcellsb hnb kZb RZb X0 X1 X2 twb1 twb2 twb3 XBb XXb XYb kYb RYb hmb BZb CZb twsb q0 q1 q2 p0 p1 p2
      by_cases hea : era = 0
      · subst hea
        by_cases heb : erb = 0
        · subst heb
          have Ha : Hid (RightP bx xn xd ∧ RightP bpa nsa dsa ∧ ¬ (K < 0 ∧ xn.length = 0) ∧ sg bpa (val nsa) = sg bx (pnum (decide (K < 0)) xn xd) ^ K.natAbs ∧ val dsa = pden (decide (K < 0)) xn xd ^ K.natAbs) := HPa.out.2 rfl
          have Hb : Hid (RightP bx xn xd ∧ RightP bpb nsb dsb ∧ ¬ (K + 1 < 0 ∧ xn.length = 0) ∧ sg bpb (val nsb) = sg bx (pnum (decide (K + 1 < 0)) xn xd) ^ (K + 1).natAbs ∧ val dsb = pden (decide (K + 1 < 0)) xn xd ^ (K + 1).natAbs) := HPb.out.2 rfl
          clear HPa HPb
          obtain ⟨X0, X1, X2⟩ := X.cells
          obtain ⟨P0, P1, P2⟩ := P.cells
          obtain ⟨TL, _, _, kb101⟩ := nvar_two P X
          replace X := X.below kb101
          replace P := P.below kb101
          replace Q := Q.below kb101
          replace g := g.trans (kb101.mono g.size)
          clear kb101
          go_wp2_with fail
          clear P0 P1 P2 X0 X1 X2
          generalize hA : (ub.alloc (.cells #[.bool bpa, .slice x1a nsa.length z1a, .slice x2a dsa.length z2a, .bool bx, .slice a1 xn.length c1, .slice a2 xd.length c2] 24)) = v102 at *
          clear hA
          refine (mul2 TL P.rn P.rd X.rn X.rd (Nat.le_refl _)).mono ?_
          intro e w103 hm
          obtain ⟨k104, r1, r2, r3, r4, rfl, on, od⟩ := gives_is hm ⟨Ha.out.2.1, Ha.out.1⟩ (Int.mul_pos (right_pos Ha.out.2.1).1 (right_pos Ha.out.1).1) Hb.out.2.1 (by rw [Hb.out.2.2.2.1, Hb.out.2.2.2.2, Ha.out.2.2.2.1, Ha.out.2.2.2.2]; exact pow_step bx xn xd K)
          clear hm TL
          replace X := X.below k104
          replace P := P.below k104
          replace Q := Q.below k104
          replace g := g.trans (k104.mono g.size)
          have ka105 := below_alloc w103 (.cells #[.bool bpb, .slice r1 nsb.length r2, .slice r3 dsb.length r4] 24)
          have R := nvar_new (b := bpb) on.rd od.rd
          replace X := X.below ka105
          replace P := P.below ka105
          replace Q := Q.below ka105
          replace g := g.trans (ka105.mono g.size)
          clear ka105
          by_cases hk1 : K = -1
          · subst hk1
            obtain ⟨X0, X1, X2⟩ := X.cells
            go_wp2_with fail
            clear X0 X1 X2
            generalize hA : (w103.alloc (.cells #[.bool bpb, .slice r1 nsb.length r2, .slice r3 dsb.length r4] 24)) = v106 at *
            clear hA
            refine (sign_rat X.rn X.rd).mono ?_
            rintro e w107 ⟨k108, rs, rfl, HS⟩
            replace X := X.below k108
            replace P := P.below k108
            replace Q := Q.below k108
            replace R := R.below k108
            replace g := g.trans (k108.mono g.size)
            have hsb : (rs == 0) = false := by
              rw [beq_eq_false_iff_ne, HS.out.2 Ha.out.1]
              intro h5
              have h6 : sg bx (val xn) = 0 := by
                unfold cmpI at h5
                split at h5
                · omega
                · split at h5 <;> omega
              have h7 : val xn = 0 := by unfold sg at h6; split at h6 <;> omega
              exact Ha.out.2.2.1 ⟨by omega, (can_zero Ha.out.1.2.2.1).2 h7⟩
            clear HS
            go_wp2_with fail
            refine (live_rat _ (tabIs_below htab g)).mono ?_
            rintro e w109 ⟨rfl, k110⟩
            replace X := X.below k110
            replace P := P.below k110
            replace Q := Q.below k110
            replace R := R.below k110
            replace g := g.trans (k110.mono g.size)
            obtain ⟨R0, R1, R2⟩ := R.cells
            obtain ⟨Q0, Q1, Q2⟩ := Q.cells
            go_wp2_with fail
            clear Q0 Q1 Q2 R0 R1 R2
            refine (same_rat R.rn R.rd Q.rn Q.rd).mono ?_
            rintro e w111 ⟨rfl, k112⟩
            go_wp2
            go_ret
            exact ⟨rfl, g.trans (k112.mono g.size)⟩
          · have hkb : (K == -1) = false := by rw [beq_eq_false_iff_ne]; exact hk1
            go_wp2_with fail
            generalize hA : (w103.alloc (.cells #[.bool bpb, .slice r1 nsb.length r2, .slice r3 dsb.length r4] 24)) = v113 at *
            clear hA
            refine (live_rat _ (tabIs_below htab g)).mono ?_
            rintro e w114 ⟨rfl, k115⟩
            replace X := X.below k115
            replace P := P.below k115
            replace Q := Q.below k115
            replace R := R.below k115
            replace g := g.trans (k115.mono g.size)
            obtain ⟨R0, R1, R2⟩ := R.cells
            obtain ⟨Q0, Q1, Q2⟩ := Q.cells
            go_wp2_with fail
            clear Q0 Q1 Q2 R0 R1 R2
            refine (same_rat R.rn R.rd Q.rn Q.rd).mono ?_
            rintro e w116 ⟨rfl, k117⟩
            go_wp2
            go_ret
            exact ⟨rfl, g.trans (k117.mono g.size)⟩
        · have hb1 : (erb == 0) = false := by rw [beq_eq_false_iff_ne]; exact heb
          have hb2 : (erb != 0) = true := by rw [bne_iff_ne]; exact heb
          go_wp2_with fail
          refine (live_rat _ (tabIs_below htab g)).mono ?_
          rintro e wl118 ⟨rfl, kl119⟩
          go_wp2
          go_ret
          exact ⟨rfl, g.trans (kl119.mono g.size)⟩
      · have hb1 : (era == 0) = false := by rw [beq_eq_false_iff_ne]; exact hea
        have hb2 : (era != 0) = true := by rw [bne_iff_ne]; exact hea
        by_cases h22 : era = 22
        · subst h22
          have HN : Hid (¬ RightP bx xn xd) := HPa.out.1.1 rfl
          go_wp2_with fail
          refine (live_rat _ (tabIs_below htab g)).mono ?_
          rintro e w201 ⟨rfl, k202⟩
          replace X := X.below k202
          replace P := P.below k202
          replace Q := Q.below k202
          replace g := g.trans (k202.mono g.size)
          obtain ⟨X0, X1, X2⟩ := X.cells
          go_wp2_with fail
          clear X0 X1 X2
          refine (right_rat X.rn X.rd (Nat.le_refl _)).mono ?_
          rintro e w203 ⟨⟨r, rfl, hr⟩, k204⟩
          have hrf : r = false := by
            cases r with
            | false => rfl
            | true => exact absurd (hr.1 rfl) HN.out
          subst hrf
          clear hr
          go_wp2
          go_ret
          exact ⟨rfl, g.trans (k204.mono g.size)⟩
        · have hb3 : (era == 22) = false := by rw [beq_eq_false_iff_ne]; exact h22
          have hb4 : (era != 22) = true := by rw [bne_iff_ne]; exact h22
          go_wp2_with fail
          refine (live_rat _ (tabIs_below htab g)).mono ?_
          rintro e wl205 ⟨rfl, kl206⟩
          go_wp2
          go_ret
          exact ⟨rfl, g.trans (kl206.mono g.size)⟩
  · have kle : w.heap.size ≤ v.heap.size := g.size
    have gg : Below w.heap.size w (((wa2.setCell ⟨v.heap.size, 0, none⟩ (.bool bpa)).setCell ⟨v.heap.size, 1, none⟩ (.slice x1a nsa.length z1a)).setCell ⟨v.heap.size, 2, none⟩ (.slice x2a dsa.length z2a)) := Below.set3 (g.trans (ta2.mono g.size)) kle _ _ _
    have szz : (((wa2.setCell ⟨v.heap.size, 0, none⟩ (.bool bpa)).setCell ⟨v.heap.size, 1, none⟩ (.slice x1a nsa.length z1a)).setCell ⟨v.heap.size, 2, none⟩ (.slice x2a dsa.length z2a)).heap.size = wa2.heap.size := by simp [World.setCell]
    have P : NVar (((wa2.setCell ⟨v.heap.size, 0, none⟩ (.bool bpa)).setCell ⟨v.heap.size, 1, none⟩ (.slice x1a nsa.length z1a)).setCell ⟨v.heap.size, 2, none⟩ (.slice x2a dsa.length z2a)) (v.heap.size) bpa x1a nsa z1a x2a dsa z2a := ⟨by rw [szz]; exact CZa.lt, CZa.box.set _ _ _, (Own.set3 opa BZa.lt _ _ _).rd, (Own.set3 oqa BZa.lt _ _ _).rd⟩
    replace X := X.below (Below.set3 ta2 (Nat.le_refl _) (.bool bpa) (.slice x1a nsa.length z1a) (.slice x2a dsa.length z2a))
    replace g := gg
    clear gg szz kle
    generalize hA : ((wa2.setCell ⟨v.heap.size, 0, none⟩ (.bool bpa)).setCell ⟨v.heap.size, 1, none⟩ (.slice x1a nsa.length z1a)).setCell ⟨v.heap.size, 2, none⟩ (.slice x2a dsa.length z2a) = ua at *
    clear hA
    clear hcellsa hna kZa RZa X0 X1 X2 twa1 twa2 twa3 XBa XXa XYa kYa RYa hma BZa CZa twsa q0 q1 q2 p0 p1 p2
    go_wp2
    have hcellsb : ∀ {w' : World}, Below ua.heap.size ua w' → w'.cell? ⟨w.heap.size, 0, none⟩ = some (.bool bx) ∧ w'.cell? ⟨w.heap.size, 1, none⟩ = some (.slice a1 xn.length c1) ∧ w'.cell? ⟨w.heap.size, 2, none⟩ = some (.slice a2 xd.length c2) := fun hb => (X.below hb).cells
    obtain ⟨X0, X1, X2⟩ := X.cells
    have hnb : w.heap.size ≠ ua.heap.size := by have h5 := X.lt; omega
    have kZb := below_alloc ua.drew (.cells #[.bool false, .slice none 0 0, .slice none 0 0] 24)
    have RZb := rvar_new ua.drew
    go_region_held3 (fun w' => w'.cell? ⟨w.heap.size, 0, none⟩ = some (.bool bx) ∧ w'.cell? ⟨w.heap.size, 1, none⟩ = some (.slice a1 xn.length c1) ∧ w'.cell? ⟨w.heap.size, 2, none⟩ = some (.slice a2 xd.length c2))
      (first | (go_keep; done) | exact twb1 | exact twb2 | exact twb3 | exact twsb)
      (first
        | (go_at_call 19; refine (ofInt_any (K + 1) (by omega) (by omega) _).mono ?_; rintro e wb1 ⟨kb1, bb, ynb, ydb, y1b, y2b, y3b, y4b, HWb, rfl, onb, odb⟩; (first | (have tb1 : Below ua.heap.size ua wb1 := (below_undrew (w := ua) (B := ua.heap.size) kb1); have twb1 := hcellsb tb1; have XXb := X.below tb1; have BZb := True.intro) | (have tb1 : Below ua.heap.size ua wb1 := (below_undrew (w := ua) (B := ua.heap.size) (kZb.trans (kb1.mono kZb.size))); have twb1 := hcellsb tb1; have XXb := X.below tb1; have BZb : RVar wb1 ua.heap.size := RZb.below kb1)); have kYb := below_alloc wb1 (.cells #[.bool false, .slice none 0 0, .slice none 0 0] 24); have XYb := XXb.below kYb; have hmb : w.heap.size ≠ wb1.heap.size := (by have h5 := X.lt; have h6 := tb1.size; omega); have RYb := rvar_new wb1; have twb2 := XYb.cells)
        | (go_at_call 18; refine (power_rat (by first | exact XXb.rn | exact XYb.rn) (by first | exact XXb.rd | exact XYb.rd) (by first | exact onb.rd | exact (onb.alloc _).rd) (by first | exact odb.rd | exact (odb.alloc _).rd)).mono ?_; rintro e wb2 ⟨kb2, bpb, x1b, nnb, z1b, x2b, mmb, z2b, erb, rfl, HOb⟩; obtain ⟨nsb, dsb, rfl, rfl, opb, oqb, HPb⟩ := pows_is HWb.out HOb.out; clear HOb; first | (have tb2 : Below ua.heap.size ua wb2 := tb1.trans (kb2.mono tb1.size); have twb3 := hcellsb tb2; have XBb := (X.below tb2).box; first | (have CZb : RVar wb2 ua.heap.size := BZb.below kb2; have twsb := And.intro (XBb.other hnb (.bool bpb) (.slice x1b nsb.length z1b) (.slice x2b dsb.length z2b)).c0 (And.intro (XBb.other hnb (.bool bpb) (.slice x1b nsb.length z1b) (.slice x2b dsb.length z2b)).c1 (XBb.other hnb (.bool bpb) (.slice x1b nsb.length z1b) (.slice x2b dsb.length z2b)).c2); have q0 := CZb.box.c0; have q1 := CZb.box.c1; have q2 := CZb.box.c2; have p0 := CZb.box.f0; have p1 := CZb.box.f1; have p2 := CZb.box.f2) | skip) | (have tb2 : Below ua.heap.size ua wb2 := tb1.trans ((kYb.trans (kb2.mono kYb.size)).mono tb1.size); have twb3 := hcellsb tb2; have XBb := (X.below tb2).box; have CZb : RVar wb2 wb1.heap.size := RYb.below kb2; have twsb := And.intro (XBb.other hmb (.bool bpb) (.slice x1b nsb.length z1b) (.slice x2b dsb.length z2b)).c0 (And.intro (XBb.other hmb (.bool bpb) (.slice x1b nsb.length z1b) (.slice x2b dsb.length z2b)).c1 (XBb.other hmb (.bool bpb) (.slice x1b nsb.length z1b) (.slice x2b dsb.length z2b)).c2); have q0 := CZb.box.c0; have q1 := CZb.box.c1; have q2 := CZb.box.c2; have p0 := CZb.box.f0; have p1 := CZb.box.f1; have p2 := CZb.box.f2)))
    · have gg : Below w.heap.size w (wb2.alloc (.cells #[.bool bpb, .slice x1b nsb.length z1b, .slice x2b dsb.length z2b] 24)) := (g.trans (tb2.mono g.size)).alloc (Nat.le_trans g.size tb2.size) _
      have Q := nvar_new (b := bpb) opb.rd oqb.rd
      replace X := (X.below tb2).below (below_alloc wb2 (.cells #[.bool bpb, .slice x1b nsb.length z1b, .slice x2b dsb.length z2b] 24))
      replace P := (P.below tb2).below (below_alloc wb2 (.cells #[.bool bpb, .slice x1b nsb.length z1b, .slice x2b dsb.length z2b] 24))
      replace g := gg
      clear gg
      generalize hA : wb2.alloc (.cells #[.bool bpb, .slice x1b nsb.length z1b, .slice x2b dsb.length z2b] 24) = ub at *
      clear hA
      clear hcellsb hnb kZb RZb X0 X1 X2 twb1 twb2 twb3 XBb XXb XYb kYb RYb hmb BZb
      by_cases hea : era = 0
      · subst hea
        by_cases heb : erb = 0
        · subst heb
          have Ha : Hid (RightP bx xn xd ∧ RightP bpa nsa dsa ∧ ¬ (K < 0 ∧ xn.length = 0) ∧ sg bpa (val nsa) = sg bx (pnum (decide (K < 0)) xn xd) ^ K.natAbs ∧ val dsa = pden (decide (K < 0)) xn xd ^ K.natAbs) := HPa.out.2 rfl
          have Hb : Hid (RightP bx xn xd ∧ RightP bpb nsb dsb ∧ ¬ (K + 1 < 0 ∧ xn.length = 0) ∧ sg bpb (val nsb) = sg bx (pnum (decide (K + 1 < 0)) xn xd) ^ (K + 1).natAbs ∧ val dsb = pden (decide (K + 1 < 0)) xn xd ^ (K + 1).natAbs) := HPb.out.2 rfl
          clear HPa HPb
          obtain ⟨X0, X1, X2⟩ := X.cells
          obtain ⟨P0, P1, P2⟩ := P.cells
          obtain ⟨TL, _, _, kb101⟩ := nvar_two P X
          replace X := X.below kb101
          replace P := P.below kb101
          replace Q := Q.below kb101
          replace g := g.trans (kb101.mono g.size)
          clear kb101
          go_wp2_with fail
          clear P0 P1 P2 X0 X1 X2
          generalize hA : (ub.alloc (.cells #[.bool bpa, .slice x1a nsa.length z1a, .slice x2a dsa.length z2a, .bool bx, .slice a1 xn.length c1, .slice a2 xd.length c2] 24)) = v102 at *
          clear hA
          refine (mul2 TL P.rn P.rd X.rn X.rd (Nat.le_refl _)).mono ?_
          intro e w103 hm
          obtain ⟨k104, r1, r2, r3, r4, rfl, on, od⟩ := gives_is hm ⟨Ha.out.2.1, Ha.out.1⟩ (Int.mul_pos (right_pos Ha.out.2.1).1 (right_pos Ha.out.1).1) Hb.out.2.1 (by rw [Hb.out.2.2.2.1, Hb.out.2.2.2.2, Ha.out.2.2.2.1, Ha.out.2.2.2.2]; exact pow_step bx xn xd K)
          clear hm TL
          replace X := X.below k104
          replace P := P.below k104
          replace Q := Q.below k104
          replace g := g.trans (k104.mono g.size)
          have ka105 := below_alloc w103 (.cells #[.bool bpb, .slice r1 nsb.length r2, .slice r3 dsb.length r4] 24)
          have R := nvar_new (b := bpb) on.rd od.rd
          replace X := X.below ka105
          replace P := P.below ka105
          replace Q := Q.below ka105
          replace g := g.trans (ka105.mono g.size)
          clear ka105
          by_cases hk1 : K = -1
          · subst hk1
            obtain ⟨X0, X1, X2⟩ := X.cells
            go_wp2_with fail
            clear X0 X1 X2
            generalize hA : (w103.alloc (.cells #[.bool bpb, .slice r1 nsb.length r2, .slice r3 dsb.length r4] 24)) = v106 at *
            clear hA
            refine (sign_rat X.rn X.rd).mono ?_
            rintro e w107 ⟨k108, rs, rfl, HS⟩
            replace X := X.below k108
            replace P := P.below k108
            replace Q := Q.below k108
            replace R := R.below k108
            replace g := g.trans (k108.mono g.size)
            have hsb : (rs == 0) = false := by
              rw [beq_eq_false_iff_ne, HS.out.2 Ha.out.1]
              intro h5
              have h6 : sg bx (val xn) = 0 := by
                unfold cmpI at h5
                split at h5
                · omega
                · split at h5 <;> omega
              have h7 : val xn = 0 := by unfold sg at h6; split at h6 <;> omega
              exact Ha.out.2.2.1 ⟨by omega, (can_zero Ha.out.1.2.2.1).2 h7⟩
            clear HS
            go_wp2_with fail
            refine (live_rat _ (tabIs_below htab g)).mono ?_
            rintro e w109 ⟨rfl, k110⟩
            replace X := X.below k110
            replace P := P.below k110
            replace Q := Q.below k110
            replace R := R.below k110
            replace g := g.trans (k110.mono g.size)
            obtain ⟨R0, R1, R2⟩ := R.cells
            obtain ⟨Q0, Q1, Q2⟩ := Q.cells
            go_wp2_with fail
            clear Q0 Q1 Q2 R0 R1 R2
            refine (same_rat R.rn R.rd Q.rn Q.rd).mono ?_
            rintro e w111 ⟨rfl, k112⟩
            go_wp2
            go_ret
            exact ⟨rfl, g.trans (k112.mono g.size)⟩
          · have hkb : (K == -1) = false := by rw [beq_eq_false_iff_ne]; exact hk1
            go_wp2_with fail
            generalize hA : (w103.alloc (.cells #[.bool bpb, .slice r1 nsb.length r2, .slice r3 dsb.length r4] 24)) = v113 at *
            clear hA
            refine (live_rat _ (tabIs_below htab g)).mono ?_
            rintro e w114 ⟨rfl, k115⟩
            replace X := X.below k115
            replace P := P.below k115
            replace Q := Q.below k115
            replace R := R.below k115
            replace g := g.trans (k115.mono g.size)
            obtain ⟨R0, R1, R2⟩ := R.cells
            obtain ⟨Q0, Q1, Q2⟩ := Q.cells
            go_wp2_with fail
            clear Q0 Q1 Q2 R0 R1 R2
            refine (same_rat R.rn R.rd Q.rn Q.rd).mono ?_
            rintro e w116 ⟨rfl, k117⟩
            go_wp2
            go_ret
            exact ⟨rfl, g.trans (k117.mono g.size)⟩
        · have hb1 : (erb == 0) = false := by rw [beq_eq_false_iff_ne]; exact heb
          have hb2 : (erb != 0) = true := by rw [bne_iff_ne]; exact heb
          go_wp2_with fail
          refine (live_rat _ (tabIs_below htab g)).mono ?_
          rintro e wl118 ⟨rfl, kl119⟩
          go_wp2
          go_ret
          exact ⟨rfl, g.trans (kl119.mono g.size)⟩
      · have hb1 : (era == 0) = false := by rw [beq_eq_false_iff_ne]; exact hea
        have hb2 : (era != 0) = true := by rw [bne_iff_ne]; exact hea
        by_cases h22 : era = 22
        · subst h22
          have HN : Hid (¬ RightP bx xn xd) := HPa.out.1.1 rfl
          go_wp2_with fail
          refine (live_rat _ (tabIs_below htab g)).mono ?_
          rintro e w201 ⟨rfl, k202⟩
          replace X := X.below k202
          replace P := P.below k202
          replace Q := Q.below k202
          replace g := g.trans (k202.mono g.size)
          obtain ⟨X0, X1, X2⟩ := X.cells
          go_wp2_with fail
          clear X0 X1 X2
          refine (right_rat X.rn X.rd (Nat.le_refl _)).mono ?_
          rintro e w203 ⟨⟨r, rfl, hr⟩, k204⟩
          have hrf : r = false := by
            cases r with
            | false => rfl
            | true => exact absurd (hr.1 rfl) HN.out
          subst hrf
          clear hr
          go_wp2
          go_ret
          exact ⟨rfl, g.trans (k204.mono g.size)⟩
        · have hb3 : (era == 22) = false := by rw [beq_eq_false_iff_ne]; exact h22
          have hb4 : (era != 22) = true := by rw [bne_iff_ne]; exact h22
          go_wp2_with fail
          refine (live_rat _ (tabIs_below htab g)).mono ?_
          rintro e wl205 ⟨rfl, kl206⟩
          go_wp2
          go_ret
          exact ⟨rfl, g.trans (kl206.mono g.size)⟩
    · have kle : w.heap.size ≤ wb1.heap.size := Nat.le_trans g.size tb1.size
      have gg : Below w.heap.size w (((wb2.setCell ⟨wb1.heap.size, 0, none⟩ (.bool bpb)).setCell ⟨wb1.heap.size, 1, none⟩ (.slice x1b nsb.length z1b)).setCell ⟨wb1.heap.size, 2, none⟩ (.slice x2b dsb.length z2b)) := Below.set3 (g.trans (tb2.mono g.size)) kle _ _ _
      have szz : (((wb2.setCell ⟨wb1.heap.size, 0, none⟩ (.bool bpb)).setCell ⟨wb1.heap.size, 1, none⟩ (.slice x1b nsb.length z1b)).setCell ⟨wb1.heap.size, 2, none⟩ (.slice x2b dsb.length z2b)).heap.size = wb2.heap.size := by simp [World.setCell]
      have Q : NVar (((wb2.setCell ⟨wb1.heap.size, 0, none⟩ (.bool bpb)).setCell ⟨wb1.heap.size, 1, none⟩ (.slice x1b nsb.length z1b)).setCell ⟨wb1.heap.size, 2, none⟩ (.slice x2b dsb.length z2b)) (wb1.heap.size) bpb x1b nsb z1b x2b dsb z2b := ⟨by rw [szz]; exact CZb.lt, CZb.box.set _ _ _, (Own.set3 opb (by simp) _ _ _).rd, (Own.set3 oqb (by simp) _ _ _).rd⟩
      replace X := X.below (Below.set3 tb2 (tb1.size) (.bool bpb) (.slice x1b nsb.length z1b) (.slice x2b dsb.length z2b))
      replace P := P.below (Below.set3 tb2 (tb1.size) (.bool bpb) (.slice x1b nsb.length z1b) (.slice x2b dsb.length z2b))
      replace g := gg
      clear gg szz kle
      generalize hA : ((wb2.setCell ⟨wb1.heap.size, 0, none⟩ (.bool bpb)).setCell ⟨wb1.heap.size, 1, none⟩ (.slice x1b nsb.length z1b)).setCell ⟨wb1.heap.size, 2, none⟩ (.slice x2b dsb.length z2b) = ub at *
      clear hA
      clear hcellsb hnb kZb RZb X0 X1 X2 twb1 twb2 twb3 XBb XXb XYb kYb RYb hmb BZb CZb twsb q0 q1 q2 p0 p1 p2
      by_cases hea : era = 0
      · subst hea
        by_cases heb : erb = 0
        · subst heb
          have Ha : Hid (RightP bx xn xd ∧ RightP bpa nsa dsa ∧ ¬ (K < 0 ∧ xn.length = 0) ∧ sg bpa (val nsa) = sg bx (pnum (decide (K < 0)) xn xd) ^ K.natAbs ∧ val dsa = pden (decide (K < 0)) xn xd ^ K.natAbs) := HPa.out.2 rfl
          have Hb : Hid (RightP bx xn xd ∧ RightP bpb nsb dsb ∧ ¬ (K + 1 < 0 ∧ xn.length = 0) ∧ sg bpb (val nsb) = sg bx (pnum (decide (K + 1 < 0)) xn xd) ^ (K + 1).natAbs ∧ val dsb = pden (decide (K + 1 < 0)) xn xd ^ (K + 1).natAbs) := HPb.out.2 rfl
          clear HPa HPb
          obtain ⟨X0, X1, X2⟩ := X.cells
          obtain ⟨P0, P1, P2⟩ := P.cells
          obtain ⟨TL, _, _, kb101⟩ := nvar_two P X
          replace X := X.below kb101
          replace P := P.below kb101
          replace Q := Q.below kb101
          replace g := g.trans (kb101.mono g.size)
          clear kb101
          go_wp2_with fail
          clear P0 P1 P2 X0 X1 X2
          generalize hA : (ub.alloc (.cells #[.bool bpa, .slice x1a nsa.length z1a, .slice x2a dsa.length z2a, .bool bx, .slice a1 xn.length c1, .slice a2 xd.length c2] 24)) = v102 at *
          clear hA
          refine (mul2 TL P.rn P.rd X.rn X.rd (Nat.le_refl _)).mono ?_
          intro e w103 hm
          obtain ⟨k104, r1, r2, r3, r4, rfl, on, od⟩ := gives_is hm ⟨Ha.out.2.1, Ha.out.1⟩ (Int.mul_pos (right_pos Ha.out.2.1).1 (right_pos Ha.out.1).1) Hb.out.2.1 (by rw [Hb.out.2.2.2.1, Hb.out.2.2.2.2, Ha.out.2.2.2.1, Ha.out.2.2.2.2]; exact pow_step bx xn xd K)
          clear hm TL
          replace X := X.below k104
          replace P := P.below k104
          replace Q := Q.below k104
          replace g := g.trans (k104.mono g.size)
          have ka105 := below_alloc w103 (.cells #[.bool bpb, .slice r1 nsb.length r2, .slice r3 dsb.length r4] 24)
          have R := nvar_new (b := bpb) on.rd od.rd
          replace X := X.below ka105
          replace P := P.below ka105
          replace Q := Q.below ka105
          replace g := g.trans (ka105.mono g.size)
          clear ka105
          by_cases hk1 : K = -1
          · subst hk1
            obtain ⟨X0, X1, X2⟩ := X.cells
            go_wp2_with fail
            clear X0 X1 X2
            generalize hA : (w103.alloc (.cells #[.bool bpb, .slice r1 nsb.length r2, .slice r3 dsb.length r4] 24)) = v106 at *
            clear hA
            refine (sign_rat X.rn X.rd).mono ?_
            rintro e w107 ⟨k108, rs, rfl, HS⟩
            replace X := X.below k108
            replace P := P.below k108
            replace Q := Q.below k108
            replace R := R.below k108
            replace g := g.trans (k108.mono g.size)
            have hsb : (rs == 0) = false := by
              rw [beq_eq_false_iff_ne, HS.out.2 Ha.out.1]
              intro h5
              have h6 : sg bx (val xn) = 0 := by
                unfold cmpI at h5
                split at h5
                · omega
                · split at h5 <;> omega
              have h7 : val xn = 0 := by unfold sg at h6; split at h6 <;> omega
              exact Ha.out.2.2.1 ⟨by omega, (can_zero Ha.out.1.2.2.1).2 h7⟩
            clear HS
            go_wp2_with fail
            refine (live_rat _ (tabIs_below htab g)).mono ?_
            rintro e w109 ⟨rfl, k110⟩
            replace X := X.below k110
            replace P := P.below k110
            replace Q := Q.below k110
            replace R := R.below k110
            replace g := g.trans (k110.mono g.size)
            obtain ⟨R0, R1, R2⟩ := R.cells
            obtain ⟨Q0, Q1, Q2⟩ := Q.cells
            go_wp2_with fail
            clear Q0 Q1 Q2 R0 R1 R2
            refine (same_rat R.rn R.rd Q.rn Q.rd).mono ?_
            rintro e w111 ⟨rfl, k112⟩
            go_wp2
            go_ret
            exact ⟨rfl, g.trans (k112.mono g.size)⟩
          · have hkb : (K == -1) = false := by rw [beq_eq_false_iff_ne]; exact hk1
            go_wp2_with fail
            generalize hA : (w103.alloc (.cells #[.bool bpb, .slice r1 nsb.length r2, .slice r3 dsb.length r4] 24)) = v113 at *
            clear hA
            refine (live_rat _ (tabIs_below htab g)).mono ?_
            rintro e w114 ⟨rfl, k115⟩
            replace X := X.below k115
            replace P := P.below k115
            replace Q := Q.below k115
            replace R := R.below k115
            replace g := g.trans (k115.mono g.size)
            obtain ⟨R0, R1, R2⟩ := R.cells
            obtain ⟨Q0, Q1, Q2⟩ := Q.cells
            go_wp2_with fail
            clear Q0 Q1 Q2 R0 R1 R2
            refine (same_rat R.rn R.rd Q.rn Q.rd).mono ?_
            rintro e w116 ⟨rfl, k117⟩
            go_wp2
            go_ret
            exact ⟨rfl, g.trans (k117.mono g.size)⟩
        · have hb1 : (erb == 0) = false := by rw [beq_eq_false_iff_ne]; exact heb
          have hb2 : (erb != 0) = true := by rw [bne_iff_ne]; exact heb
          go_wp2_with fail
          refine (live_rat _ (tabIs_below htab g)).mono ?_
          rintro e wl118 ⟨rfl, kl119⟩
          go_wp2
          go_ret
          exact ⟨rfl, g.trans (kl119.mono g.size)⟩
      · have hb1 : (era == 0) = false := by rw [beq_eq_false_iff_ne]; exact hea
        have hb2 : (era != 0) = true := by rw [bne_iff_ne]; exact hea
        by_cases h22 : era = 22
        · subst h22
          have HN : Hid (¬ RightP bx xn xd) := HPa.out.1.1 rfl
          go_wp2_with fail
          refine (live_rat _ (tabIs_below htab g)).mono ?_
          rintro e w201 ⟨rfl, k202⟩
          replace X := X.below k202
          replace P := P.below k202
          replace Q := Q.below k202
          replace g := g.trans (k202.mono g.size)
          obtain ⟨X0, X1, X2⟩ := X.cells
          go_wp2_with fail
          clear X0 X1 X2
          refine (right_rat X.rn X.rd (Nat.le_refl _)).mono ?_
          rintro e w203 ⟨⟨r, rfl, hr⟩, k204⟩
          have hrf : r = false := by
            cases r with
            | false => rfl
            | true => exact absurd (hr.1 rfl) HN.out
          subst hrf
          clear hr
          go_wp2
          go_ret
          exact ⟨rfl, g.trans (k204.mono g.size)⟩
        · have hb3 : (era == 22) = false := by rw [beq_eq_false_iff_ne]; exact h22
          have hb4 : (era != 22) = true := by rw [bne_iff_ne]; exact h22
          go_wp2_with fail
          refine (live_rat _ (tabIs_below htab g)).mono ?_
          rintro e wl205 ⟨rfl, kl206⟩
          go_wp2
          go_ret
          exact ⟨rfl, g.trans (kl206.mono g.size)⟩
    · have kle : w.heap.size ≤ ua.heap.size := g.size
      have gg : Below w.heap.size w (((wb2.setCell ⟨ua.heap.size, 0, none⟩ (.bool bpb)).setCell ⟨ua.heap.size, 1, none⟩ (.slice x1b nsb.length z1b)).setCell ⟨ua.heap.size, 2, none⟩ (.slice x2b dsb.length z2b)) := Below.set3 (g.trans (tb2.mono g.size)) kle _ _ _
      have szz : (((wb2.setCell ⟨ua.heap.size, 0, none⟩ (.bool bpb)).setCell ⟨ua.heap.size, 1, none⟩ (.slice x1b nsb.length z1b)).setCell ⟨ua.heap.size, 2, none⟩ (.slice x2b dsb.length z2b)).heap.size = wb2.heap.size := by simp [World.setCell]
      have Q : NVar (((wb2.setCell ⟨ua.heap.size, 0, none⟩ (.bool bpb)).setCell ⟨ua.heap.size, 1, none⟩ (.slice x1b nsb.length z1b)).setCell ⟨ua.heap.size, 2, none⟩ (.slice x2b dsb.length z2b)) (ua.heap.size) bpb x1b nsb z1b x2b dsb z2b := ⟨by rw [szz]; exact CZb.lt, CZb.box.set _ _ _, (Own.set3 opb BZb.lt _ _ _).rd, (Own.set3 oqb BZb.lt _ _ _).rd⟩
      replace X := X.below (Below.set3 tb2 (Nat.le_refl _) (.bool bpb) (.slice x1b nsb.length z1b) (.slice x2b dsb.length z2b))
      replace P := P.below (Below.set3 tb2 (Nat.le_refl _) (.bool bpb) (.slice x1b nsb.length z1b) (.slice x2b dsb.length z2b))
      replace g := gg
      clear gg szz kle
      generalize hA : ((wb2.setCell ⟨ua.heap.size, 0, none⟩ (.bool bpb)).setCell ⟨ua.heap.size, 1, none⟩ (.slice x1b nsb.length z1b)).setCell ⟨ua.heap.size, 2, none⟩ (.slice x2b dsb.length z2b) = ub at *
      clear hA
      clear hcellsb hnb kZb RZb X0 X1 X2 twb1 twb2 twb3 XBb XXb XYb kYb RYb hmb BZb CZb twsb q0 q1 q2 p0 p1 p2
      by_cases hea : era = 0
      · subst hea
        by_cases heb : erb = 0
        · subst heb
          have Ha : Hid (RightP bx xn xd ∧ RightP bpa nsa dsa ∧ ¬ (K < 0 ∧ xn.length = 0) ∧ sg bpa (val nsa) = sg bx (pnum (decide (K < 0)) xn xd) ^ K.natAbs ∧ val dsa = pden (decide (K < 0)) xn xd ^ K.natAbs) := HPa.out.2 rfl
          have Hb : Hid (RightP bx xn xd ∧ RightP bpb nsb dsb ∧ ¬ (K + 1 < 0 ∧ xn.length = 0) ∧ sg bpb (val nsb) = sg bx (pnum (decide (K + 1 < 0)) xn xd) ^ (K + 1).natAbs ∧ val dsb = pden (decide (K + 1 < 0)) xn xd ^ (K + 1).natAbs) := HPb.out.2 rfl
          clear HPa HPb
          obtain ⟨X0, X1, X2⟩ := X.cells
          obtain ⟨P0, P1, P2⟩ := P.cells
          obtain ⟨TL, _, _, kb101⟩ := nvar_two P X
          replace X := X.below kb101
          replace P := P.below kb101
          replace Q := Q.below kb101
          replace g := g.trans (kb101.mono g.size)
          clear kb101
          go_wp2_with fail
          clear P0 P1 P2 X0 X1 X2
          generalize hA : (ub.alloc (.cells #[.bool bpa, .slice x1a nsa.length z1a, .slice x2a dsa.length z2a, .bool bx, .slice a1 xn.length c1, .slice a2 xd.length c2] 24)) = v102 at *
          clear hA
          refine (mul2 TL P.rn P.rd X.rn X.rd (Nat.le_refl _)).mono ?_
          intro e w103 hm
          obtain ⟨k104, r1, r2, r3, r4, rfl, on, od⟩ := gives_is hm ⟨Ha.out.2.1, Ha.out.1⟩ (Int.mul_pos (right_pos Ha.out.2.1).1 (right_pos Ha.out.1).1) Hb.out.2.1 (by rw [Hb.out.2.2.2.1, Hb.out.2.2.2.2, Ha.out.2.2.2.1, Ha.out.2.2.2.2]; exact pow_step bx xn xd K)
          clear hm TL
          replace X := X.below k104
          replace P := P.below k104
          replace Q := Q.below k104
          replace g := g.trans (k104.mono g.size)
          have ka105 := below_alloc w103 (.cells #[.bool bpb, .slice r1 nsb.length r2, .slice r3 dsb.length r4] 24)
          have R := nvar_new (b := bpb) on.rd od.rd
          replace X := X.below ka105
          replace P := P.below ka105
          replace Q := Q.below ka105
          replace g := g.trans (ka105.mono g.size)
          clear ka105
          by_cases hk1 : K = -1
          · subst hk1
            obtain ⟨X0, X1, X2⟩ := X.cells
            go_wp2_with fail
            clear X0 X1 X2
            generalize hA : (w103.alloc (.cells #[.bool bpb, .slice r1 nsb.length r2, .slice r3 dsb.length r4] 24)) = v106 at *
            clear hA
            refine (sign_rat X.rn X.rd).mono ?_
            rintro e w107 ⟨k108, rs, rfl, HS⟩
            replace X := X.below k108
            replace P := P.below k108
            replace Q := Q.below k108
            replace R := R.below k108
            replace g := g.trans (k108.mono g.size)
            have hsb : (rs == 0) = false := by
              rw [beq_eq_false_iff_ne, HS.out.2 Ha.out.1]
              intro h5
              have h6 : sg bx (val xn) = 0 := by
                unfold cmpI at h5
                split at h5
                · omega
                · split at h5 <;> omega
              have h7 : val xn = 0 := by unfold sg at h6; split at h6 <;> omega
              exact Ha.out.2.2.1 ⟨by omega, (can_zero Ha.out.1.2.2.1).2 h7⟩
            clear HS
            go_wp2_with fail
            refine (live_rat _ (tabIs_below htab g)).mono ?_
            rintro e w109 ⟨rfl, k110⟩
            replace X := X.below k110
            replace P := P.below k110
            replace Q := Q.below k110
            replace R := R.below k110
            replace g := g.trans (k110.mono g.size)
            obtain ⟨R0, R1, R2⟩ := R.cells
            obtain ⟨Q0, Q1, Q2⟩ := Q.cells
            go_wp2_with fail
            clear Q0 Q1 Q2 R0 R1 R2
            refine (same_rat R.rn R.rd Q.rn Q.rd).mono ?_
            rintro e w111 ⟨rfl, k112⟩
            go_wp2
            go_ret
            exact ⟨rfl, g.trans (k112.mono g.size)⟩
          · have hkb : (K == -1) = false := by rw [beq_eq_false_iff_ne]; exact hk1
            go_wp2_with fail
            generalize hA : (w103.alloc (.cells #[.bool bpb, .slice r1 nsb.length r2, .slice r3 dsb.length r4] 24)) = v113 at *
            clear hA
            refine (live_rat _ (tabIs_below htab g)).mono ?_
            rintro e w114 ⟨rfl, k115⟩
            replace X := X.below k115
            replace P := P.below k115
            replace Q := Q.below k115
            replace R := R.below k115
            replace g := g.trans (k115.mono g.size)
            obtain ⟨R0, R1, R2⟩ := R.cells
            obtain ⟨Q0, Q1, Q2⟩ := Q.cells
            go_wp2_with fail
            clear Q0 Q1 Q2 R0 R1 R2
            refine (same_rat R.rn R.rd Q.rn Q.rd).mono ?_
            rintro e w116 ⟨rfl, k117⟩
            go_wp2
            go_ret
            exact ⟨rfl, g.trans (k117.mono g.size)⟩
        · have hb1 : (erb == 0) = false := by rw [beq_eq_false_iff_ne]; exact heb
          have hb2 : (erb != 0) = true := by rw [bne_iff_ne]; exact heb
          go_wp2_with fail
          refine (live_rat _ (tabIs_below htab g)).mono ?_
          rintro e wl118 ⟨rfl, kl119⟩
          go_wp2
          go_ret
          exact ⟨rfl, g.trans (kl119.mono g.size)⟩
      · have hb1 : (era == 0) = false := by rw [beq_eq_false_iff_ne]; exact hea
        have hb2 : (era != 0) = true := by rw [bne_iff_ne]; exact hea
        by_cases h22 : era = 22
        · subst h22
          have HN : Hid (¬ RightP bx xn xd) := HPa.out.1.1 rfl
          go_wp2_with fail
          refine (live_rat _ (tabIs_below htab g)).mono ?_
          rintro e w201 ⟨rfl, k202⟩
          replace X := X.below k202
          replace P := P.below k202
          replace Q := Q.below k202
          replace g := g.trans (k202.mono g.size)
          obtain ⟨X0, X1, X2⟩ := X.cells
          go_wp2_with fail
          clear X0 X1 X2
          refine (right_rat X.rn X.rd (Nat.le_refl _)).mono ?_
          rintro e w203 ⟨⟨r, rfl, hr⟩, k204⟩
          have hrf : r = false := by
            cases r with
            | false => rfl
            | true => exact absurd (hr.1 rfl) HN.out
          subst hrf
          clear hr
          go_wp2
          go_ret
          exact ⟨rfl, g.trans (k204.mono g.size)⟩
        · have hb3 : (era == 22) = false := by rw [beq_eq_false_iff_ne]; exact h22
          have hb4 : (era != 22) = true := by rw [bne_iff_ne]; exact h22
          go_wp2_with fail
          refine (live_rat _ (tabIs_below htab g)).mono ?_
          rintro e wl205 ⟨rfl, kl206⟩
          go_wp2
          go_ret
          exact ⟨rfl, g.trans (kl206.mono g.size)⟩
end Go.Proofs.YtekmalpmcbjpeaaDoor
