/- rat.wholeNextTo, rat.Floor: the whole numbers next to a number. -/
import Derived.Test.YtidbebfendjnlaaGreatDoorF0
import Derived.Test.YtidbebfendjnlaaGreatDoorJ5
import Derived.Test.YtidbebfendjnlaaGreatDoorJ1
namespace Go.Proofs.YtidbebfendjnlaaGreatDoor
set_option linter.unusedVariables false
set_option linter.unusedSimpArgs false
open Go.RowKit

/-- A result's variable. -/
structure RVar (w : World) (k : Nat) : Prop where
  lt : k < w.heap.size
  box : Box3 w k 25 (.bool false) (.slice none 0 0) (.slice none 0 0)
theorem RVar.below {w w' : World} {k : Nat} (h : RVar w k) (hb : Below w.heap.size w w') : RVar w' k := ⟨Nat.lt_of_lt_of_le h.lt hb.size, h.box.below hb h.lt⟩
theorem rvar_new (w : World) : RVar (w.alloc (.cells #[.bool false, .slice none 0 0, .slice none 0 0] 25)) w.heap.size := ⟨by simp, box3_new _ _ _ _ _⟩

/-- The size of the whole number next to a number: further away from 0, or nearer. -/
def wholeM (f : Bool) (n d : Int) : Int := n / d + if f = true ∧ ¬ n % d = 0 then 1 else 0

theorem div_unique {n d q r : Int} (h : n = q * d + r) (h0 : 0 ≤ r) (h1 : r < d) : q = n / d ∧ r = n % d := by
  have hd : 0 < d := by omega
  have e1 : n / d = q := by
    rw [h, Int.add_comm, Int.add_mul_ediv_right _ _ (by omega), Int.ediv_eq_zero_of_lt h0 h1]
    omega
  refine ⟨e1.symm, ?_⟩
  have e2 := Int.emod_def n d
  rw [e1] at e2
  rw [e2, h, Int.mul_comm d]
  omega

theorem floor_whole (b : Bool) (n d : Int) (hn : 0 ≤ n) (hd : 0 < d) : sg b (wholeM b n d) = sg b n / d := by
  have hm0 := Int.emod_nonneg n (show d ≠ 0 by omega)
  have hm1 := Int.emod_lt_of_pos n hd
  have he : n / d * d + n % d = n := by rw [Int.mul_comm]; exact Int.mul_ediv_add_emod n d
  unfold wholeM sg
  cases b with
  | false => simp
  | true =>
    by_cases h0 : n % d = 0
    · simp only [h0, not_true_eq_false, and_false, if_false, if_true, Int.add_zero]
      exact (div_unique (r := 0) (by rw [Int.neg_mul]; omega) (by omega) hd).1
    · simp only [h0, not_false_eq_true, and_true, if_true]
      refine (div_unique (r := d - n % d) ?_ (by omega) (by omega)).1
      rw [Int.neg_mul, Int.add_mul]
      omega

theorem one_val : val [(1 : Int)] = 1 := by decide
theorem can_add_one {q r : List Int} (c : can r) : (0 < r.length ↔ ¬ val r = 0) := by
  have := can_zero c
  omega

section
variable {B : Nat} {w : World} {bx : Bool} {a1 a2 : Option Addr} {c1 c2 : Nat} {xn xd : List Int}

set_option maxRecDepth 100000 in
set_option maxHeartbeats 8000000 in
theorem whole_rat (f : Bool) (h1 : Rd w.heap.size w (.slice a1 xn.length c1) xn) (h2 : Rd w.heap.size w (.slice a2 xd.length c2) xd) :
    Calls Tryz.prog 87 #[.agg #[.bool bx, .slice a1 xn.length c1, .slice a2 xd.length c2], .bool f] w fun e w' => Gives w (RightP bx xn xd) (sg bx (wholeM f (val xn) (val xd))) 1 e w' := by
  have X := nvar_new (b := bx) h1 h2
  have g := below_alloc w (.cells #[.bool bx, .slice a1 xn.length c1, .slice a2 xd.length c2] 25)
  have R := rvar_new (w.alloc (.cells #[.bool bx, .slice a1 xn.length c1, .slice a2 xd.length c2] 25))
  have ka := below_alloc (w.alloc (.cells #[.bool bx, .slice a1 xn.length c1, .slice a2 xd.length c2] 25)) (.cells #[.bool false, .slice none 0 0, .slice none 0 0] 25)
  rw [World.size_alloc] at R
  replace X := X.below ka
  replace g := g.trans (ka.mono g.size)
  clear ka h1 h2
  obtain ⟨x0, x1, x2⟩ := X.cells
  go_enter Tryz.func87, Tryz.ntmps87
  go_wp2_with fail
  clear x0 x1 x2
  generalize hA : (w.alloc (.cells #[.bool bx, .slice a1 xn.length c1, .slice a2 xd.length c2] 25)).alloc (.cells #[.bool false, .slice none 0 0, .slice none 0 0] 25) = v at *
  clear hA
  refine (right_rat X.rn X.rd (Nat.le_refl _)).mono ?_
  rintro e wa ⟨⟨r, rfl, hr⟩, ka⟩
  replace X := X.below ka
  replace R := R.below ka
  replace g := g.trans (ka.mono g.size)
  cases r with
  | false =>
    have HP : Hid (¬ RightP bx xn xd) := fun h => by have := hr.2 h; cases this
    clear hr
    have q0 := R.box.c0
    have q1 := R.box.c1
    have q2 := R.box.c2
    have p0 := R.box.f0
    have p1 := R.box.f1
    have p2 := R.box.f2
    go_wp2
    have hR3 := R.box.set (.bool false) (.slice none 0 0) (.slice none 0 0)
    have r0 := hR3.c0
    have r1 := hR3.c1
    have r2 := hR3.c2
    refine bodyPost_ret (v := .tuple #[.agg #[.bool false, .slice none 0 0, .slice none 0 0], .int .i64 22]) (by simp [results, Tryz.results87, go_sem, r0, r1, r2]) rfl ?_
    exact gives_err HP.out (Below.set3 g (by omega) _ _ _)
  | true =>
    have HP : Hid (RightP bx xn xd) := hr.1 rfl
    clear hr
    have l1 := HP.out.1
    have l2 := HP.out.2.1
    have l3 := HP.out.2.2.2.2.2.1
    have ga := g
    have Ra := R
    have s1 : w.heap.size ≤ wa.heap.size := g.size
    have hcells2 : ∀ {w' : World}, Below wa.heap.size wa w' → w'.cell? ⟨w.heap.size, 0, none⟩ = some (.bool bx) := fun hb => (X.below hb).k0
    have X2 : ∀ {w' : World}, Below wa.heap.size wa w' → NVar w' w.heap.size bx a1 xn c1 a2 xd c2 := fun hb => X.below hb
    obtain ⟨x0, x1, x2⟩ := X.cells
    go_wp2_with fail
    clear x0 x1 x2
    refine (divMod_any X.rn (Nat.le_refl _) X.rd (Nat.le_refl _) (by have := (right_pos HP.out).1; omega) (by omega) (by omega)).mono ?_
    rintro e wb ⟨qs, rs, a5, c5, a6, c6, rfl, oq, or, cq, cr, hv, hl, lq, lr, kb⟩
    have HU : Hid (val qs = val xn / val xd ∧ val rs = val xn % val xd) := div_unique hv (val_bound cr.1).1 hl
    clear hv hl
    replace X := X.below kb
    have t1 : Below wa.heap.size wa wb := kb
    clear kb R g
    have HRS : Hid (0 < rs.length ↔ ¬ val rs = 0) := can_add_one (q := qs) cr
    by_cases hcs : f = true ∧ 0 < rs.length
    · obtain ⟨rfl, hrl⟩ := hcs
      have HM : Hid (wholeM true (val xn) (val xd) = val qs + 1) := by
        unfold Hid wholeM
        rw [if_pos ⟨rfl, by rw [← HU.out.2]; exact HRS.out.1 hrl⟩, HU.out.1]
      have HF : Hid (wholeM true (val xn) (val xd) = val qs + 1) := HM
      go_wp2_with fail
      refine (one_any _).mono ?_
      rintro e wc ⟨a7, c7, rfl, o7, kc⟩
      replace X := X.below kc
      have t3 : Below wa.heap.size wa wc := t1.trans (kc.mono t1.size)
      have oqc := oq.below kc (Nat.le_refl _)
      go_wp2_with fail
      refine (sum2 oqc.rd o7.rd (Nat.le_refl _) (Nat.le_refl _) (by omega) (by simp)).mono ?_
      rintro e wd ⟨zs, cz, vz, lz, a8, c8, rfl, o8, kd⟩
      have HZ : Hid (val zs = wholeM true (val xn) (val xd)) := by
        unfold Hid; rw [vz, HM.out, one_val]
      clear vz
      replace X := X.below kd
      have t4 : Below wa.heap.size wa wd := t3.trans (kd.mono t3.size)
      have o9 : Own wa.heap.size wd (.slice a8 zs.length c8) zs := o8.mono t3.size
      have x0 := X.k0
      have hcells : ∀ {w' : World}, Below wd.heap.size wd w' → w'.cell? ⟨w.heap.size, 0, none⟩ = some (.bool bx) := fun hb => (X.below hb).k0
      have hne : w.heap.size + 1 ≠ w.heap.size := by omega
      go_wp2
      go_region_held3 (fun w' => w'.cell? ⟨w.heap.size, 0, none⟩ = some (.bool bx))
        (first | (go_keep; done) | exact tw | exact tw2 | exact (((Xf.box.apart (p := ⟨w.heap.size + 1, 0, none⟩) (by exact hne) _).apart (p := ⟨w.heap.size + 1, 1, none⟩) (by exact hne) _).apart (p := ⟨w.heap.size + 1, 2, none⟩) (by exact hne) _).c0)
        (first
          | (go_at_call 69; refine (one_any _).mono ?_; intro e we hm; obtain ⟨x2, y2, rfl, o3, bf⟩ := Makes.undrew hm; have tw := hcells bf; have t2 : Below wa.heap.size wa we := t4.trans (bf.mono t4.size))
          | (go_at_call 59; refine (limited_any (b := bx) (sg bx (wholeM true (val xn) (val xd))) 1 t2 (o9.below bf (Nat.le_refl _)) (o3.mono t4.size) cz can_one (by simp) (by rw [one_val]; exact gI_one_right _) (by rw [one_val, HZ.out])).mono ?_; intro e wf hm6; obtain ⟨bm6, b6, x5, n5, y5, x6, n6, y6, err, rfl, hform⟩ := hm6.form; have tw2 := hcells2 bm6; have Xf := X2 bm6; have Rf := Ra.below bm6; have q0 := Rf.box.c0; have q1 := Rf.box.c1; have q2 := Rf.box.c2; have p0 := Rf.box.f0; have p1 := Rf.box.f1; have p2 := Rf.box.f2))
      all_goals
        go_wp2
        have hR3 := Rf.box.set (.bool b6) (.slice x5 n5 y5) (.slice x6 n6 y6)
        have r0 := hR3.c0
        have r1 := hR3.c1
        have r2 := hR3.c2
        refine bodyPost_ret (v := .tuple #[.agg #[.bool b6, .slice x5 n5 y5, .slice x6 n6 y6], .int .i64 err]) (by simp [results, Tryz.results87, go_sem, r0, r1, r2]) rfl ?_
        exact (rform_done ga (by omega) Ra.lt bm6 hform).gives HP.out
    · have HM : Hid (val qs = wholeM f (val xn) (val xd)) := by
        unfold Hid wholeM
        rw [if_neg, Int.add_zero]
        · exact HU.out.1
        · rintro ⟨hf, h0⟩
          exact hcs ⟨hf, HRS.out.2 (by rw [HU.out.2]; exact h0)⟩
      have hcs2 : f = false ∨ (f = true ∧ ¬ 0 < rs.length) := by
        cases f with
        | false => exact Or.inl rfl
        | true => exact Or.inr ⟨rfl, fun h => hcs ⟨rfl, h⟩⟩
      clear hcs
      have hqo : Own wa.heap.size wb (.slice a5 qs.length c5) qs := oq
      rcases hcs2 with rfl | ⟨rfl, hr0⟩
      · have x0 := X.k0
        have hcells : ∀ {w' : World}, Below wb.heap.size wb w' → w'.cell? ⟨w.heap.size, 0, none⟩ = some (.bool bx) := fun hb => (X.below hb).k0
        have hne : w.heap.size + 1 ≠ w.heap.size := by omega
        go_wp2
        go_region_held3 (fun w' => w'.cell? ⟨w.heap.size, 0, none⟩ = some (.bool bx))
          (first | (go_keep; done) | exact tw | exact tw2 | exact (((Xf.box.apart (p := ⟨w.heap.size + 1, 0, none⟩) (by exact hne) _).apart (p := ⟨w.heap.size + 1, 1, none⟩) (by exact hne) _).apart (p := ⟨w.heap.size + 1, 2, none⟩) (by exact hne) _).c0)
          (first
            | (go_at_call 69; refine (one_any _).mono ?_; intro e we hm; obtain ⟨x2, y2, rfl, o3, bf⟩ := Makes.undrew hm; have tw := hcells bf; have t2 : Below wa.heap.size wa we := t1.trans (bf.mono t1.size))
            | (go_at_call 59; refine (limited_any (b := bx) (sg bx (wholeM false (val xn) (val xd))) 1 t2 (hqo.below bf (Nat.le_refl _)) (o3.mono t1.size) cq can_one (by simp) (by rw [one_val]; exact gI_one_right _) (by rw [one_val, HM.out])).mono ?_; intro e wf hm6; obtain ⟨bm6, b6, x5, n5, y5, x6, n6, y6, err, rfl, hform⟩ := hm6.form; have tw2 := hcells2 bm6; have Xf := X2 bm6; have Rf := Ra.below bm6; have q0 := Rf.box.c0; have q1 := Rf.box.c1; have q2 := Rf.box.c2; have p0 := Rf.box.f0; have p1 := Rf.box.f1; have p2 := Rf.box.f2))
        all_goals
          go_wp2
          have hR3 := Rf.box.set (.bool b6) (.slice x5 n5 y5) (.slice x6 n6 y6)
          have r0 := hR3.c0
          have r1 := hR3.c1
          have r2 := hR3.c2
          refine bodyPost_ret (v := .tuple #[.agg #[.bool b6, .slice x5 n5 y5, .slice x6 n6 y6], .int .i64 err]) (by simp [results, Tryz.results87, go_sem, r0, r1, r2]) rfl ?_
          exact (rform_done ga (by omega) Ra.lt bm6 hform).gives HP.out
      · have x0 := X.k0
        have hcells : ∀ {w' : World}, Below wb.heap.size wb w' → w'.cell? ⟨w.heap.size, 0, none⟩ = some (.bool bx) := fun hb => (X.below hb).k0
        have hne : w.heap.size + 1 ≠ w.heap.size := by omega
        go_wp2
        go_region_held3 (fun w' => w'.cell? ⟨w.heap.size, 0, none⟩ = some (.bool bx))
          (first | (go_keep; done) | exact tw | exact tw2 | exact (((Xf.box.apart (p := ⟨w.heap.size + 1, 0, none⟩) (by exact hne) _).apart (p := ⟨w.heap.size + 1, 1, none⟩) (by exact hne) _).apart (p := ⟨w.heap.size + 1, 2, none⟩) (by exact hne) _).c0)
          (first
            | (go_at_call 69; refine (one_any _).mono ?_; intro e we hm; obtain ⟨x2, y2, rfl, o3, bf⟩ := Makes.undrew hm; have tw := hcells bf; have t2 : Below wa.heap.size wa we := t1.trans (bf.mono t1.size))
            | (go_at_call 59; refine (limited_any (b := bx) (sg bx (wholeM true (val xn) (val xd))) 1 t2 (hqo.below bf (Nat.le_refl _)) (o3.mono t1.size) cq can_one (by simp) (by rw [one_val]; exact gI_one_right _) (by rw [one_val, HM.out])).mono ?_; intro e wf hm6; obtain ⟨bm6, b6, x5, n5, y5, x6, n6, y6, err, rfl, hform⟩ := hm6.form; have tw2 := hcells2 bm6; have Xf := X2 bm6; have Rf := Ra.below bm6; have q0 := Rf.box.c0; have q1 := Rf.box.c1; have q2 := Rf.box.c2; have p0 := Rf.box.f0; have p1 := Rf.box.f1; have p2 := Rf.box.f2))
        all_goals
          go_wp2
          have hR3 := Rf.box.set (.bool b6) (.slice x5 n5 y5) (.slice x6 n6 y6)
          have r0 := hR3.c0
          have r1 := hR3.c1
          have r2 := hR3.c2
          refine bodyPost_ret (v := .tuple #[.agg #[.bool b6, .slice x5 n5 y5, .slice x6 n6 y6], .int .i64 err]) (by simp [results, Tryz.results87, go_sem, r0, r1, r2]) rfl ?_
          exact (rform_done ga (by omega) Ra.lt bm6 hform).gives HP.out

set_option maxRecDepth 100000 in
set_option maxHeartbeats 3200000 in
theorem floor_rat (h1 : Rd w.heap.size w (.slice a1 xn.length c1) xn) (h2 : Rd w.heap.size w (.slice a2 xd.length c2) xd) :
    Calls Tryz.prog 39 #[.agg #[.bool bx, .slice a1 xn.length c1, .slice a2 xd.length c2]] w fun e w' => Gives w (RightP bx xn xd) (sg bx (val xn) / val xd) 1 e w' := by
  have X := nvar_new (b := bx) h1 h2
  have g := below_alloc w (.cells #[.bool bx, .slice a1 xn.length c1, .slice a2 xd.length c2] 25)
  have R := rvar_new (w.alloc (.cells #[.bool bx, .slice a1 xn.length c1, .slice a2 xd.length c2] 25))
  have ka := below_alloc (w.alloc (.cells #[.bool bx, .slice a1 xn.length c1, .slice a2 xd.length c2] 25)) (.cells #[.bool false, .slice none 0 0, .slice none 0 0] 25)
  rw [World.size_alloc] at R
  replace X := X.below ka
  replace g := g.trans (ka.mono g.size)
  clear ka h1 h2
  obtain ⟨x0, x1, x2⟩ := X.cells
  go_enter Tryz.func39, Tryz.ntmps39
  go_wp2_with fail
  clear x0 x1 x2
  generalize hA : (w.alloc (.cells #[.bool bx, .slice a1 xn.length c1, .slice a2 xd.length c2] 25)).alloc (.cells #[.bool false, .slice none 0 0, .slice none 0 0] 25) = v at *
  clear hA
  refine (whole_rat bx X.rn X.rd).mono ?_
  rintro e wa ⟨ka, b6, x5, n5, y5, x6, n6, y6, err, rfl, ho⟩
  have Ra := R.below ka
  have q0 := Ra.box.c0
  have q1 := Ra.box.c1
  have q2 := Ra.box.c2
  have p0 := Ra.box.f0
  have p1 := Ra.box.f1
  have p2 := Ra.box.f2
  go_wp2
  have hR3 := Ra.box.set (.bool b6) (.slice x5 n5 y5) (.slice x6 n6 y6)
  have r0 := hR3.c0
  have r1 := hR3.c1
  have r2 := hR3.c2
  refine bodyPost_ret (v := .tuple #[.agg #[.bool b6, .slice x5 n5 y5, .slice x6 n6 y6], .int .i64 err]) (by simp [results, Tryz.results39, go_sem, r0, r1, r2]) rfl ?_
  have hd := gives_done g (by omega) R.lt ka (Nat.le_refl _) ho
  by_cases hP : RightP bx xn xd
  · rw [floor_whole bx _ _ (right_pos hP).2 (right_pos hP).1] at hd
    exact hd
  · obtain ⟨k1, c, z1, n, z2, z3, m, z4, er, he, hO⟩ := hd
    refine ⟨k1, c, z1, n, z2, z3, m, z4, er, he, ?_⟩
    rcases hO.out with h | ⟨h, _⟩ | ⟨h, _⟩
    · exact Or.inl h
    · exact absurd h hP
    · exact absurd h hP
end
end Go.Proofs.YtidbebfendjnlaaGreatDoor

/- rat.OfInt at every int. -/
namespace Go.Proofs.YtidbebfendjnlaaGreatDoor
set_option linter.unusedVariables false
set_option linter.unusedSimpArgs false
open Go.RowKit

theorem of_can (n : Int) (h0 : 0 ≤ n) (h1 : n < 18446744073709551616) : can (tr [n % 4294967296, n / 4294967296]) ∧ val (tr [n % 4294967296, n / 4294967296]) = n ∧ (tr [n % 4294967296, n / 4294967296]).length ≤ 2 := by
  refine ⟨tr_can (fun x hx => by simp at hx; omega), ?_, ?_⟩
  · rw [val_tr]; simp [val]; omega
  · have := tr_length_le [n % 4294967296, n / 4294967296]
    simpa using this
theorem of_num (n : Int) (h0 : 0 ≤ n) (h1 : n < 18446744073709551616) (w : World) : Calls Tryz.prog 72 #[.int .u64 n] w fun e w' => ∃ ns, can ns ∧ Hid (val ns = n) ∧ ns.length ≤ 2 ∧ Makes w e w' ns := by
  refine (of_any n h0 h1 w).mono ?_
  intro e w' h
  have hc := of_can n h0 h1
  exact ⟨_, hc.1, hc.2.1, hc.2.2, h⟩

/-- A whole number as a number. -/
def WholeIs (k : Int) (b : Bool) (ns ds : List Int) : Prop := b = decide (k < 0) ∧ can ns ∧ val ns = (if k < 0 then -k else k) ∧ ns.length ≤ 2 ∧ ds = [1]
theorem WholeIs.right {k : Int} {b : Bool} {ns ds : List Int} (h : WholeIs k b ns ds) : RightP b ns ds := by
  obtain ⟨rfl, cn, vn, ln, rfl⟩ := h
  refine ⟨by omega, by simp, cn, can_one, ?_, by simp, by rw [one_val]; exact gI_one_right _⟩
  rintro ⟨hb, hz⟩
  rw [(can_zero cn).1 hz] at vn
  rw [decide_eq_true_iff] at hb
  rw [if_pos hb] at vn
  omega
theorem WholeIs.sg {k : Int} {b : Bool} {ns ds : List Int} (h : WholeIs k b ns ds) : sg b (val ns) = k ∧ val ds = 1 := by
  obtain ⟨rfl, cn, vn, ln, rfl⟩ := h
  refine ⟨?_, one_val⟩
  rw [vn]
  by_cases hk : k < 0
  · rw [decide_eq_true hk, if_pos hk]; simp [Go.Proofs.YtidbebfendjnlaaGreatDoor.sg]
  · rw [decide_eq_false hk, if_neg hk]; rfl
/-- A whole number's answer. -/
def WholeNum (w : World) (k : Int) (e : Ending) (w' : World) : Prop :=
  Below w.heap.size w w' ∧ ∃ b ns ds a1 c1 a2 c2, Hid (WholeIs k b ns ds) ∧ e = .returned (.agg #[.bool b, .slice a1 ns.length c1, .slice a2 ds.length c2]) ∧ Own w.heap.size w' (.slice a1 ns.length c1) ns ∧ Own w.heap.size w' (.slice a2 ds.length c2) ds

set_option maxRecDepth 100000 in
set_option maxHeartbeats 3200000 in
theorem ofInt_any (k : Int) (h0 : -9223372036854775808 ≤ k) (h1 : k < 9223372036854775808) (w : World) : Calls Tryz.prog 17 #[.int .i64 k] w fun e w' => WholeNum w k e w' := by
  have R := rvar_new w
  have g := below_alloc w (.cells #[.bool false, .slice none 0 0, .slice none 0 0] 25)
  go_enter Tryz.func17, Tryz.ntmps17
  by_cases hk : k < 0
  · have hkb : decide (k < 0) = true := decide_eq_true hk
    have hw : IntKind.u64.wrap (-IntKind.u64.wrap k) = -k := by rw [IntKind.wrap_u64, IntKind.wrap_u64]; omega
    go_wp2_with fail
    generalize hA : w.alloc (.cells #[.bool false, .slice none 0 0, .slice none 0 0] 25) = v at *
    clear hA
    refine (of_num (-k) (by omega) (by omega) _).mono ?_
    rintro e wa ⟨ns, cn, vn, ln, x1, y1, rfl, o1, ka⟩
    go_wp2_with fail
    refine (one_any _).mono ?_
    rintro e wb ⟨x2, y2, hb, o2, kb⟩
    obtain ⟨ds, hds⟩ : ∃ ds : List Int, ds = [1] := ⟨_, rfl⟩
    rw [← hds] at hb o2
    subst hb
    have HD : Hid (ds = [1]) := hds
    clear hds
    have t : Below v.heap.size v wb := ka.trans (kb.mono ka.size)
    have Rb := R.below t
    have q0 := Rb.box.c0
    have q1 := Rb.box.c1
    have q2 := Rb.box.c2
    have p0 := Rb.box.f0
    have p1 := Rb.box.f1
    have p2 := Rb.box.f2
    go_wp2
    have hR3 := Rb.box.set (.bool true) (.slice x1 ns.length y1) (.slice x2 ds.length y2)
    have r0 := hR3.c0
    have r1 := hR3.c1
    have r2 := hR3.c2
    refine bodyPost_ret (v := .agg #[.bool true, .slice x1 ns.length y1, .slice x2 ds.length y2]) (by simp [results, Tryz.results17, go_sem, r0, r1, r2]) rfl ?_
    exact ⟨Below.set3 (g.trans (t.mono g.size)) (Nat.le_refl _) _ _ _, true, ns, ds, x1, y1, x2, y2, ⟨hkb.symm, cn, by rw [vn.out, if_pos hk], ln, HD.out⟩, rfl, (Own.set3 (o1.below kb (Nat.le_refl _)) R.lt _ _ _).mono g.size, (Own.set3 (o2.mono ka.size) R.lt _ _ _).mono g.size⟩
  · have hkb : decide (k < 0) = false := decide_eq_false hk
    go_wp2_with fail
    generalize hA : w.alloc (.cells #[.bool false, .slice none 0 0, .slice none 0 0] 25) = v at *
    clear hA
    refine (of_num k (by omega) (by omega) _).mono ?_
    rintro e wa ⟨ns, cn, vn, ln, x1, y1, rfl, o1, ka⟩
    go_wp2_with fail
    refine (one_any _).mono ?_
    rintro e wb ⟨x2, y2, hb, o2, kb⟩
    obtain ⟨ds, hds⟩ : ∃ ds : List Int, ds = [1] := ⟨_, rfl⟩
    rw [← hds] at hb o2
    subst hb
    have HD : Hid (ds = [1]) := hds
    clear hds
    have t : Below v.heap.size v wb := ka.trans (kb.mono ka.size)
    have Rb := R.below t
    have q0 := Rb.box.c0
    have q1 := Rb.box.c1
    have q2 := Rb.box.c2
    have p0 := Rb.box.f0
    have p1 := Rb.box.f1
    have p2 := Rb.box.f2
    go_wp2
    have hR3 := Rb.box.set (.bool false) (.slice x1 ns.length y1) (.slice x2 ds.length y2)
    have r0 := hR3.c0
    have r1 := hR3.c1
    have r2 := hR3.c2
    refine bodyPost_ret (v := .agg #[.bool false, .slice x1 ns.length y1, .slice x2 ds.length y2]) (by simp [results, Tryz.results17, go_sem, r0, r1, r2]) rfl ?_
    exact ⟨Below.set3 (g.trans (t.mono g.size)) (Nat.le_refl _) _ _ _, false, ns, ds, x1, y1, x2, y2, ⟨hkb.symm, cn, by rw [vn.out, if_neg (by omega)], ln, HD.out⟩, rfl, (Own.set3 (o1.below kb (Nat.le_refl _)) R.lt _ _ _).mono g.size, (Own.set3 (o2.mono ka.size) R.lt _ _ _).mono g.size⟩
end Go.Proofs.YtidbebfendjnlaaGreatDoor

/- rat.powerOf. -/
namespace Go.Proofs.YtidbebfendjnlaaGreatDoor
set_option linter.unusedVariables false
set_option linter.unusedSimpArgs false
open Go.RowKit

theorem pow_huge (A : Int) (N : Nat) (hA : 2 ≤ A) (hN : 1024 ≤ N) : pw 32 ≤ A ^ N := by
  rw [pw_p2]
  have h1 : p2 (32 * 32) ≤ p2 N := p2_mono hN
  have h2 : (2 : Int) ^ N ≤ A ^ N := (pow_le_pow (by omega) hA N).1
  unfold p2 at *
  omega
theorem bits_small {A : Int} {b : Nat} (h : isBits A b) (hb : b < 2) : A = 0 ∨ A = 1 := by
  rcases h with ⟨rfl, _⟩ | ⟨h1, h2, h3⟩
  · exact Or.inl rfl
  · obtain rfl : b = 1 := by omega
    have e1 : p2 (1 - 1) = 1 := by decide
    have e2 : p2 1 = 2 := by decide
    omega
theorem bits_great {A : Int} {b : Nat} (h : isBits A b) (hb : ¬ b < 2) : 2 ≤ A := by
  rcases h with ⟨rfl, h⟩ | ⟨h1, h2, h3⟩
  · omega
  · have := p2_mono (j := 1) (k := b - 1) (by omega)
    have e2 : p2 1 = 2 := by decide
    omega
theorem pow_unit {A : Int} (h : A = 0 ∨ A = 1) (N : Nat) (hN : 0 < N) : A ^ N = A := by
  obtain ⟨k, rfl⟩ : ∃ k, N = k + 1 := ⟨N - 1, by omega⟩
  rcases h with rfl | rfl
  · rw [Int.pow_succ, Int.mul_zero]
  · exact one_pow' _
theorem one_lt_pw : (1 : Int) < pw 32 := by
  have := pw_mono (j := 1) (k := 32) (by omega)
  have e : pw 1 = 4294967296 := by decide
  omega

/-- What rat.powerOf answers. -/
def PowGives (w : World) (A : Int) (N : Nat) (e : Ending) (w' : World) : Prop :=
  Below w.heap.size w w' ∧ ((pw 32 ≤ A ^ N ∧ e = .returned (.tuple #[.slice none 0 0, .bool false])) ∨ (A ^ N < pw 32 ∧ ∃ zs a c, can zs ∧ val zs = A ^ N ∧ e = .returned (.tuple #[.slice a zs.length c, .bool true]) ∧ Own w.heap.size w' (.slice a zs.length c) zs))

set_option maxRecDepth 100000 in
set_option maxHeartbeats 3200000 in
theorem powerOf_any {B : Nat} {w : World} {a1 a2 : Option Addr} {c1 c2 : Nat} {xs ys : List Int} (ha : Rd B w (.slice a1 xs.length c1) xs) (hn : Rd B w (.slice a2 ys.length c2) ys) (hB : B ≤ w.heap.size) (cx : can xs) (lx : xs.length ≤ 32) (ly : ys.length ≤ 32) (hy : 0 < val ys) :
    Calls Tryz.prog 92 #[.slice a1 xs.length c1, .slice a2 ys.length c2] w fun e w' => PowGives w (val xs) (val ys).toNat e w' := by
  have HT : Hid (tr xs = xs) := can_inj (tr_can ha.lim) cx (val_tr xs)
  go_enter Tryz.func92, Tryz.ntmps92
  go_wp2_with fail
  refine (bits_any ha (by omega)).mono ?_
  rintro e w' ⟨b, rfl, hb, hbl, rfl⟩
  by_cases h2 : b < 2
  · have HE : Hid (val xs ^ (val ys).toNat = val xs ∧ val xs < pw 32) := by
      have h3 := bits_small hb h2
      have h4 := one_lt_pw
      exact ⟨pow_unit h3 _ (by omega), by omega⟩
    clear hb
    go_wp2_with fail
    refine (trim_rd ha (by omega)).mono ?_
    intro e wa hm
    rw [HT.out] at hm
    obtain ⟨a3, c3, rfl, o3, ka⟩ := hm
    go_wp2
    go_ret2
    exact ⟨ka, Or.inr ⟨by rw [HE.out.1]; exact HE.out.2, xs, a3, c3, cx, HE.out.1.symm, rfl, o3⟩⟩
  · have HA : Hid (2 ≤ val xs) := bits_great hb h2
    clear hb
    go_wp2_with fail
    refine (small_any hn (by omega)).mono ?_
    rintro e w' ⟨rfl, rfl⟩
    by_cases hs : val ys < 9223372036854775808
    · rw [smallV_lt hs]
      obtain ⟨n, en⟩ := Int.eq_ofNat_of_zero_le (Int.le_of_lt hy)
      have HN : Hid ((val ys).toNat = n) := by unfold Hid; rw [en]; exact Int.toNat_natCast n
      have hn9 : n < 9223372036854775808 := by omega
      rw [en]
      clear hs hy
      go_wp2_with fail
      refine (power_any n 32 ha hB (by omega) hn9 (by omega)).mono ?_
      rintro e wa ⟨ka, h3, h4⟩
      have HP : Hid ((pw 32 ≤ val xs ^ n → e = .returned (.tuple #[.slice none 0 0, .bool false])) ∧ (val xs ^ n < pw 32 → ∃ zs a c, can zs ∧ val zs = val xs ^ n ∧ e = .returned (.tuple #[.slice a zs.length c, .bool true]) ∧ Own w.heap.size wa (.slice a zs.length c) zs)) := ⟨h3, h4⟩
      clear h3 h4
      by_cases hf : val xs ^ n < pw 32
      · obtain ⟨zs, a3, c3, cz, vz, rfl, o3⟩ := HP.out.2 hf
        have HF : Hid (val xs ^ n < pw 32 ∧ val zs = val xs ^ n) := ⟨hf, vz⟩
        clear HP hf vz
        go_wp2
        go_ret2
        unfold PowGives
        rw [en, Int.toNat_natCast]
        exact ⟨ka, Or.inr ⟨HF.out.1, zs, a3, c3, cz, HF.out.2, rfl, o3⟩⟩
      · have hf' : pw 32 ≤ val xs ^ n := by omega
        obtain rfl := HP.out.1 hf'
        have HF : Hid (pw 32 ≤ val xs ^ n) := hf'
        clear HP hf hf'
        go_wp2
        go_ret2
        unfold PowGives
        rw [en, Int.toNat_natCast]
        exact ⟨ka, Or.inl ⟨HF.out, rfl⟩⟩
    · rw [smallV_ge (by omega)]
      have HF : Hid (pw 32 ≤ val xs ^ (val ys).toNat) := pow_huge _ _ HA.out (by omega)
      clear hs
      go_wp2
      go_ret2
      exact ⟨Below.refl _ _, Or.inl ⟨HF.out, rfl⟩⟩
end Go.Proofs.YtidbebfendjnlaaGreatDoor

/- Plain facts on how many sets of k things n things have. -/
namespace Go.Proofs.YtidbebfendjnlaaGreatDoor
set_option linter.unusedVariables false
set_option linter.unusedSimpArgs false

/-- How many sets of k things n things have. -/
def binom : Nat → Nat → Nat
  | _, 0 => 1
  | 0, _ + 1 => 0
  | n + 1, k + 1 => binom n k + binom n (k + 1)
theorem binom_zero (n : Nat) : binom n 0 = 1 := by cases n <;> rfl
theorem binom_succ (n k : Nat) : binom (n + 1) (k + 1) = binom n k + binom n (k + 1) := rfl
theorem binom_none (k : Nat) : binom 0 (k + 1) = 0 := rfl
theorem binom_lt {n : Nat} : ∀ {k : Nat}, n < k → binom n k = 0 := by
  induction n with
  | zero => intro k h; obtain ⟨j, rfl⟩ : ∃ j, k = j + 1 := ⟨k - 1, by omega⟩; rfl
  | succ n ih =>
    intro k h
    obtain ⟨j, rfl⟩ : ∃ j, k = j + 1 := ⟨k - 1, by omega⟩
    rw [binom_succ, ih (by omega), ih (by omega)]
theorem binom_absorb (n : Nat) : ∀ k, (k + 1) * binom (n + 1) (k + 1) = (n + 1) * binom n k := by
  induction n with
  | zero =>
    intro k
    cases k with
    | zero => rfl
    | succ k => rw [binom_succ, binom_none, binom_none]; simp
  | succ n ih =>
    intro k
    cases k with
    | zero =>
      have h := ih 0
      rw [binom_zero] at h
      rw [binom_succ, binom_zero]
      omega
    | succ j =>
      have h1 := ih j
      have h2 := ih (j + 1)
      rw [binom_succ (n + 1) (j + 1), Nat.mul_add, h2, Nat.add_mul (j + 1) 1, h1]
      have e : (n + 1) * binom n j + (n + 1) * binom n (j + 1) = (n + 1) * binom (n + 1) (j + 1) := by rw [binom_succ n j, Nat.mul_add]
      rw [Nat.add_mul (n + 1) 1]
      omega
theorem binom_sym (n : Nat) : ∀ a b, a + b = n → binom n a = binom n b := by
  induction n with
  | zero => 
    intro a b h
    have h1 : a = 0 ∧ b = 0 := by omega
    rw [h1.1, h1.2]
  | succ n ih =>
    intro a b h
    cases a with
    | zero =>
      obtain rfl : b = n + 1 := by omega
      rw [binom_zero, binom_succ, ih n 0 (by omega), binom_zero, binom_lt (by omega)]
    | succ a =>
      cases b with
      | zero =>
        obtain rfl : a = n := by omega
        rw [binom_zero, binom_succ, ih a 0 (by omega), binom_zero, binom_lt (by omega)]
      | succ b =>
        rw [binom_succ, binom_succ, ih a (b + 1) (by omega), ih (a + 1) b (by omega), Nat.add_comm]
theorem binom_le (n : Nat) : ∀ k, binom n k ≤ 2 ^ n := by
  induction n with
  | zero => intro k; cases k with | zero => exact Nat.le_refl _ | succ k => exact Nat.zero_le _
  | succ n ih =>
    intro k
    cases k with
    | zero => rw [binom_zero]; exact Nat.one_le_two_pow
    | succ k => rw [binom_succ, Nat.pow_succ]; have := ih k; have := ih (k + 1); omega
/-- From the sets of i things of m + i to those of one more of one more. -/
theorem binom_step (m i : Nat) : binom (m + i) i * (m + (i + 1)) = binom (m + (i + 1)) (i + 1) * (i + 1) := by
  have h := binom_absorb (m + i) i
  rw [Nat.mul_comm (binom (m + (i + 1)) (i + 1)), show m + (i + 1) = m + i + 1 by omega, h, Nat.mul_comm]
theorem binom_grow (m i : Nat) : binom (m + i) i ≤ binom (m + (i + 1)) (i + 1) := by
  rw [show m + (i + 1) = m + i + 1 by omega, binom_succ]
  omega
end Go.Proofs.YtidbebfendjnlaaGreatDoor

/- rat.choose. -/
namespace Go.Proofs.YtidbebfendjnlaaGreatDoor
set_option linter.unusedVariables false
set_option linter.unusedSimpArgs false
open Go.RowKit

theorem binom_mono (M : Nat) {j F : Nat} (h : j ≤ F) : binom (M + j) j ≤ binom (M + F) F := by
  induction F with
  | zero =>
    have hj : j = 0 := by omega
    rw [hj]
    exact Nat.le_refl _
  | succ F ih =>
    by_cases hj : j = F + 1
    · subst hj; exact Nat.le_refl _
    · exact Nat.le_trans (ih (by omega)) (binom_grow M F)

/-- Has a number at most 32 limbs, or more? (Said by name: the walk reckons a bare power.) -/
structure Fits (N : Nat) : Prop where
  is : (N : Int) < pw 32
structure Great (N : Nat) : Prop where
  is : pw 32 ≤ (N : Int)

/-- What rat.choose answers. -/
def Chooses (w : World) (N : Nat) (e : Ending) (w' : World) : Prop :=
  Below w.heap.size w w' ∧ ((pw 32 ≤ (N : Int) ∧ e = errOf 8) ∨ ((N : Int) < pw 32 ∧ ∃ zs ds a1 c1 a2 c2, can zs ∧ val zs = (N : Int) ∧ Hid (ds = [(1 : Int)]) ∧ e = .returned (.tuple #[.agg #[.bool false, .slice a1 zs.length c1, .slice a2 ds.length c2], .int .i64 0]) ∧ Own w.heap.size w' (.slice a1 zs.length c1) zs ∧ Own w.heap.size w' (.slice a2 ds.length c2) ds))

theorem one_num (w : World) : Calls Tryz.prog 69 #[] w fun e w' => ∃ ds a c, Hid (ds = [(1 : Int)]) ∧ e = .returned (.slice a ds.length c) ∧ Own w.heap.size w' (.slice a ds.length c) ds ∧ Below w.heap.size w w' :=
  (one_any w).mono (fun e w' ⟨a, c, he, ho, hb⟩ => ⟨[1], a, c, rfl, he, ho, hb⟩)

set_option maxRecDepth 100000 in
set_option maxHeartbeats 8000000 in
theorem choose_any {w : World} {a1 a2 : Option Addr} {c1 c2 : Nat} {fs ms : List Int} (h1 : Rd w.heap.size w (.slice a1 fs.length c1) fs) (h2 : Rd w.heap.size w (.slice a2 ms.length c2) ms) (l1 : fs.length ≤ 32) (l2 : ms.length ≤ 32) (F M : Nat) (hF : Hid (val fs = (F : Int))) (hM : Hid (val ms = (M : Int))) :
    Calls Tryz.prog 99 #[.slice a1 fs.length c1, .slice a2 ms.length c2] w fun e w' => Chooses w (binom (M + F) F) e w' := by
  have hFb : Fits F := by
    constructor
    have h5 := (val_bound h1.lim).2
    have h6 := pw_mono (j := fs.length) (k := 32) l1
    rw [hF.out] at h5
    omega
  have R := rvar_new w
  have g := below_alloc w (.cells #[.bool false, .slice none 0 0, .slice none 0 0] 25)
  go_enter Tryz.func99, Tryz.ntmps99
  go_wp2_with fail
  generalize hA : w.alloc (.cells #[.bool false, .slice none 0 0, .slice none 0 0] 25) = v at *
  clear hA
  refine (one_num _).mono ?_
  rintro e wa ⟨s0, p1, q1, HS0, rfl, os0, ka⟩
  go_wp2_with fail
  refine (one_num _).mono ?_
  rintro e wb ⟨i0, p2, q2, HI0, rfl, oi0, kb⟩
  have tb : Below v.heap.size v wb := ka.trans (kb.mono ka.size)
  have os1 : Own v.heap.size wb (.slice p1 s0.length q1) s0 := os0.below kb (Nat.le_refl _)
  have oi1 : Own v.heap.size wb (.slice p2 i0.length q2) i0 := oi0.mono ka.size
  have c0 : Hid (can s0 ∧ can i0 ∧ s0.length ≤ 32 ∧ i0.length ≤ 33 ∧ val s0 = 1 ∧ val i0 = 1) := by
    unfold Hid; rw [HS0.out, HI0.out]; exact ⟨can_one, can_one, by simp, by simp, one_val, one_val⟩
  go_wp2
  go_loopg [6, 7] F (fun gk sv iv wr => ∃ (j : Nat) (ss is : List Int) (a : Option Addr) (c : Nat) (a' : Option Addr) (c' : Nat), Hid (gk = F - j) ∧ sv = .slice a ss.length c ∧ iv = .slice a' is.length c' ∧ j ≤ F ∧ can ss ∧ can is ∧ Hid (val is = (j : Int) + 1 ∧ val ss = (binom (M + j) j : Int)) ∧ ss.length ≤ 32 ∧ is.length ≤ 33 ∧ Own v.heap.size wr (.slice a ss.length c) ss ∧ Own v.heap.size wr (.slice a' is.length c') is ∧ Below v.heap.size v wr)
  case atStart => exact ⟨0, s0, i0, p1, q1, p2, q2, rfl, rfl, rfl, Nat.zero_le _, c0.out.1, c0.out.2.1, ⟨by rw [c0.out.2.2.2.2.2]; rfl, by rw [c0.out.2.2.2.2.1, binom_zero]; rfl⟩, c0.out.2.2.1, c0.out.2.2.2.1, os1, oi1, tb⟩
  case round =>
    obtain ⟨j, ss, is, a, c, a', c', hgk, rfl, rfl, hj, cs, ci, HV, ls, li, os, oi, tr⟩ := hrel
    have gr : Below w.heap.size w wr := g.trans (tr.mono g.size)
    go_wp2_with fail
    refine (compare_bl oi.rd (h1.below gr)).mono ?_
    rintro e w1 ⟨rfl, k1⟩
    have t1 : Below v.heap.size v w1 := tr.trans (k1.mono tr.size)
    have g1 : Below w.heap.size w w1 := g.trans (t1.mono g.size)
    rw [HV.out.1, hF.out]
    by_cases hlt : j < F
    · have hc : cmpI ((j : Int) + 1) (F : Int) ≤ 0 := by unfold cmpI; split; omega; split <;> omega
      have os1 := os.below k1 (Nat.le_refl _)
      have oi1 := oi.below k1 (Nat.le_refl _)
      go_wp2_with fail
      refine (sum2 (h2.below g1) oi1.rd g1.size (Nat.le_refl _) (by omega) (by omega)).mono ?_
      rintro e w2 ⟨zs, cz, vz, lz, p3, q3, rfl, oz, k2⟩
      have t2 : Below v.heap.size v w2 := t1.trans (k2.mono t1.size)
      have HZ : Hid (val zs = (M : Int) + ((j : Int) + 1)) := by unfold Hid; rw [vz, hM.out, HV.out.1]
      clear vz
      have os2 := os1.below k2 (Nat.le_refl _)
      have oi2 := oi1.below k2 (Nat.le_refl _)
      go_wp2_with fail
      refine (prod2 os2.rd oz.rd (Nat.le_refl _) (Nat.le_refl _) (by omega) (by omega)).mono ?_
      rintro e w3 ⟨us, cu, vu, lu, p4, q4, rfl, ou, k3⟩
      have t3 : Below v.heap.size v w3 := t2.trans (k3.mono t2.size)
      have HU : Hid (val us = (binom (M + (j + 1)) (j + 1) : Int) * ((j : Int) + 1)) := by
        unfold Hid
        rw [vu, HV.out.2, HZ.out]
        have h5 := binom_step M j
        have h6 : ((binom (M + j) j * (M + (j + 1)) : Nat) : Int) = ((binom (M + (j + 1)) (j + 1) * (j + 1) : Nat) : Int) := by rw [h5]
        rw [Int.natCast_mul, Int.natCast_mul, Int.natCast_add, Int.natCast_add] at h6
        exact h6
      clear vu
      have oi3 := oi2.below k3 (Nat.le_refl _)
      go_wp2_with fail
      refine (divMod_any ou.rd (Nat.le_refl _) oi3.rd (Nat.le_refl _) (by rw [HV.out.1]; omega) (by omega) (by omega)).mono ?_
      rintro e w4 ⟨qs, rs, p5, q5, p6, q6, rfl, oq, or, cq, cr, hv, hl, lq, lr, k4⟩
      have t4 : Below v.heap.size v w4 := t3.trans (k4.mono t3.size)
      have HQ : Hid (val qs = (binom (M + (j + 1)) (j + 1) : Int)) := by
        unfold Hid
        have h5 := div_unique hv (val_bound cr.1).1 hl
        have h6 := div_unique (n := val us) (d := val is) (q := (binom (M + (j + 1)) (j + 1) : Int)) (r := 0) (by rw [HU.out, HV.out.1, Int.add_zero]) (by omega) (by rw [HV.out.1]; omega)
        rw [h5.1, h6.1]
      clear hv hl
      have oq4 : Own v.heap.size w4 (.slice p5 qs.length q5) qs := oq.mono t3.size
      have oi4 := oi3.below k4 (Nat.le_refl _)
      have g4 : Below w.heap.size w w4 := g.trans (t4.mono g.size)
      clear hc cz lz cu lu lq lr cr or oz ou os1 os2 oi1 oi2 oi3 os0 oi0
      by_cases hbig : 32 < qs.length
      · have HB : Great (binom (M + F) F) := by
          constructor
          have h5 : ¬ val qs < pw 32 := fun h => by have := (can_len_pw cq 32).2 h; omega
          have h6 := binom_mono M (show j + 1 ≤ F by omega)
          rw [HQ.out] at h5
          omega
        have R4 := R.below t4
        have q0 := R4.box.c0
        have q1' := R4.box.c1
        have q2' := R4.box.c2
        have p0 := R4.box.f0
        have p1' := R4.box.f1
        have p2' := R4.box.f2
        go_wp2
        have hR3 := R4.box.set (.bool false) (.slice none 0 0) (.slice none 0 0)
        have r0 := hR3.c0
        have r1 := hR3.c1
        have r2 := hR3.c2
        try simp only [Exit.inBlock, Exit.then]
        refine bodyPost_ret (v := .tuple #[.agg #[.bool false, .slice none 0 0, .slice none 0 0], .int .i64 8]) ?_ rfl ?_
        · simp [results, Tryz.results99, go_sem, r0, r1, r2]
        exact ⟨Below.set3 g4 (Nat.le_refl _) _ _ _, Or.inl ⟨HB.is, rfl⟩⟩
      · go_wp2_with fail
        refine (one_num _).mono ?_
        rintro e w5 ⟨ds, p7, q7, HD, rfl, od, k5⟩
        have t5 : Below v.heap.size v w5 := t4.trans (k5.mono t4.size)
        have oi5 := oi4.below k5 (Nat.le_refl _)
        have oq5 := oq4.below k5 (Nat.le_refl _)
        have ld : ds.length ≤ 1 := by rw [HD.out]; exact Nat.le_refl _
        go_wp2_with fail
        refine (sum2 oi5.rd od.rd (Nat.le_refl _) (Nat.le_refl _) (by omega) (by omega)).mono ?_
        rintro e w6 ⟨ts, ct, vt, lt', p8, q8, rfl, ot, k6⟩
        have t6 : Below v.heap.size v w6 := t5.trans (k6.mono t5.size)
        have HT : Hid (val ts = ((j + 1 : Nat) : Int) + 1) := by unfold Hid; rw [vt, HV.out.1, HD.out, one_val]; omega
        clear vt
        have lts : ts.length ≤ 33 := by
          have h5 : (F : Int) < pw 32 := hFb.is
          have h6 := pw_pos 32
          refine (can_len_pw ct (32 + 1)).2 ?_
          rw [HT.out, pw_succ]
          generalize pw 32 = Z at *
          omega
        have oq6 := oq5.below k6 (Nat.le_refl _)
        have ot6 : Own v.heap.size w6 (.slice p8 ts.length q8) ts := ot.mono t5.size
        go_wp2
        go_roundg (F - (j + 1))
        case rel => exact ⟨j + 1, qs, ts, p5, q5, p8, q8, rfl, rfl, rfl, by omega, cq, ct, ⟨HT.out, HQ.out⟩, by omega, lts, oq6, ot6, t6⟩
        case measure => rw [hgk.out]; omega
    · have hc : cmpI ((j : Int) + 1) (F : Int) = 1 := cmpI_gt (by omega)
      obtain rfl : j = F := by omega
      have R1 := R.below t1
      rw [hc]
      clear hc
      have os1 := os.below k1 (Nat.le_refl _)
      have HN : Fits (binom (M + j) j) := by constructor; rw [← HV.out.2]; exact (can_len_pw cs 32).1 ls
      go_wp2_with fail
      refine (one_num _).mono ?_
      rintro e w2 ⟨ds, p7, q7, HD, rfl, od, k2⟩
      have t2 : Below v.heap.size v w2 := t1.trans (k2.mono t1.size)
      have ld : ds.length ≤ 32 := by rw [HD.out]; simp
      have os2 := os1.below k2 (Nat.le_refl _)
      have od2 : Own v.heap.size w2 (.slice p7 ds.length q7) ds := od.mono t1.size
      go_wp2_with fail
      refine (limited_ok false a p7 ss.length c ds.length q7 _ ls ld).mono ?_
      rintro e w3 ⟨rfl, k3⟩
      have t3 : Below v.heap.size v w3 := t2.trans (k3.mono t2.size)
      have hbb : (false && decide (0 < ss.length)) = false := rfl
      rw [hbb]
      clear hbb
      have os3 := os2.below k3 (Nat.le_refl _)
      have od3 := od2.below k3 (Nat.le_refl _)
      have R3 := R.below t3
      have q0 := R3.box.c0
      have q1' := R3.box.c1
      have q2' := R3.box.c2
      have p0 := R3.box.f0
      have p1' := R3.box.f1
      have p2' := R3.box.f2
      go_wp2
      have hR3 := R3.box.set (.bool false) (.slice a ss.length c) (.slice p7 ds.length q7)
      have r0 := hR3.c0
      have r1 := hR3.c1
      have r2 := hR3.c2
      try simp only [Exit.inBlock, Exit.then]
      refine bodyPost_ret (v := .tuple #[.agg #[.bool false, .slice a ss.length c, .slice p7 ds.length q7], .int .i64 0]) ?_ rfl ?_
      · simp [results, Tryz.results99, go_sem, r0, r1, r2]
      exact ⟨Below.set3 (g.trans (t3.mono g.size)) (Nat.le_refl _) _ _ _, Or.inr ⟨HN.is, ss, ds, a, c, p7, q7, cs, HV.out.2, HD, rfl, (Own.set3 os3 R.lt _ _ _).mono g.size, (Own.set3 od3 R.lt _ _ _).mono g.size⟩⟩
end Go.Proofs.YtidbebfendjnlaaGreatDoor

/- rat.isCount. -/
namespace Go.Proofs.YtidbebfendjnlaaGreatDoor
set_option linter.unusedVariables false
set_option linter.unusedSimpArgs false
open Go.RowKit

/-- Is a right number whole and not below 0? -/
def IsCount (b : Bool) (ds : List Int) : Prop := ds = [1] ∧ b = false

set_option maxRecDepth 100000 in
set_option maxHeartbeats 1600000 in
theorem isCount_any {w : World} {b : Bool} {a1 a2 : Option Addr} {c1 c2 : Nat} {ns ds : List Int} (h1 : Rd w.heap.size w (.slice a1 ns.length c1) ns) (h2 : Rd w.heap.size w (.slice a2 ds.length c2) ds) :
    Calls Tryz.prog 94 #[.agg #[.bool b, .slice a1 ns.length c1, .slice a2 ds.length c2]] w fun e w' => TellsP (IsCount b ds) e ∧ Below w.heap.size w w' := by
  have X := nvar_new (b := b) h1 h2
  have g := below_alloc w (.cells #[.bool b, .slice a1 ns.length c1, .slice a2 ds.length c2] 25)
  obtain ⟨x0, x1, x2⟩ := X.cells
  go_enter Tryz.func94, Tryz.ntmps94
  go_wp2_with fail
  generalize hA : w.alloc (.cells #[.bool b, .slice a1 ns.length c1, .slice a2 ds.length c2] 25) = v at *
  clear hA
  refine (isOne_any X.rd).mono ?_
  rintro e w' ⟨rfl, rfl⟩
  by_cases hone : ds = [1]
  · have HO : Hid (ds = [1]) := hone
    rw [decide_eq_true hone]
    clear hone
    cases b with
    | false =>
      go_wp2
      go_ret
      exact ⟨TellsP.yes ⟨HO.out, rfl⟩, g⟩
    | true =>
      go_wp2
      go_ret
      exact ⟨TellsP.no (fun h => by cases h.2), g⟩
  · have HO : Hid (¬ ds = [1]) := hone
    rw [decide_eq_false hone]
    clear hone
    go_wp2
    go_ret
    exact ⟨TellsP.no (fun h => HO.out h.1), g⟩
end Go.Proofs.YtidbebfendjnlaaGreatDoor

/- rat.Binomial of two right whole numbers that are not below 0. -/
namespace Go.Proofs.YtidbebfendjnlaaGreatDoor
set_option linter.unusedVariables false
set_option linter.unusedSimpArgs false
open Go.RowKit

section
variable {w : World} {a1 a2 a3 a4 : Option Addr} {c1 c2 c3 c4 : Nat} {xn xd yn yd : List Int}
set_option maxRecDepth 100000 in
set_option maxHeartbeats 8000000 in
theorem binomial_any (h1 : Rd w.heap.size w (.slice a1 xn.length c1) xn) (h2 : Rd w.heap.size w (.slice a2 xd.length c2) xd) (h3 : Rd w.heap.size w (.slice a3 yn.length c3) yn) (h4 : Rd w.heap.size w (.slice a4 yd.length c4) yd) (PX : Hid (RightP false xn xd ∧ xd = [1])) (PY : Hid (RightP false yn yd ∧ yd = [1])) (k n : Nat) (hk : Hid (val xn = (k : Int))) (hn : Hid (val yn = (n : Int))) :
    Calls Tryz.prog 51 #[.agg #[.bool false, .slice a1 xn.length c1, .slice a2 xd.length c2], .agg #[.bool false, .slice a3 yn.length c3, .slice a4 yd.length c4]] w fun e w' => Chooses w (binom n k) e w' := by
  have I := in2_new w (.bool false) (.slice a1 xn.length c1) (.slice a2 xd.length c2) (.bool false) (.slice a3 yn.length c3) (.slice a4 yd.length c4)
  have l1 := PX.out.1.1
  have l3 := PY.out.1.1
  go_enter Tryz.func51, Tryz.ntmps51
  go_wp2_with fail
  generalize hA : ((((w.alloc (.cells #[.bool false, .slice a1 xn.length c1, .slice a2 xd.length c2] 25)).alloc (.cells #[.bool false, .slice a3 yn.length c3, .slice a4 yd.length c4] 25)).alloc (.cells #[.bool false, .slice none 0 0, .slice none 0 0] 25)).alloc (.cells #[.bool false, .slice a1 xn.length c1, .slice a2 xd.length c2, .bool false, .slice a3 yn.length c3, .slice a4 yd.length c4] 25)) = v0 at *
  clear hA
  obtain ⟨hX, hY, hR, hT, g, s0⟩ := I
  have X : NVar v0 w.heap.size false a1 xn c1 a2 xd c2 := ⟨by omega, hX, (h1.below g).mono g.size, (h2.below g).mono g.size⟩
  have Y : NVar v0 (w.heap.size + 1) false a3 yn c3 a4 yd c4 := ⟨by omega, hY, (h3.below g).mono g.size, (h4.below g).mono g.size⟩
  have R : RVar v0 (w.heap.size + 1 + 1) := ⟨by omega, hR⟩
  have s1 : w.heap.size ≤ w.heap.size + 1 + 1 := by omega
  clear hX hY hR h1 h2 h3 h4 s0
  refine (allRight2 hT X.rn X.rd Y.rn Y.rd (Nat.le_refl _)).mono ?_
  rintro e w0 ⟨⟨r, rfl, hr⟩, k0⟩
  replace X := X.below k0
  replace Y := Y.below k0
  replace R := R.below k0
  replace g := g.trans (k0.mono g.size)
  obtain rfl : r = true := hr.2 ⟨PX.out.1, PY.out.1⟩
  clear hr hT k0
  obtain ⟨X0, X1, X2⟩ := X.cells
  obtain ⟨Y0, Y1, Y2⟩ := Y.cells
  go_wp2_with fail
  clear X0 X1 X2 Y0 Y1 Y2
  refine (isCount_any X.rn X.rd).mono ?_
  rintro e w1 ⟨⟨r, rfl, hr⟩, k1⟩
  replace X := X.below k1
  replace Y := Y.below k1
  replace R := R.below k1
  replace g := g.trans (k1.mono g.size)
  obtain rfl : r = true := hr.2 ⟨PX.out.2, rfl⟩
  clear hr k1
  obtain ⟨X0, X1, X2⟩ := X.cells
  obtain ⟨Y0, Y1, Y2⟩ := Y.cells
  go_wp2_with fail
  clear X0 X1 X2 Y0 Y1 Y2
  refine (isCount_any Y.rn Y.rd).mono ?_
  rintro e w2 ⟨⟨r, rfl, hr⟩, k2⟩
  replace X := X.below k2
  replace Y := Y.below k2
  replace R := R.below k2
  replace g := g.trans (k2.mono g.size)
  obtain rfl : r = true := hr.2 ⟨PY.out.2, rfl⟩
  clear hr k2
  obtain ⟨X0, X1, X2⟩ := X.cells
  obtain ⟨Y0, Y1, Y2⟩ := Y.cells
  go_wp2_with fail
  clear X0 X1 X2 Y0 Y1 Y2
  refine (minus_any Y.rn (Nat.le_refl _) X.rn (Nat.le_refl _) (by omega)).mono ?_
  rintro e w3 ⟨⟨k3, hmin⟩, hmin0⟩
  replace X := X.below k3
  replace Y := Y.below k3
  replace R := R.below k3
  replace g := g.trans (k3.mono g.size)
  by_cases hlt : n < k
  · rw [if_pos (by rw [hk.out, hn.out]; omega)] at hmin
    subst hmin
    clear hmin0
    have HB : Hid (binom n k = 0) := binom_lt hlt
    have gk := g
    have Rk := R
    go_wp2_with fail
    refine (ofInt_any 0 (by omega) (by omega) _).mono ?_
    rintro e w4 ⟨k4, b1, ns, ds, x1, y1, x2, y2, HW, rfl, on, od⟩
    replace X := X.below k4
    replace Y := Y.below k4
    replace R := R.below k4
    replace g := g.trans (k4.mono g.size)
    obtain rfl : b1 = false := HW.out.1
    have HZ : Hid (can ns ∧ val ns = 0 ∧ ds = [1]) := ⟨HW.out.2.1, HW.out.2.2.1, HW.out.2.2.2.2⟩
    have HF : Fits 0 := ⟨by have := pw_pos 32; exact this⟩
    have q0 := R.box.c0
    have q1 := R.box.c1
    have q2 := R.box.c2
    have p0 := R.box.f0
    have p1 := R.box.f1
    have p2 := R.box.f2
    go_wp2
    have hR3 := R.box.set (.bool false) (.slice x1 ns.length y1) (.slice x2 ds.length y2)
    have r0 := hR3.c0
    have r1 := hR3.c1
    have r2 := hR3.c2
    refine bodyPost_ret (v := .tuple #[.agg #[.bool false, .slice x1 ns.length y1, .slice x2 ds.length y2], .int .i64 0]) (by simp [results, Tryz.results51, go_sem, r0, r1, r2]) rfl ?_
    rw [HB.out]
    exact ⟨Below.set3 g s1 _ _ _, Or.inr ⟨HF.is, ns, ds, x1, y1, x2, y2, HZ.out.1, HZ.out.2.1, HZ.out.2.2, rfl, (Own.set3 on Rk.lt _ _ _).mono gk.size, (Own.set3 od Rk.lt _ _ _).mono gk.size⟩⟩
  · clear hmin
    obtain ⟨zs, z1, z2, lz, cz, vz, rfl, oz⟩ := hmin0 (by rw [hk.out, hn.out]; omega)
    clear hmin0
    have HZ : Hid (val zs = ((n - k : Nat) : Int)) := by unfold Hid; rw [vz, hk.out, hn.out]; omega
    clear vz
    obtain ⟨X0, X1, X2⟩ := X.cells
    go_wp2_with fail
    clear X0 X1 X2
    refine (compare_bl X.rn oz.rd).mono ?_
    rintro e w4 ⟨rfl, k4⟩
    have oz4 := oz.below k4 (Nat.le_refl _)
    rw [hk.out, HZ.out]
    replace X := X.below k4
    replace Y := Y.below k4
    replace R := R.below k4
    replace g := g.trans (k4.mono g.size)
    have gk := g
    have Rk := R
    by_cases hlt2 : k < n - k
    · have hc : cmpI ((k : Nat) : Int) ((n - k : Nat) : Int) = -1 := cmpI_lt (by omega)
      rw [hc]
      clear hc
      have HE : Hid (binom (n - k + k) k = binom n k) := by unfold Hid; congr 1; omega
      obtain ⟨X0, X1, X2⟩ := X.cells
      go_wp2_with fail
      clear X0 X1 X2
      refine (choose_any X.rn oz4.rd (by omega) (by omega) k (n - k) hk HZ).mono ?_
      intro e w5 hch
      rw [HE.out] at hch
      obtain ⟨k5, ⟨hb, he⟩ | ⟨hb, us, ds, u1, u2, u3, u4, cu, vu, HD, rfl, ou, od⟩⟩ := hch
      · replace X := X.below k5
        replace Y := Y.below k5
        replace R := R.below k5
        replace g := g.trans (k5.mono g.size)
        unfold errOf at he
        subst he
        have HG : Great (binom n k) := ⟨hb⟩
        clear hb
        have q0 := R.box.c0
        have q1 := R.box.c1
        have q2 := R.box.c2
        have p0 := R.box.f0
        have p1 := R.box.f1
        have p2 := R.box.f2
        go_wp2
        have hR3 := R.box.set (.bool false) (.slice none 0 0) (.slice none 0 0)
        have r0 := hR3.c0
        have r1 := hR3.c1
        have r2 := hR3.c2
        refine bodyPost_ret (v := .tuple #[.agg #[.bool false, .slice none 0 0, .slice none 0 0], .int .i64 8]) (by simp [results, Tryz.results51, go_sem, r0, r1, r2]) rfl ?_
        exact ⟨Below.set3 g s1 _ _ _, Or.inl ⟨HG.is, rfl⟩⟩
      · replace X := X.below k5
        replace Y := Y.below k5
        replace R := R.below k5
        replace g := g.trans (k5.mono g.size)
        have HG : Fits (binom n k) := ⟨hb⟩
        have HV : Hid (val us = (binom n k : Int)) := vu
        clear hb vu
        have q0 := R.box.c0
        have q1 := R.box.c1
        have q2 := R.box.c2
        have p0 := R.box.f0
        have p1 := R.box.f1
        have p2 := R.box.f2
        go_wp2
        have hR3 := R.box.set (.bool false) (.slice u1 us.length u2) (.slice u3 ds.length u4)
        have r0 := hR3.c0
        have r1 := hR3.c1
        have r2 := hR3.c2
        refine bodyPost_ret (v := .tuple #[.agg #[.bool false, .slice u1 us.length u2, .slice u3 ds.length u4], .int .i64 0]) (by simp [results, Tryz.results51, go_sem, r0, r1, r2]) rfl ?_
        exact ⟨Below.set3 g s1 _ _ _, Or.inr ⟨HG.is, us, ds, u1, u2, u3, u4, cu, HV.out, HD, rfl, (Own.set3 ou Rk.lt _ _ _).mono gk.size, (Own.set3 od Rk.lt _ _ _).mono gk.size⟩⟩
    · have hc : cmpI ((k : Nat) : Int) ((n - k : Nat) : Int) = 0 ∨ cmpI ((k : Nat) : Int) ((n - k : Nat) : Int) = 1 := by
        unfold cmpI
        split
        · omega
        · split
          · exact Or.inl rfl
          · exact Or.inr rfl
      have hc2 : ¬ cmpI ((k : Nat) : Int) ((n - k : Nat) : Int) < 0 := by omega
      clear hc
      generalize cmpI ((k : Nat) : Int) ((n - k : Nat) : Int) = cc at *
      have HE : Hid (binom (k + (n - k)) (n - k) = binom n k) := by unfold Hid; rw [show k + (n - k) = n by omega]; exact binom_sym n (n - k) k (by omega)
      obtain ⟨X0, X1, X2⟩ := X.cells
      go_wp2_with fail
      clear X0 X1 X2
      refine (choose_any oz4.rd X.rn (by omega) (by omega) (n - k) k HZ hk).mono ?_
      intro e w5 hch
      rw [HE.out] at hch
      obtain ⟨k5, ⟨hb, he⟩ | ⟨hb, us, ds, u1, u2, u3, u4, cu, vu, HD, rfl, ou, od⟩⟩ := hch
      · replace X := X.below k5
        replace Y := Y.below k5
        replace R := R.below k5
        replace g := g.trans (k5.mono g.size)
        unfold errOf at he
        subst he
        have HG : Great (binom n k) := ⟨hb⟩
        clear hb
        have q0 := R.box.c0
        have q1 := R.box.c1
        have q2 := R.box.c2
        have p0 := R.box.f0
        have p1 := R.box.f1
        have p2 := R.box.f2
        go_wp2
        have hR3 := R.box.set (.bool false) (.slice none 0 0) (.slice none 0 0)
        have r0 := hR3.c0
        have r1 := hR3.c1
        have r2 := hR3.c2
        refine bodyPost_ret (v := .tuple #[.agg #[.bool false, .slice none 0 0, .slice none 0 0], .int .i64 8]) (by simp [results, Tryz.results51, go_sem, r0, r1, r2]) rfl ?_
        exact ⟨Below.set3 g s1 _ _ _, Or.inl ⟨HG.is, rfl⟩⟩
      · replace X := X.below k5
        replace Y := Y.below k5
        replace R := R.below k5
        replace g := g.trans (k5.mono g.size)
        have HG : Fits (binom n k) := ⟨hb⟩
        have HV : Hid (val us = (binom n k : Int)) := vu
        clear hb vu
        have q0 := R.box.c0
        have q1 := R.box.c1
        have q2 := R.box.c2
        have p0 := R.box.f0
        have p1 := R.box.f1
        have p2 := R.box.f2
        go_wp2
        have hR3 := R.box.set (.bool false) (.slice u1 us.length u2) (.slice u3 ds.length u4)
        have r0 := hR3.c0
        have r1 := hR3.c1
        have r2 := hR3.c2
        refine bodyPost_ret (v := .tuple #[.agg #[.bool false, .slice u1 us.length u2, .slice u3 ds.length u4], .int .i64 0]) (by simp [results, Tryz.results51, go_sem, r0, r1, r2]) rfl ?_
        exact ⟨Below.set3 g s1 _ _ _, Or.inr ⟨HG.is, us, ds, u1, u2, u3, u4, cu, HV.out, HD, rfl, (Own.set3 ou Rk.lt _ _ _).mono gk.size, (Own.set3 od Rk.lt _ _ _).mono gk.size⟩⟩
end
end Go.Proofs.YtidbebfendjnlaaGreatDoor

/- rat.Residue. -/
namespace Go.Proofs.YtidbebfendjnlaaGreatDoor
set_option linter.unusedVariables false
set_option linter.unusedSimpArgs false
open Go.RowKit

theorem big_cross {N D N' D' : Int} (hD : 0 < D) (h : N * D' = N' * D) (hb : Big N D) : Big N' D' := by
  obtain ⟨b, ns, ds, cn, cd, hd, hg, hv, hl⟩ := hb
  refine ⟨b, ns, ds, cn, cd, hd, hg, cancel hD ?_, hl⟩
  have e1 : sg b (val ns) * D' * D = sg b (val ns) * D * D' := by ac_rfl
  have e2 : N' * val ds * D = N' * D * val ds := by ac_rfl
  rw [e1, hv, e2, ← h]
  ac_rfl
theorem floor_cross {N D Q q : Int} (hD : 0 < D) (hq : 0 < q) (h : Q * D = N * q) : Q / q = N / D := by
  have e1 : Q * D / (q * D) = Q / q := Int.mul_ediv_mul_of_pos_left Q q hD
  have e2 : N * q / (D * q) = N / D := Int.mul_ediv_mul_of_pos_left N D hq
  rw [← e1, h, Int.mul_comm q D, e2]

theorem res_cross {Y T xd yd td : Int} {K : Int} (h : T * xd = K * td) : (Y * td + -T * yd) * (yd * xd) = (Y * xd + -K * yd) * (yd * td) := by
  have e1 : (Y * td + -T * yd) * (yd * xd) = Y * td * (yd * xd) + -(T * xd) * (yd * yd) := by
    rw [Int.add_mul, Int.neg_mul, Int.neg_mul, Int.neg_mul]
    congr 2
    ac_rfl
  have e2 : (Y * xd + -K * yd) * (yd * td) = Y * xd * (yd * td) + -(K * td) * (yd * yd) := by
    rw [Int.add_mul, Int.neg_mul, Int.neg_mul, Int.neg_mul]
    congr 2
    ac_rfl
  rw [e1, e2, h]
  congr 1
  ac_rfl
theorem whole_den {b : Bool} {ns ds : List Int} {F : Int} (cn : can ns) (cd : can ds) (hd : 0 < ds.length) (hg : gI (val ns) (val ds) = 1) (h : sg b (val ns) = F * val ds) : ds = [1] := by
  have dp : 0 < val ds := by have := can_low cd hd; have := pw_pos (ds.length - 1); omega
  have np := (val_bound cn.1).1
  refine limbs_of cd 1 (by omega) (by omega) ?_
  obtain ⟨n, en⟩ := Int.eq_ofNat_of_zero_le np
  obtain ⟨d, ed⟩ := Int.eq_ofNat_of_zero_le (Int.le_of_lt dp)
  rw [en, ed] at h
  have hdv : (d : Int) ∣ (n : Int) := by
    cases b with
    | false => exact ⟨F, by rw [sg_false] at h; rw [h, Int.mul_comm]⟩
    | true => exact ⟨-F, by simp [sg] at h; rw [Int.mul_neg, Int.mul_comm, ← h, Int.neg_neg]⟩
  have hdn : d ∣ n := Int.natCast_dvd_natCast.1 hdv
  rw [en, ed] at hg
  rw [ed]
  unfold gI at hg
  simp only [Int.toNat_natCast] at hg
  rw [Nat.gcd_eq_right hdn] at hg
  exact hg

/-- What stands in a residue's way. -/
def ResBig (N1 D1 X xd Y yd : Int) : Prop := Big N1 D1 ∨ Big (N1 / D1) 1 ∨ Big (X * (N1 / D1)) xd ∨ Big (Y * xd + -(X * (N1 / D1)) * yd) (yd * xd)
/-- What rat.Residue answers. -/
def Residues (w' : World) (k : Nat) (P : Prop) (bx : Bool) (xn xd : List Int) (cy : Bool) (yn yd : List Int) (b : Bool) (x1 : Option Addr) (n y1 : Nat) (x2 : Option Addr) (m y2 : Nat) (err : Int) : Prop :=
  (¬ P ∧ err = 22 ∧ b = false ∧ x1 = none ∧ n = 0 ∧ y1 = 0 ∧ x2 = none ∧ m = 0 ∧ y2 = 0) ∨
  (P ∧ xn.length = 0 ∧ err = 0 ∧ b = cy ∧ n = yn.length ∧ m = yd.length ∧ Own k w' (.slice x1 n y1) yn ∧ Own k w' (.slice x2 m y2) yd) ∨
  (P ∧ 0 < xn.length ∧ err = 8 ∧ b = false ∧ x1 = none ∧ n = 0 ∧ y1 = 0 ∧ x2 = none ∧ m = 0 ∧ y2 = 0 ∧ ResBig (sg cy (val yn) * sg bx (val xd)) (val yd * val xn) (sg bx (val xn)) (val xd) (sg cy (val yn)) (val yd)) ∨
  (P ∧ 0 < xn.length ∧ err = 0 ∧ ¬ ResBig (sg cy (val yn) * sg bx (val xd)) (val yd * val xn) (sg bx (val xn)) (val xd) (sg cy (val yn)) (val yd) ∧ ∃ ns ds, n = ns.length ∧ m = ds.length ∧ Own k w' (.slice x1 n y1) ns ∧ Own k w' (.slice x2 m y2) ds ∧ RightP b ns ds ∧ sg b (val ns) * (val yd * val xd) = (sg cy (val yn) * val xd + -(sg bx (val xn) * ((sg cy (val yn) * sg bx (val xd)) / (val yd * val xn))) * val yd) * val ds)
def ResGives (w : World) (P : Prop) (bx : Bool) (xn xd : List Int) (cy : Bool) (yn yd : List Int) (e : Ending) (w' : World) : Prop :=
  Below w.heap.size w w' ∧ ∃ b x1 n y1 x2 m y2 err, e = .returned (.tuple #[.agg #[.bool b, .slice x1 n y1, .slice x2 m y2], .int .i64 err]) ∧ Hid (Residues w' w.heap.size P bx xn xd cy yn yd b x1 n y1 x2 m y2 err)

section
variable {w : World} {bx cy : Bool} {a1 a2 a3 a4 : Option Addr} {c1 c2 c3 c4 : Nat} {xn xd yn yd : List Int}
theorem res_small {w' : World} {P : Prop} {e : Ending} (hb : Below w.heap.size w w') (he : e = .returned (.tuple #[.agg #[.bool false, .slice none 0 0, .slice none 0 0], .int .i64 22])) (hP : ¬ P) : ResGives w P bx xn xd cy yn yd e w' :=
  ⟨hb, false, none, 0, 0, none, 0, 0, 22, he, Or.inl ⟨hP, rfl, rfl, rfl, rfl, rfl, rfl, rfl, rfl⟩⟩
theorem res_big {w' : World} {P : Prop} {e : Ending} (hb : Below w.heap.size w w') (he : e = .returned (.tuple #[.agg #[.bool false, .slice none 0 0, .slice none 0 0], .int .i64 8])) (hP : P) (h0 : 0 < xn.length) (hB : ResBig (sg cy (val yn) * sg bx (val xd)) (val yd * val xn) (sg bx (val xn)) (val xd) (sg cy (val yn)) (val yd)) : ResGives w P bx xn xd cy yn yd e w' :=
  ⟨hb, false, none, 0, 0, none, 0, 0, 8, he, Or.inr (Or.inr (Or.inl ⟨hP, h0, rfl, rfl, rfl, rfl, rfl, rfl, rfl, rfl, hB⟩))⟩

set_option maxRecDepth 100000 in
set_option maxHeartbeats 16000000 in
theorem residue_rat (h1 : Rd w.heap.size w (.slice a1 xn.length c1) xn) (h2 : Rd w.heap.size w (.slice a2 xd.length c2) xd) (h3 : Rd w.heap.size w (.slice a3 yn.length c3) yn) (h4 : Rd w.heap.size w (.slice a4 yd.length c4) yd) :
    Calls Tryz.prog 45 #[.agg #[.bool bx, .slice a1 xn.length c1, .slice a2 xd.length c2], .agg #[.bool cy, .slice a3 yn.length c3, .slice a4 yd.length c4]] w fun e w' => ResGives w (RightP bx xn xd ∧ RightP cy yn yd) bx xn xd cy yn yd e w' := by
  have I := in2_new w (.bool bx) (.slice a1 xn.length c1) (.slice a2 xd.length c2) (.bool cy) (.slice a3 yn.length c3) (.slice a4 yd.length c4)
  go_enter Tryz.func45, Tryz.ntmps45
  go_wp2_with fail
  generalize hA : ((((w.alloc (.cells #[.bool bx, .slice a1 xn.length c1, .slice a2 xd.length c2] 25)).alloc (.cells #[.bool cy, .slice a3 yn.length c3, .slice a4 yd.length c4] 25)).alloc (.cells #[.bool false, .slice none 0 0, .slice none 0 0] 25)).alloc (.cells #[.bool bx, .slice a1 xn.length c1, .slice a2 xd.length c2, .bool cy, .slice a3 yn.length c3, .slice a4 yd.length c4] 25)) = v0 at *
  clear hA
  obtain ⟨hX, hY, hR, hT, g, s0⟩ := I
  have X : NVar v0 w.heap.size bx a1 xn c1 a2 xd c2 := ⟨by omega, hX, (h1.below g).mono g.size, (h2.below g).mono g.size⟩
  have Y : NVar v0 (w.heap.size + 1) cy a3 yn c3 a4 yd c4 := ⟨by omega, hY, (h3.below g).mono g.size, (h4.below g).mono g.size⟩
  have R : RVar v0 (w.heap.size + 1 + 1) := ⟨by omega, hR⟩
  have s1 : w.heap.size ≤ w.heap.size + 1 + 1 := by omega
  clear hX hY hR h1 h2 h3 h4 s0
  refine (allRight2 hT X.rn X.rd Y.rn Y.rd (Nat.le_refl _)).mono ?_
  rintro e w0 ⟨⟨r, rfl, hr⟩, k0⟩
  replace X := X.below k0
  replace Y := Y.below k0
  replace R := R.below k0
  replace g := g.trans (k0.mono g.size)
  clear hT k0
  cases r with
  | false =>
    have HP : Hid (¬ (RightP bx xn xd ∧ RightP cy yn yd)) := fun h => by have := hr.2 h; cases this
    clear hr
    have q0 := R.box.c0
    have q1 := R.box.c1
    have q2 := R.box.c2
    have p0 := R.box.f0
    have p1 := R.box.f1
    have p2 := R.box.f2
    go_wp2
    have hR3 := R.box.set (.bool false) (.slice none 0 0) (.slice none 0 0)
    have r0 := hR3.c0
    have r1 := hR3.c1
    have r2 := hR3.c2
    refine bodyPost_ret (v := .tuple #[.agg #[.bool false, .slice none 0 0, .slice none 0 0], .int .i64 22]) (by simp [results, Tryz.results45, go_sem, r0, r1, r2]) rfl ?_
    exact res_small (Below.set3 g s1 _ _ _) rfl HP.out
  | true =>
    have HP : Hid (RightP bx xn xd ∧ RightP cy yn yd) := hr.1 rfl
    clear hr
    by_cases hx0 : 0 < xn.length
    · have hxb : ((xn.length : Int) == 0) = false := by rw [beq_eq_false_iff_ne]; omega
      have HX0 : Hid (0 < val xn) := by
        have h5 := can_low HP.out.1.2.2.1 hx0
        have h6 := pw_pos (xn.length - 1)
        unfold Hid
        omega
      have HD1 : Hid (0 < val yd * val xn) := Int.mul_pos (right_pos HP.out.2).1 HX0.out
      obtain ⟨X0, X1, X2⟩ := X.cells
      obtain ⟨Y0, Y1, Y2⟩ := Y.cells
      go_wp2_with fail
      clear X0 X1 X2 Y0 Y1 Y2
      refine (by_rat Y.rn Y.rd X.rn X.rd (Nat.le_refl _) HP.out.2 HP.out.1 hx0).mono ?_
      intro e w1 hm
      obtain ⟨k2, ⟨rfl, hbig⟩ | ⟨bq, nq, dq, xq, yq, uq, tq, rfl, oq, qq, Pq, hq⟩⟩ := gives_or (hm.gives True.intro) True.intro
      · replace X := X.below k2
        replace Y := Y.below k2
        replace R := R.below k2
        replace g := g.trans (k2.mono g.size)
        have HB : Hid (ResBig (sg cy (val yn) * sg bx (val xd)) (val yd * val xn) (sg bx (val xn)) (val xd) (sg cy (val yn)) (val yd)) := Or.inl hbig
        clear hbig hm
        have kz3 := below_alloc w1 (.cells #[.bool false, .slice none 0 0, .slice none 0 0] 25)
        replace X := X.below kz3
        replace Y := Y.below kz3
        replace R := R.below kz3
        replace g := g.trans (kz3.mono g.size)
        clear kz3
        replace R := R
        have q0 := R.box.c0
        have q1 := R.box.c1
        have q2 := R.box.c2
        have p0 := R.box.f0
        have p1 := R.box.f1
        have p2 := R.box.f2
        go_wp2
        have hR3 := R.box.set (.bool false) (.slice none 0 0) (.slice none 0 0)
        have r0 := hR3.c0
        have r1 := hR3.c1
        have r2 := hR3.c2
        refine bodyPost_ret (v := .tuple #[.agg #[.bool false, .slice none 0 0, .slice none 0 0], .int .i64 8]) (by simp [results, Tryz.results45, go_sem, r0, r1, r2]) rfl ?_
        exact res_big (Below.set3 g s1 _ _ _) rfl HP.out hx0 HB.out
      · replace X := X.below k2
        replace Y := Y.below k2
        replace R := R.below k2
        replace g := g.trans (k2.mono g.size)
        clear hm
        have HQ : Hid (RightP bq nq dq ∧ sg bq (val nq) / val dq = (sg cy (val yn) * sg bx (val xd)) / (val yd * val xn) ∧ ¬ Big (sg cy (val yn) * sg bx (val xd)) (val yd * val xn)) := ⟨Pq, floor_cross HD1.out (right_pos Pq).1 hq, not_big Pq hq HD1.out⟩
        clear Pq hq
        have ka4 := below_alloc w1 (.cells #[.bool bq, .slice xq nq.length yq, .slice uq dq.length tq] 25)
        have Q := nvar_new (b := bq) oq.rd qq.rd
        replace X := X.below ka4
        replace Y := Y.below ka4
        replace R := R.below ka4
        replace g := g.trans (ka4.mono g.size)
        clear ka4
        obtain ⟨Q0, Q1, Q2⟩ := Q.cells
        go_wp2_with fail
        clear Q0 Q1 Q2
        generalize hA : (w1.alloc (.cells #[.bool bq, .slice xq nq.length yq, .slice uq dq.length tq] 25)) = v5 at *
        clear hA
        refine (floor_rat Q.rn Q.rd).mono ?_
        intro e w6 hm
        obtain ⟨k7, ⟨rfl, hbig⟩ | ⟨bf, nf, df, xf, yf, uf, tf, rfl, of, qf, Pf, hf⟩⟩ := gives_or hm HQ.out.1
        · replace X := X.below k7
          replace Y := Y.below k7
          replace Q := Q.below k7
          replace R := R.below k7
          replace g := g.trans (k7.mono g.size)
          have HB : Hid (ResBig (sg cy (val yn) * sg bx (val xd)) (val yd * val xn) (sg bx (val xn)) (val xd) (sg cy (val yn)) (val yd)) := Or.inr (Or.inl (by rw [HQ.out.2.1] at hbig; exact hbig))
          clear hbig hm
          have kz8 := below_alloc w6 (.cells #[.bool false, .slice none 0 0, .slice none 0 0] 25)
          replace X := X.below kz8
          replace Y := Y.below kz8
          replace Q := Q.below kz8
          replace R := R.below kz8
          replace g := g.trans (kz8.mono g.size)
          clear kz8
          replace R := R
          have q0 := R.box.c0
          have q1 := R.box.c1
          have q2 := R.box.c2
          have p0 := R.box.f0
          have p1 := R.box.f1
          have p2 := R.box.f2
          go_wp2
          have hR3 := R.box.set (.bool false) (.slice none 0 0) (.slice none 0 0)
          have r0 := hR3.c0
          have r1 := hR3.c1
          have r2 := hR3.c2
          refine bodyPost_ret (v := .tuple #[.agg #[.bool false, .slice none 0 0, .slice none 0 0], .int .i64 8]) (by simp [results, Tryz.results45, go_sem, r0, r1, r2]) rfl ?_
          exact res_big (Below.set3 g s1 _ _ _) rfl HP.out hx0 HB.out
        · replace X := X.below k7
          replace Y := Y.below k7
          replace Q := Q.below k7
          replace R := R.below k7
          replace g := g.trans (k7.mono g.size)
          clear hm
          rw [HQ.out.2.1] at hf
          have HF : Hid (RightP bf nf df ∧ df = [1] ∧ sg bf (val nf) = (sg cy (val yn) * sg bx (val xd)) / (val yd * val xn) ∧ ¬ Big ((sg cy (val yn) * sg bx (val xd)) / (val yd * val xn)) 1) := by
            have h5 := not_big Pf hf (by decide)
            rw [Int.mul_one] at hf
            have e2 := whole_den Pf.2.2.1 Pf.2.2.2.1 Pf.2.2.2.2.2.1 Pf.2.2.2.2.2.2 hf
            refine ⟨Pf, e2, ?_, h5⟩
            rw [hf, e2, one_val, Int.mul_one]
          clear Pf hf
          have ka9 := below_alloc w6 (.cells #[.bool bf, .slice xf nf.length yf, .slice uf df.length tf] 25)
          have G := nvar_new (b := bf) of.rd qf.rd
          replace X := X.below ka9
          replace Y := Y.below ka9
          replace Q := Q.below ka9
          replace R := R.below ka9
          replace g := g.trans (ka9.mono g.size)
          clear ka9
          obtain ⟨X0, X1, X2⟩ := X.cells
          obtain ⟨G0, G1, G2⟩ := G.cells
          go_wp2_with fail
          clear G0 G1 G2 X0 X1 X2
          generalize hA : (w6.alloc (.cells #[.bool bf, .slice xf nf.length yf, .slice uf df.length tf] 25)) = v10 at *
          clear hA
          refine (times_rat X.rn X.rd G.rn G.rd (Nat.le_refl _) HP.out.1 HF.out.1).mono ?_
          intro e w11 hm
          obtain ⟨k12, ⟨rfl, hbig⟩ | ⟨bt, nt, dt, xt, yt, ut, tt, rfl, ot, qt, Pt, ht⟩⟩ := gives_or (hm.gives True.intro) True.intro
          · replace X := X.below k12
            replace Y := Y.below k12
            replace Q := Q.below k12
            replace G := G.below k12
            replace R := R.below k12
            replace g := g.trans (k12.mono g.size)
            have HB : Hid (ResBig (sg cy (val yn) * sg bx (val xd)) (val yd * val xn) (sg bx (val xn)) (val xd) (sg cy (val yn)) (val yd)) := Or.inr (Or.inr (Or.inl (by rw [HF.out.2.1, one_val, Int.mul_one, HF.out.2.2.1] at hbig; exact hbig)))
            clear hbig hm
            have kz13 := below_alloc w11 (.cells #[.bool false, .slice none 0 0, .slice none 0 0] 25)
            replace X := X.below kz13
            replace Y := Y.below kz13
            replace Q := Q.below kz13
            replace G := G.below kz13
            replace R := R.below kz13
            replace g := g.trans (kz13.mono g.size)
            clear kz13
            replace R := R
            have q0 := R.box.c0
            have q1 := R.box.c1
            have q2 := R.box.c2
            have p0 := R.box.f0
            have p1 := R.box.f1
            have p2 := R.box.f2
            go_wp2
            have hR3 := R.box.set (.bool false) (.slice none 0 0) (.slice none 0 0)
            have r0 := hR3.c0
            have r1 := hR3.c1
            have r2 := hR3.c2
            refine bodyPost_ret (v := .tuple #[.agg #[.bool false, .slice none 0 0, .slice none 0 0], .int .i64 8]) (by simp [results, Tryz.results45, go_sem, r0, r1, r2]) rfl ?_
            exact res_big (Below.set3 g s1 _ _ _) rfl HP.out hx0 HB.out
          · replace X := X.below k12
            replace Y := Y.below k12
            replace Q := Q.below k12
            replace G := G.below k12
            replace R := R.below k12
            replace g := g.trans (k12.mono g.size)
            clear hm
            have HT : Hid (RightP bt nt dt ∧ sg bt (val nt) * val xd = sg bx (val xn) * ((sg cy (val yn) * sg bx (val xd)) / (val yd * val xn)) * val dt ∧ ¬ Big (sg bx (val xn) * ((sg cy (val yn) * sg bx (val xd)) / (val yd * val xn))) (val xd)) := by
              rw [HF.out.2.1, one_val, Int.mul_one, HF.out.2.2.1] at ht
              exact ⟨Pt, ht, not_big Pt ht (right_pos HP.out.1).1⟩
            clear Pt ht
            have ka14 := below_alloc w11 (.cells #[.bool bt, .slice xt nt.length yt, .slice ut dt.length tt] 25)
            have V := nvar_new (b := bt) ot.rd qt.rd
            replace X := X.below ka14
            replace Y := Y.below ka14
            replace Q := Q.below ka14
            replace G := G.below ka14
            replace R := R.below ka14
            replace g := g.trans (ka14.mono g.size)
            clear ka14
            obtain ⟨Y0, Y1, Y2⟩ := Y.cells
            obtain ⟨V0, V1, V2⟩ := V.cells
            go_wp2_with fail
            clear V0 V1 V2 Y0 Y1 Y2
            generalize hA : (w11.alloc (.cells #[.bool bt, .slice xt nt.length yt, .slice ut dt.length tt] 25)) = v15 at *
            clear hA
            have gk := g
            have Rk := R
            refine (sub_rat Y.rn Y.rd V.rn V.rd (Nat.le_refl _)).mono ?_
            intro e w16 hm
            obtain ⟨k17, hor⟩ := gives_or hm ⟨HP.out.2, HT.out.1⟩
            have HC : Hid ((sg cy (val yn) * val dt + sg (!bt) (val nt) * val yd) * (val yd * val xd) = (sg cy (val yn) * val xd + -(sg bx (val xn) * ((sg cy (val yn) * sg bx (val xd)) / (val yd * val xn))) * val yd) * (val yd * val dt)) := by
              unfold Hid
              rw [sg_not]
              exact res_cross HT.out.2.1
            have HDt : Hid (0 < val yd * val dt) := Int.mul_pos (right_pos HP.out.2).1 (right_pos HT.out.1).1
            have HDx : Hid (0 < val yd * val xd) := Int.mul_pos (right_pos HP.out.2).1 (right_pos HP.out.1).1
            clear hm
            obtain ⟨rfl, hbig⟩ | ⟨b6, ns, ds, x5, y5, x6, y6, rfl, on, od, hr, hv⟩ := hor
            · replace X := X.below k17
              replace Y := Y.below k17
              replace Q := Q.below k17
              replace G := G.below k17
              replace V := V.below k17
              replace R := R.below k17
              replace g := g.trans (k17.mono g.size)
              have HB : Hid (ResBig (sg cy (val yn) * sg bx (val xd)) (val yd * val xn) (sg bx (val xn)) (val xd) (sg cy (val yn)) (val yd)) := Or.inr (Or.inr (Or.inr (big_cross HDt.out HC.out hbig)))
              clear hbig
              have q0 := R.box.c0
              have q1 := R.box.c1
              have q2 := R.box.c2
              have p0 := R.box.f0
              have p1 := R.box.f1
              have p2 := R.box.f2
              go_wp2
              have hR3 := R.box.set (.bool false) (.slice none 0 0) (.slice none 0 0)
              have r0 := hR3.c0
              have r1 := hR3.c1
              have r2 := hR3.c2
              refine bodyPost_ret (v := .tuple #[.agg #[.bool false, .slice none 0 0, .slice none 0 0], .int .i64 8]) (by simp [results, Tryz.results45, go_sem, r0, r1, r2]) rfl ?_
              exact res_big (Below.set3 g s1 _ _ _) rfl HP.out hx0 HB.out
            · replace X := X.below k17
              replace Y := Y.below k17
              replace Q := Q.below k17
              replace G := G.below k17
              replace V := V.below k17
              replace R := R.below k17
              replace g := g.trans (k17.mono g.size)
              have HV : Hid (RightP b6 ns ds ∧ sg b6 (val ns) * (val yd * val xd) = (sg cy (val yn) * val xd + -(sg bx (val xn) * ((sg cy (val yn) * sg bx (val xd)) / (val yd * val xn))) * val yd) * val ds) := by
                refine ⟨hr, cancel HDt.out ?_⟩
                have e1 : sg b6 (val ns) * (val yd * val xd) * (val yd * val dt) = sg b6 (val ns) * (val yd * val dt) * (val yd * val xd) := by ac_rfl
                have e2 : (sg cy (val yn) * val xd + -(sg bx (val xn) * ((sg cy (val yn) * sg bx (val xd)) / (val yd * val xn))) * val yd) * val ds * (val yd * val dt) = (sg cy (val yn) * val xd + -(sg bx (val xn) * ((sg cy (val yn) * sg bx (val xd)) / (val yd * val xn))) * val yd) * (val yd * val dt) * val ds := by ac_rfl
                rw [e1, hv, e2, ← HC.out]
                ac_rfl
              clear hr hv
              have q0 := R.box.c0
              have q1 := R.box.c1
              have q2 := R.box.c2
              have p0 := R.box.f0
              have p1 := R.box.f1
              have p2 := R.box.f2
              go_wp2
              have hR3 := R.box.set (.bool b6) (.slice x5 ns.length y5) (.slice x6 ds.length y6)
              have r0 := hR3.c0
              have r1 := hR3.c1
              have r2 := hR3.c2
              refine bodyPost_ret (v := .tuple #[.agg #[.bool b6, .slice x5 ns.length y5, .slice x6 ds.length y6], .int .i64 0]) (by simp [results, Tryz.results45, go_sem, r0, r1, r2]) rfl ?_
              exact ⟨Below.set3 g s1 _ _ _, b6, x5, ns.length, y5, x6, ds.length, y6, 0, rfl, Or.inr (Or.inr (Or.inr ⟨HP.out, hx0, rfl, (by
                rintro (h | h | h | h)
                · exact HQ.out.2.2 h
                · exact HF.out.2.2.2 h
                · exact HT.out.2.2 h
                · exact not_big HV.out.1 HV.out.2 HDx.out h), ns, ds, rfl, rfl, (Own.set3 on Rk.lt _ _ _).mono gk.size, (Own.set3 od Rk.lt _ _ _).mono gk.size, HV.out.1, HV.out.2⟩))⟩
    · have hxb : ((xn.length : Int) == 0) = true := by rw [beq_iff_eq]; omega
      have HBy : Hid ((cy && decide (0 < yn.length)) = cy) := by
        unfold Hid
        cases cy with
        | false => rfl
        | true =>
          have h5 := HP.out.2.2.2.2.2.1
          rw [decide_eq_true (by by_cases h6 : yn.length = 0; exact absurd ⟨rfl, h6⟩ h5; omega)]; rfl
      have Hz : Hid (xn.length = 0) := by unfold Hid; omega
      obtain ⟨X0, X1, X2⟩ := X.cells
      obtain ⟨Y0, Y1, Y2⟩ := Y.cells
      go_wp2_with fail
      clear X0 X1 X2 Y0 Y1 Y2
      have gk := g
      have Rk := R
      refine (withSign_rat (b := cy) Y.rn Y.rd (Nat.le_refl _) HP.out.2).mono ?_
      rintro e wz ⟨kz, x5, y5, x6, y6, he, on, od⟩
      rw [HBy.out] at he
      subst he
      replace X := X.below kz
      replace Y := Y.below kz
      replace R := R.below kz
      replace g := g.trans (kz.mono g.size)
      have q0 := R.box.c0
      have q1 := R.box.c1
      have q2 := R.box.c2
      have p0 := R.box.f0
      have p1 := R.box.f1
      have p2 := R.box.f2
      go_wp2
      have hR3 := R.box.set (.bool cy) (.slice x5 yn.length y5) (.slice x6 yd.length y6)
      have r0 := hR3.c0
      have r1 := hR3.c1
      have r2 := hR3.c2
      refine bodyPost_ret (v := .tuple #[.agg #[.bool cy, .slice x5 yn.length y5, .slice x6 yd.length y6], .int .i64 0]) (by simp [results, Tryz.results45, go_sem, r0, r1, r2]) rfl ?_
      exact ⟨Below.set3 g s1 _ _ _, cy, x5, yn.length, y5, x6, yd.length, y6, 0, rfl, Or.inr (Or.inl ⟨HP.out, Hz.out, rfl, rfl, rfl, rfl, (Own.set3 on Rk.lt _ _ _).mono gk.size, (Own.set3 od Rk.lt _ _ _).mono gk.size⟩)⟩
end
end Go.Proofs.YtidbebfendjnlaaGreatDoor

/- rat.Power. -/
namespace Go.Proofs.YtidbebfendjnlaaGreatDoor
set_option linter.unusedVariables false
set_option linter.unusedSimpArgs false
open Go.RowKit

theorem and_one_u32 (x : Int) (h0 : 0 ≤ x) (h1 : x < 4294967296) : bits .and .u32 x 1 = x % 2 :=
  bits_mask .u32 32 (by decide) (fun n a b => by rw [IntKind.wrap_u32]; omega) 1 (by decide) x h0 (by omega)
theorem rd_head {B : Nat} {w : World} {a : Option Addr} {c : Nat} {xs : List Int} (h : Rd B w (.slice a xs.length c) xs) (h0 : 0 < xs.length) : ∃ pb po, a = some ⟨pb, po, none⟩ ∧ xs.length ≤ c ∧ c ≤ 9223372036854775807 := by
  obtain ⟨_, a', c', e, h1, h2, _, h3⟩ := h
  have ea : a' = a ∧ c' = c := by cases e; exact ⟨rfl, rfl⟩
  obtain ⟨rfl, rfl⟩ := ea
  rcases h3 with h3 | ⟨b, o, rfl, _, _⟩
  · omega
  · exact ⟨b, o, rfl, h1, h2⟩
theorem rd_cell0 {B pb po : Nat} {w : World} {c : Nat} {xs : List Int} (h : Rd B w (.slice (some ⟨pb, po, none⟩) xs.length c) xs) (h0 : 0 < xs.length) : w.cell? ⟨pb, po, none⟩ = some (.int .u32 (xs.getD 0 0)) := by
  obtain ⟨_, a', c', e, _, _, _, h3⟩ := h
  have ea : a' = some ⟨pb, po, none⟩ := by cases e; rfl
  subst ea
  rcases h3 with h3 | ⟨b, o, e2, _, k⟩
  · omega
  · have eb : b = pb ∧ o = po := by cases e2; exact ⟨rfl, rfl⟩
    obtain ⟨rfl, rfl⟩ := eb
    exact k 0 h0
theorem val_odd {xs : List Int} (h : lim xs) : val xs % 2 = xs.getD 0 0 % 2 ∧ 0 ≤ xs.getD 0 0 ∧ xs.getD 0 0 < 4294967296 := by
  match xs with
  | [] => exact ⟨by decide, by decide, by decide⟩
  | x :: t =>
    have hx := h x (by simp)
    refine ⟨?_, ?_, ?_⟩
    · simp only [val, List.getD_cons_zero]; omega
    · simpa using hx.1
    · simpa using hx.2
theorem sg_pow (b : Bool) (x : Int) (N : Nat) : sg b x ^ N = sg (b && decide (N % 2 = 1)) (x ^ N) := by
  cases b with
  | false => simp [sg]
  | true =>
    induction N with
    | zero => simp [sg]
    | succ N ih =>
      rw [Int.pow_succ, ih, Int.pow_succ]
      have e : ∀ y : Int, sg true y = -y := fun y => rfl
      by_cases h : N % 2 = 1
      · have h2 : ¬ (N + 1) % 2 = 1 := by omega
        simp only [h, h2, decide_true, decide_false, Bool.and_true, Bool.and_false, e, sg_false]
        rw [Int.neg_mul_neg]
      · have h2 : (N + 1) % 2 = 1 := by omega
        simp only [h, h2, decide_true, decide_false, Bool.and_true, Bool.and_false, e, sg_false]
        rw [Int.mul_neg]
theorem gI_pow {x y : Int} (hx : 0 ≤ x) (hy : 0 ≤ y) (h : gI x y = 1) (N : Nat) : gI (x ^ N) (y ^ N) = 1 := by
  obtain ⟨a, rfl⟩ := Int.eq_ofNat_of_zero_le hx
  obtain ⟨b, rfl⟩ := Int.eq_ofNat_of_zero_le hy
  unfold gI at *
  have e : ∀ c : Nat, ((c : Int) ^ N).toNat = c ^ N := fun c => by rw [← Int.natCast_pow]; exact Int.toNat_natCast _
  rw [e, e]
  simp only [Int.toNat_natCast] at h
  have h1 : Nat.Coprime a b := by unfold Nat.Coprime; omega
  have h2 : Nat.gcd (a ^ N) (b ^ N) = 1 := Nat.Coprime.pow N N h1
  rw [h2]
  rfl
theorem pow_right {b : Bool} {zs us : List Int} {A D : Int} {N : Nat} (cz : can zs) (cu : can us) (vz : val zs = A ^ N) (vu : val us = D ^ N) (hA : 0 ≤ A) (hD : 0 < D) (hg : gI A D = 1) (lz : A ^ N < pw 32) (lu : D ^ N < pw 32) :
    RightP (b && decide (0 < zs.length)) zs us ∧ zs.length ≤ 32 ∧ us.length ≤ 32 ∧ sg (b && decide (0 < zs.length)) (val zs) = sg b (A ^ N) := by
  have l1 : zs.length ≤ 32 := by rw [can_len_pw cz, vz]; exact lz
  have l2 : us.length ≤ 32 := by rw [can_len_pw cu, vu]; exact lu
  have hDp : 0 < D ^ N := Int.pow_pos hD
  have hus : 0 < us.length := by
    by_cases h : us.length = 0
    · have := (can_zero cu).1 h
      omega
    · omega
  refine ⟨⟨l1, l2, cz, cu, ?_, hus, by rw [vz, vu]; exact gI_pow hA (Int.le_of_lt hD) hg N⟩, l1, l2, ?_⟩
  · rintro ⟨h, hz⟩
    rw [decide_eq_false (by omega), Bool.and_false] at h
    cases h
  · by_cases h : 0 < zs.length
    · rw [decide_eq_true h, Bool.and_true, vz]
    · have h2 := (can_zero cz).1 (by omega)
      rw [h2, sg_zero, ← vz, h2, sg_zero]

/-- The size ahead, and the size below, of a power. -/
def pnum (c : Bool) (xn xd : List Int) : Int := if c = true then val xd else val xn
def pden (c : Bool) (xn xd : List Int) : Int := if c = true then val xn else val xd
/-- What rat.Power answers. -/
def Pows (w' : World) (k : Nat) (P : Prop) (bx : Bool) (xn xd : List Int) (cy : Bool) (yn yd : List Int) (b : Bool) (x1 : Option Addr) (n y1 : Nat) (x2 : Option Addr) (m y2 : Nat) (err : Int) : Prop :=
  (¬ P ∧ err = 22 ∧ b = false ∧ x1 = none ∧ n = 0 ∧ y1 = 0 ∧ x2 = none ∧ m = 0 ∧ y2 = 0) ∨
  (P ∧ (¬ yd = [1] ∨ (yd = [1] ∧ 0 < yn.length ∧ xn.length = 0 ∧ cy = true)) ∧ err = 3 ∧ b = false ∧ x1 = none ∧ n = 0 ∧ y1 = 0 ∧ x2 = none ∧ m = 0 ∧ y2 = 0) ∨
  (P ∧ yd = [1] ∧ 0 < yn.length ∧ ¬ (xn.length = 0 ∧ cy = true) ∧ err = 8 ∧ b = false ∧ x1 = none ∧ n = 0 ∧ y1 = 0 ∧ x2 = none ∧ m = 0 ∧ y2 = 0 ∧ (pw 32 ≤ pnum cy xn xd ^ (val yn).toNat ∨ pw 32 ≤ pden cy xn xd ^ (val yn).toNat)) ∨
  (P ∧ yd = [1] ∧ ¬ (0 < yn.length ∧ xn.length = 0 ∧ cy = true) ∧ err = 0 ∧ pnum cy xn xd ^ (val yn).toNat < pw 32 ∧ pden cy xn xd ^ (val yn).toNat < pw 32 ∧ ∃ ns ds, n = ns.length ∧ m = ds.length ∧ Own k w' (.slice x1 n y1) ns ∧ Own k w' (.slice x2 m y2) ds ∧ RightP b ns ds ∧ sg b (val ns) = sg bx (pnum cy xn xd) ^ (val yn).toNat ∧ val ds = pden cy xn xd ^ (val yn).toNat)
def PowsGive (w : World) (P : Prop) (bx : Bool) (xn xd : List Int) (cy : Bool) (yn yd : List Int) (e : Ending) (w' : World) : Prop :=
  Below w.heap.size w w' ∧ ∃ b x1 n y1 x2 m y2 err, e = .returned (.tuple #[.agg #[.bool b, .slice x1 n y1, .slice x2 m y2], .int .i64 err]) ∧ Hid (Pows w' w.heap.size P bx xn xd cy yn yd b x1 n y1 x2 m y2 err)

section
variable {w : World} {bx cy : Bool} {a1 a2 a3 a4 : Option Addr} {c1 c2 c3 c4 : Nat} {xn xd yn yd : List Int}

set_option maxRecDepth 100000 in
set_option maxHeartbeats 16000000 in
theorem power_rat (h1 : Rd w.heap.size w (.slice a1 xn.length c1) xn) (h2 : Rd w.heap.size w (.slice a2 xd.length c2) xd) (h3 : Rd w.heap.size w (.slice a3 yn.length c3) yn) (h4 : Rd w.heap.size w (.slice a4 yd.length c4) yd) :
    Calls Tryz.prog 47 #[.agg #[.bool bx, .slice a1 xn.length c1, .slice a2 xd.length c2], .agg #[.bool cy, .slice a3 yn.length c3, .slice a4 yd.length c4]] w fun e w' => PowsGive w (RightP bx xn xd ∧ RightP cy yn yd) bx xn xd cy yn yd e w' := by
  have I := in2_new w (.bool bx) (.slice a1 xn.length c1) (.slice a2 xd.length c2) (.bool cy) (.slice a3 yn.length c3) (.slice a4 yd.length c4)
  go_enter Tryz.func47, Tryz.ntmps47
  go_wp2_with fail
  generalize hA : ((((w.alloc (.cells #[.bool bx, .slice a1 xn.length c1, .slice a2 xd.length c2] 25)).alloc (.cells #[.bool cy, .slice a3 yn.length c3, .slice a4 yd.length c4] 25)).alloc (.cells #[.bool false, .slice none 0 0, .slice none 0 0] 25)).alloc (.cells #[.bool bx, .slice a1 xn.length c1, .slice a2 xd.length c2, .bool cy, .slice a3 yn.length c3, .slice a4 yd.length c4] 25)) = v0 at *
  clear hA
  obtain ⟨hX, hY, hR, hT, g, s0⟩ := I
  have X : NVar v0 w.heap.size bx a1 xn c1 a2 xd c2 := ⟨by omega, hX, (h1.below g).mono g.size, (h2.below g).mono g.size⟩
  have Y : NVar v0 (w.heap.size + 1) cy a3 yn c3 a4 yd c4 := ⟨by omega, hY, (h3.below g).mono g.size, (h4.below g).mono g.size⟩
  have R : RVar v0 (w.heap.size + 1 + 1) := ⟨by omega, hR⟩
  have s1 : w.heap.size ≤ w.heap.size + 1 + 1 := by omega
  clear hX hY hR h1 h2 h3 h4 s0
  refine (allRight2 hT X.rn X.rd Y.rn Y.rd (Nat.le_refl _)).mono ?_
  rintro e w0 ⟨⟨r, rfl, hr⟩, k0⟩
  replace X := X.below k0
  replace Y := Y.below k0
  replace R := R.below k0
  replace g := g.trans (k0.mono g.size)
  clear hT k0
  cases r with
  | false =>
    have HP : Hid (¬ (RightP bx xn xd ∧ RightP cy yn yd)) := fun h => by have := hr.2 h; cases this
    clear hr
    have q0 := R.box.c0
    have q1 := R.box.c1
    have q2 := R.box.c2
    have p0 := R.box.f0
    have p1 := R.box.f1
    have p2 := R.box.f2
    go_wp2
    have hR3 := R.box.set (.bool false) (.slice none 0 0) (.slice none 0 0)
    have r0 := hR3.c0
    have r1 := hR3.c1
    have r2 := hR3.c2
    refine bodyPost_ret (v := .tuple #[.agg #[.bool false, .slice none 0 0, .slice none 0 0], .int .i64 22]) (by simp [results, Tryz.results47, go_sem, r0, r1, r2]) rfl ?_
    exact ⟨Below.set3 g s1 _ _ _, false, none, 0, 0, none, 0, 0, 22, rfl, Or.inl ⟨HP.out, rfl, rfl, rfl, rfl, rfl, rfl, rfl, rfl⟩⟩
  | true =>
    have HP : Hid (RightP bx xn xd ∧ RightP cy yn yd) := hr.1 rfl
    clear hr
    obtain ⟨Y0, Y1, Y2⟩ := Y.cells
    go_wp2_with fail
    clear Y0 Y1 Y2
    refine (isOne_any Y.rd).mono ?_
    rintro e w1 ⟨rfl, rfl⟩
    by_cases hone : yd = [1]
    · have HO : Hid (yd = [1]) := hone
      rw [decide_eq_true hone]
      clear hone
      by_cases hy0 : 0 < yn.length
      · have hyb : ((yn.length : Int) == 0) = false := by rw [beq_eq_false_iff_ne]; omega
        by_cases hxz : xn.length = 0 ∧ cy = true
        · obtain ⟨hx0, rfl⟩ := hxz
          have hxb : ((xn.length : Int) == 0) = true := by rw [hx0]; rfl
          have Hx : Hid (xn.length = 0) := hx0
          clear hx0
          obtain ⟨X0, X1, X2⟩ := X.cells
          obtain ⟨Y0, Y1, Y2⟩ := Y.cells
          have q0 := R.box.c0
          have q1 := R.box.c1
          have q2 := R.box.c2
          have p0 := R.box.f0
          have p1 := R.box.f1
          have p2 := R.box.f2
          go_wp2
          have hR3 := R.box.set (.bool false) (.slice none 0 0) (.slice none 0 0)
          have r0 := hR3.c0
          have r1 := hR3.c1
          have r2 := hR3.c2
          refine bodyPost_ret (v := .tuple #[.agg #[.bool false, .slice none 0 0, .slice none 0 0], .int .i64 3]) (by simp [results, Tryz.results47, go_sem, r0, r1, r2]) rfl ?_
          exact ⟨Below.set3 g s1 _ _ _, false, none, 0, 0, none, 0, 0, 3, rfl, Or.inr (Or.inl ⟨HP.out, Or.inr ⟨HO.out, hy0, Hx.out, rfl⟩, rfl, rfl, rfl, rfl, rfl, rfl, rfl, rfl⟩)⟩
        · have HXZ : Hid (¬ (xn.length = 0 ∧ cy = true)) := hxz
          have hcs : (cy = true ∧ ((xn.length : Int) == 0) = false) ∨ (cy = false ∧ ((xn.length : Int) == 0) = false) ∨ (cy = false ∧ ((xn.length : Int) == 0) = true) := by
            cases cy with
            | false =>
              cases hh : ((xn.length : Int) == 0) with
              | false => exact Or.inr (Or.inl ⟨rfl, rfl⟩)
              | true => exact Or.inr (Or.inr ⟨rfl, rfl⟩)
            | true => refine Or.inl ⟨rfl, ?_⟩; rw [beq_eq_false_iff_ne]; intro h; exact hxz ⟨rfl.mp (by omega), rfl⟩
          have HXZ2 : Hid (¬ (0 < yn.length ∧ xn.length = 0 ∧ cy = true)) := fun h => hxz h.2
          clear hxz
          have HYv : Hid (0 < val yn) := by
            have h5 := can_low HP.out.2.2.2.1 hy0
            have h6 := pw_pos (yn.length - 1)
            unfold Hid
            omega
          have l1 := HP.out.1.1
          have l2 := HP.out.1.2.1
          have l3 := HP.out.2.1
          obtain ⟨pb, po, rfl, hyc, hym⟩ := rd_head Y.rn hy0
          have ho := val_odd HP.out.2.2.2.1.1
          have hw1 := and_one_u32 (yn.getD 0 0) ho.2.1 ho.2.2
          have HOd : Hid ((yn.getD 0 0 % 2 == 1) = decide ((val yn).toNat % 2 = 1)) := by
            unfold Hid
            have h5 := HYv.out
            by_cases h6 : yn.getD 0 0 % 2 = 1
            · rw [beq_iff_eq.2 h6, decide_eq_true (by omega)]
            · rw [beq_eq_false_iff_ne.2 h6, decide_eq_false (by omega)]
          clear ho
          generalize hy00 : yn.getD 0 0 = y00 at *
          rcases hcs with ⟨rfl, hxb⟩ | ⟨rfl, hxb⟩ | ⟨rfl, hxb⟩
          · have HN : Hid (pnum true xn xd = val xd ∧ pden true xn xd = val xn ∧ 0 ≤ val xd ∧ 0 < val xn ∧ gI (val xd) (val xn) = 1) := by
              have hx0 : 0 < xn.length := by
                rw [beq_eq_false_iff_ne] at hxb
                omega
              have h5 := can_low HP.out.1.2.2.1 hx0
              have h6 := pw_pos (xn.length - 1)
              exact ⟨rfl, rfl, Int.le_of_lt (right_pos HP.out.1).1, by omega, by rw [gI_comm]; exact HP.out.1.2.2.2.2.2.2⟩
            obtain ⟨X0, X1, X2⟩ := X.cells
            obtain ⟨Y0, Y1, Y2⟩ := Y.cells
            go_wp2
            go_quiet (fail)
            go_wp2_with fail
            clear X0 X1 X2 Y0 Y1 Y2
            have kq := below_drewN' (Below.refl w0.heap.size w0) nq
            replace X := X.below kq
            replace Y := Y.below kq
            replace R := R.below kq
            replace g := g.trans (kq.mono g.size)
            generalize hA : w0.drewN nq = v1 at *
            clear hA kq
            have g1 := g
            have R1 := R
            refine (powerOf_any X.rd Y.rn (Nat.le_refl _) HP.out.1.2.2.2.1 (by omega) (by omega) HYv.out).mono ?_
            rintro e w2 ⟨k2, ⟨hbig, rfl⟩ | ⟨hfit, zs, z1, z2, cz, vz, rfl, oz⟩⟩
            · replace X := X.below k2
              replace Y := Y.below k2
              replace R := R.below k2
              replace g := g.trans (k2.mono g.size)
              have HB : Hid (pw 32 ≤ pnum true xn xd ^ (val yn).toNat) := by unfold Hid; rw [HN.out.1]; exact hbig
              clear hbig
              have q0 := R.box.c0
              have q1 := R.box.c1
              have q2 := R.box.c2
              have p0 := R.box.f0
              have p1 := R.box.f1
              have p2 := R.box.f2
              go_wp2
              have hR3 := R.box.set (.bool false) (.slice none 0 0) (.slice none 0 0)
              have r0 := hR3.c0
              have r1 := hR3.c1
              have r2 := hR3.c2
              refine bodyPost_ret (v := .tuple #[.agg #[.bool false, .slice none 0 0, .slice none 0 0], .int .i64 8]) (by simp [results, Tryz.results47, go_sem, r0, r1, r2]) rfl ?_
              exact ⟨Below.set3 g s1 _ _ _, false, none, 0, 0, none, 0, 0, 8, rfl, Or.inr (Or.inr (Or.inl ⟨HP.out, HO.out, hy0, (by first | exact HXZ.out | (have h5 := HXZ.out; simpa using h5)), rfl, rfl, rfl, rfl, rfl, rfl, rfl, rfl, Or.inl HB.out⟩))⟩
            · replace X := X.below k2
              replace Y := Y.below k2
              replace R := R.below k2
              replace g := g.trans (k2.mono g.size)
              have HZ : Hid (val zs = val xd ^ (val yn).toNat ∧ val xd ^ (val yn).toNat < pw 32) := ⟨vz, hfit⟩
              clear vz hfit
              obtain ⟨Y0, Y1, Y2⟩ := Y.cells
              go_wp2_with fail
              clear Y0 Y1 Y2
              refine (powerOf_any X.rn Y.rn (Nat.le_refl _) HP.out.1.2.2.1 (by omega) (by omega) HYv.out).mono ?_
              rintro e w3 ⟨k3, ⟨hbig, rfl⟩ | ⟨hfit, us, u1, u2, cu, vu, rfl, ou⟩⟩
              · replace X := X.below k3
                replace Y := Y.below k3
                replace R := R.below k3
                replace g := g.trans (k3.mono g.size)
                have HB : Hid (pw 32 ≤ pden true xn xd ^ (val yn).toNat) := by unfold Hid; rw [HN.out.2.1]; exact hbig
                clear hbig
                have q0 := R.box.c0
                have q1 := R.box.c1
                have q2 := R.box.c2
                have p0 := R.box.f0
                have p1 := R.box.f1
                have p2 := R.box.f2
                go_wp2
                have hR3 := R.box.set (.bool false) (.slice none 0 0) (.slice none 0 0)
                have r0 := hR3.c0
                have r1 := hR3.c1
                have r2 := hR3.c2
                refine bodyPost_ret (v := .tuple #[.agg #[.bool false, .slice none 0 0, .slice none 0 0], .int .i64 8]) (by simp [results, Tryz.results47, go_sem, r0, r1, r2]) rfl ?_
                exact ⟨Below.set3 g s1 _ _ _, false, none, 0, 0, none, 0, 0, 8, rfl, Or.inr (Or.inr (Or.inl ⟨HP.out, HO.out, hy0, (by first | exact HXZ.out | (have h5 := HXZ.out; simpa using h5)), rfl, rfl, rfl, rfl, rfl, rfl, rfl, rfl, Or.inr HB.out⟩))⟩
              · replace X := X.below k3
                replace Y := Y.below k3
                replace R := R.below k3
                replace g := g.trans (k3.mono g.size)
                have HU : Hid (val us = val xn ^ (val yn).toNat ∧ val xn ^ (val yn).toNat < pw 32) := ⟨vu, hfit⟩
                clear vu hfit
                have HR := fun b : Bool => pow_right (b := b) (A := val xd) (D := val xn) (N := (val yn).toNat) cz cu HZ.out.1 HU.out.1 HN.out.2.2.1 HN.out.2.2.2.1 HN.out.2.2.2.2 HZ.out.2 HU.out.2
                have lz := (HR true).2.1
                have lu := (HR true).2.2.1
                have HR2 : Hid (∀ b : Bool, RightP (b && decide (0 < zs.length)) zs us ∧ sg (b && decide (0 < zs.length)) (val zs) = sg b (val xd ^ (val yn).toNat)) := fun b => ⟨(HR b).1, (HR b).2.2.2⟩
                clear HR
                have t3 : Below v1.heap.size v1 w3 := k2.trans (k3.mono k2.size)
                have hc0 := rd_cell0 Y.rn hy0
                rw [hy00] at hc0
                have ozz := oz.below k3 (Nat.le_refl _)
                have ouu : Own v1.heap.size w3 (.slice u1 us.length u2) us := ou.mono k2.size
                by_cases hodd : y00 % 2 = 1
                · have hob : (y00 % 2 == 1) = true := by rw [beq_iff_eq]; exact hodd
                  have HOd2 : Hid (decide ((val yn).toNat % 2 = 1) = true) := by unfold Hid; rw [← HOd.out]; exact hob
                  cases bx with
                  | false =>
                    obtain ⟨X0, X1, X2⟩ := X.cells
                    obtain ⟨Y0, Y1, Y2⟩ := Y.cells
                    go_wp2_with fail
                    clear X0 X1 X2 Y0 Y1 Y2
                    refine (limited_ok false z1 u1 zs.length z2 us.length u2 _ lz lu).mono ?_
                    rintro e w4 ⟨rfl, k4⟩
                    have HR3 := HR2.out false
                    have HS : Hid (RightP (false && decide (0 < zs.length)) zs us ∧ sg (false && decide (0 < zs.length)) (val zs) = sg false (pnum true xn xd) ^ (val yn).toNat) := ⟨HR3.1, by rw [HR3.2, HN.out.1, sg_pow, HOd2.out]; rfl⟩
                    clear HR3
                    replace X := X.below k4
                    replace Y := Y.below k4
                    replace R := R.below k4
                    replace g := g.trans (k4.mono g.size)
                    have hbb : (false && decide (0 < zs.length)) = false := by rfl
                    rw [hbb] at HS
                    clear hbb
                    have q0 := R.box.c0
                    have q1 := R.box.c1
                    have q2 := R.box.c2
                    have p0 := R.box.f0
                    have p1 := R.box.f1
                    have p2 := R.box.f2
                    go_wp2
                    have hR3 := R.box.set (.bool false) (.slice z1 zs.length z2) (.slice u1 us.length u2)
                    have r0 := hR3.c0
                    have r1 := hR3.c1
                    have r2 := hR3.c2
                    refine bodyPost_ret (v := .tuple #[.agg #[.bool false, .slice z1 zs.length z2, .slice u1 us.length u2], .int .i64 0]) (by simp [results, Tryz.results47, go_sem, r0, r1, r2]) rfl ?_
                    exact ⟨Below.set3 g s1 _ _ _, false, z1, zs.length, z2, u1, us.length, u2, 0, rfl, Or.inr (Or.inr (Or.inr ⟨HP.out, HO.out, (by first | exact HXZ2.out | (have h5 := HXZ2.out; simpa using h5)), rfl, by rw [HN.out.1]; exact HZ.out.2, by rw [HN.out.2.1]; exact HU.out.2, zs, us, rfl, rfl, (Own.set3 (ozz.below k4 (Nat.le_refl _)) R1.lt _ _ _).mono g1.size, (Own.set3 (ouu.below k4 (Nat.le_refl _)) R1.lt _ _ _).mono g1.size, HS.out.1, HS.out.2, by rw [HN.out.2.1]; exact HU.out.1⟩))⟩
                  | true =>
                    obtain ⟨X0, X1, X2⟩ := X.cells
                    obtain ⟨Y0, Y1, Y2⟩ := Y.cells
                    go_wp2_with fail
                    clear X0 X1 X2 Y0 Y1 Y2
                    refine (limited_ok true z1 u1 zs.length z2 us.length u2 _ lz lu).mono ?_
                    rintro e w4 ⟨rfl, k4⟩
                    have HR3 := HR2.out true
                    have HS : Hid (RightP (true && decide (0 < zs.length)) zs us ∧ sg (true && decide (0 < zs.length)) (val zs) = sg true (pnum true xn xd) ^ (val yn).toNat) := ⟨HR3.1, by rw [HR3.2, HN.out.1, sg_pow, HOd2.out]; rfl⟩
                    clear HR3
                    replace X := X.below k4
                    replace Y := Y.below k4
                    replace R := R.below k4
                    replace g := g.trans (k4.mono g.size)
                    have hbb : (true && decide (0 < zs.length)) = decide (0 < zs.length) := by rw [Bool.true_and]
                    rw [hbb] at HS
                    clear hbb
                    generalize decide (0 < zs.length) = bz at *
                    have q0 := R.box.c0
                    have q1 := R.box.c1
                    have q2 := R.box.c2
                    have p0 := R.box.f0
                    have p1 := R.box.f1
                    have p2 := R.box.f2
                    go_wp2
                    have hR3 := R.box.set (.bool bz) (.slice z1 zs.length z2) (.slice u1 us.length u2)
                    have r0 := hR3.c0
                    have r1 := hR3.c1
                    have r2 := hR3.c2
                    refine bodyPost_ret (v := .tuple #[.agg #[.bool bz, .slice z1 zs.length z2, .slice u1 us.length u2], .int .i64 0]) (by simp [results, Tryz.results47, go_sem, r0, r1, r2]) rfl ?_
                    exact ⟨Below.set3 g s1 _ _ _, bz, z1, zs.length, z2, u1, us.length, u2, 0, rfl, Or.inr (Or.inr (Or.inr ⟨HP.out, HO.out, (by first | exact HXZ2.out | (have h5 := HXZ2.out; simpa using h5)), rfl, by rw [HN.out.1]; exact HZ.out.2, by rw [HN.out.2.1]; exact HU.out.2, zs, us, rfl, rfl, (Own.set3 (ozz.below k4 (Nat.le_refl _)) R1.lt _ _ _).mono g1.size, (Own.set3 (ouu.below k4 (Nat.le_refl _)) R1.lt _ _ _).mono g1.size, HS.out.1, HS.out.2, by rw [HN.out.2.1]; exact HU.out.1⟩))⟩
                · have hob : (y00 % 2 == 1) = false := by rw [beq_eq_false_iff_ne]; exact hodd
                  have HOd2 : Hid (decide ((val yn).toNat % 2 = 1) = false) := by unfold Hid; rw [← HOd.out]; exact hob
                  cases bx with
                  | false =>
                    obtain ⟨X0, X1, X2⟩ := X.cells
                    obtain ⟨Y0, Y1, Y2⟩ := Y.cells
                    go_wp2_with fail
                    clear X0 X1 X2 Y0 Y1 Y2
                    refine (limited_ok false z1 u1 zs.length z2 us.length u2 _ lz lu).mono ?_
                    rintro e w4 ⟨rfl, k4⟩
                    have HR3 := HR2.out false
                    have HS : Hid (RightP (false && decide (0 < zs.length)) zs us ∧ sg (false && decide (0 < zs.length)) (val zs) = sg false (pnum true xn xd) ^ (val yn).toNat) := ⟨HR3.1, by rw [HR3.2, HN.out.1, sg_pow, HOd2.out]; rfl⟩
                    clear HR3
                    replace X := X.below k4
                    replace Y := Y.below k4
                    replace R := R.below k4
                    replace g := g.trans (k4.mono g.size)
                    have hbb : (false && decide (0 < zs.length)) = false := by rfl
                    rw [hbb] at HS
                    clear hbb
                    have q0 := R.box.c0
                    have q1 := R.box.c1
                    have q2 := R.box.c2
                    have p0 := R.box.f0
                    have p1 := R.box.f1
                    have p2 := R.box.f2
                    go_wp2
                    have hR3 := R.box.set (.bool false) (.slice z1 zs.length z2) (.slice u1 us.length u2)
                    have r0 := hR3.c0
                    have r1 := hR3.c1
                    have r2 := hR3.c2
                    refine bodyPost_ret (v := .tuple #[.agg #[.bool false, .slice z1 zs.length z2, .slice u1 us.length u2], .int .i64 0]) (by simp [results, Tryz.results47, go_sem, r0, r1, r2]) rfl ?_
                    exact ⟨Below.set3 g s1 _ _ _, false, z1, zs.length, z2, u1, us.length, u2, 0, rfl, Or.inr (Or.inr (Or.inr ⟨HP.out, HO.out, (by first | exact HXZ2.out | (have h5 := HXZ2.out; simpa using h5)), rfl, by rw [HN.out.1]; exact HZ.out.2, by rw [HN.out.2.1]; exact HU.out.2, zs, us, rfl, rfl, (Own.set3 (ozz.below k4 (Nat.le_refl _)) R1.lt _ _ _).mono g1.size, (Own.set3 (ouu.below k4 (Nat.le_refl _)) R1.lt _ _ _).mono g1.size, HS.out.1, HS.out.2, by rw [HN.out.2.1]; exact HU.out.1⟩))⟩
                  | true =>
                    obtain ⟨X0, X1, X2⟩ := X.cells
                    obtain ⟨Y0, Y1, Y2⟩ := Y.cells
                    go_wp2_with fail
                    clear X0 X1 X2 Y0 Y1 Y2
                    refine (limited_ok false z1 u1 zs.length z2 us.length u2 _ lz lu).mono ?_
                    rintro e w4 ⟨rfl, k4⟩
                    have HR3 := HR2.out false
                    have HS : Hid (RightP (false && decide (0 < zs.length)) zs us ∧ sg (false && decide (0 < zs.length)) (val zs) = sg true (pnum true xn xd) ^ (val yn).toNat) := ⟨HR3.1, by rw [HR3.2, HN.out.1, sg_pow, HOd2.out]; rfl⟩
                    clear HR3
                    replace X := X.below k4
                    replace Y := Y.below k4
                    replace R := R.below k4
                    replace g := g.trans (k4.mono g.size)
                    have hbb : (false && decide (0 < zs.length)) = false := by rfl
                    rw [hbb] at HS
                    clear hbb
                    have q0 := R.box.c0
                    have q1 := R.box.c1
                    have q2 := R.box.c2
                    have p0 := R.box.f0
                    have p1 := R.box.f1
                    have p2 := R.box.f2
                    go_wp2
                    have hR3 := R.box.set (.bool false) (.slice z1 zs.length z2) (.slice u1 us.length u2)
                    have r0 := hR3.c0
                    have r1 := hR3.c1
                    have r2 := hR3.c2
                    refine bodyPost_ret (v := .tuple #[.agg #[.bool false, .slice z1 zs.length z2, .slice u1 us.length u2], .int .i64 0]) (by simp [results, Tryz.results47, go_sem, r0, r1, r2]) rfl ?_
                    exact ⟨Below.set3 g s1 _ _ _, false, z1, zs.length, z2, u1, us.length, u2, 0, rfl, Or.inr (Or.inr (Or.inr ⟨HP.out, HO.out, (by first | exact HXZ2.out | (have h5 := HXZ2.out; simpa using h5)), rfl, by rw [HN.out.1]; exact HZ.out.2, by rw [HN.out.2.1]; exact HU.out.2, zs, us, rfl, rfl, (Own.set3 (ozz.below k4 (Nat.le_refl _)) R1.lt _ _ _).mono g1.size, (Own.set3 (ouu.below k4 (Nat.le_refl _)) R1.lt _ _ _).mono g1.size, HS.out.1, HS.out.2, by rw [HN.out.2.1]; exact HU.out.1⟩))⟩
          · have HN : Hid (pnum false xn xd = val xn ∧ pden false xn xd = val xd ∧ 0 ≤ val xn ∧ 0 < val xd ∧ gI (val xn) (val xd) = 1) := by
              exact ⟨rfl, rfl, (right_pos HP.out.1).2, (right_pos HP.out.1).1, HP.out.1.2.2.2.2.2.2⟩
            obtain ⟨X0, X1, X2⟩ := X.cells
            obtain ⟨Y0, Y1, Y2⟩ := Y.cells
            go_wp2
            go_quiet (fail)
            go_wp2_with fail
            clear X0 X1 X2 Y0 Y1 Y2
            have kq := below_drewN' (Below.refl w0.heap.size w0) nq
            replace X := X.below kq
            replace Y := Y.below kq
            replace R := R.below kq
            replace g := g.trans (kq.mono g.size)
            generalize hA : w0.drewN nq = v1 at *
            clear hA kq
            have g1 := g
            have R1 := R
            refine (powerOf_any X.rn Y.rn (Nat.le_refl _) HP.out.1.2.2.1 (by omega) (by omega) HYv.out).mono ?_
            rintro e w2 ⟨k2, ⟨hbig, rfl⟩ | ⟨hfit, zs, z1, z2, cz, vz, rfl, oz⟩⟩
            · replace X := X.below k2
              replace Y := Y.below k2
              replace R := R.below k2
              replace g := g.trans (k2.mono g.size)
              have HB : Hid (pw 32 ≤ pnum false xn xd ^ (val yn).toNat) := by unfold Hid; rw [HN.out.1]; exact hbig
              clear hbig
              have q0 := R.box.c0
              have q1 := R.box.c1
              have q2 := R.box.c2
              have p0 := R.box.f0
              have p1 := R.box.f1
              have p2 := R.box.f2
              go_wp2
              have hR3 := R.box.set (.bool false) (.slice none 0 0) (.slice none 0 0)
              have r0 := hR3.c0
              have r1 := hR3.c1
              have r2 := hR3.c2
              refine bodyPost_ret (v := .tuple #[.agg #[.bool false, .slice none 0 0, .slice none 0 0], .int .i64 8]) (by simp [results, Tryz.results47, go_sem, r0, r1, r2]) rfl ?_
              exact ⟨Below.set3 g s1 _ _ _, false, none, 0, 0, none, 0, 0, 8, rfl, Or.inr (Or.inr (Or.inl ⟨HP.out, HO.out, hy0, (by first | exact HXZ.out | (have h5 := HXZ.out; simpa using h5)), rfl, rfl, rfl, rfl, rfl, rfl, rfl, rfl, Or.inl HB.out⟩))⟩
            · replace X := X.below k2
              replace Y := Y.below k2
              replace R := R.below k2
              replace g := g.trans (k2.mono g.size)
              have HZ : Hid (val zs = val xn ^ (val yn).toNat ∧ val xn ^ (val yn).toNat < pw 32) := ⟨vz, hfit⟩
              clear vz hfit
              obtain ⟨Y0, Y1, Y2⟩ := Y.cells
              go_wp2_with fail
              clear Y0 Y1 Y2
              refine (powerOf_any X.rd Y.rn (Nat.le_refl _) HP.out.1.2.2.2.1 (by omega) (by omega) HYv.out).mono ?_
              rintro e w3 ⟨k3, ⟨hbig, rfl⟩ | ⟨hfit, us, u1, u2, cu, vu, rfl, ou⟩⟩
              · replace X := X.below k3
                replace Y := Y.below k3
                replace R := R.below k3
                replace g := g.trans (k3.mono g.size)
                have HB : Hid (pw 32 ≤ pden false xn xd ^ (val yn).toNat) := by unfold Hid; rw [HN.out.2.1]; exact hbig
                clear hbig
                have q0 := R.box.c0
                have q1 := R.box.c1
                have q2 := R.box.c2
                have p0 := R.box.f0
                have p1 := R.box.f1
                have p2 := R.box.f2
                go_wp2
                have hR3 := R.box.set (.bool false) (.slice none 0 0) (.slice none 0 0)
                have r0 := hR3.c0
                have r1 := hR3.c1
                have r2 := hR3.c2
                refine bodyPost_ret (v := .tuple #[.agg #[.bool false, .slice none 0 0, .slice none 0 0], .int .i64 8]) (by simp [results, Tryz.results47, go_sem, r0, r1, r2]) rfl ?_
                exact ⟨Below.set3 g s1 _ _ _, false, none, 0, 0, none, 0, 0, 8, rfl, Or.inr (Or.inr (Or.inl ⟨HP.out, HO.out, hy0, (by first | exact HXZ.out | (have h5 := HXZ.out; simpa using h5)), rfl, rfl, rfl, rfl, rfl, rfl, rfl, rfl, Or.inr HB.out⟩))⟩
              · replace X := X.below k3
                replace Y := Y.below k3
                replace R := R.below k3
                replace g := g.trans (k3.mono g.size)
                have HU : Hid (val us = val xd ^ (val yn).toNat ∧ val xd ^ (val yn).toNat < pw 32) := ⟨vu, hfit⟩
                clear vu hfit
                have HR := fun b : Bool => pow_right (b := b) (A := val xn) (D := val xd) (N := (val yn).toNat) cz cu HZ.out.1 HU.out.1 HN.out.2.2.1 HN.out.2.2.2.1 HN.out.2.2.2.2 HZ.out.2 HU.out.2
                have lz := (HR true).2.1
                have lu := (HR true).2.2.1
                have HR2 : Hid (∀ b : Bool, RightP (b && decide (0 < zs.length)) zs us ∧ sg (b && decide (0 < zs.length)) (val zs) = sg b (val xn ^ (val yn).toNat)) := fun b => ⟨(HR b).1, (HR b).2.2.2⟩
                clear HR
                have t3 : Below v1.heap.size v1 w3 := k2.trans (k3.mono k2.size)
                have hc0 := rd_cell0 Y.rn hy0
                rw [hy00] at hc0
                have ozz := oz.below k3 (Nat.le_refl _)
                have ouu : Own v1.heap.size w3 (.slice u1 us.length u2) us := ou.mono k2.size
                by_cases hodd : y00 % 2 = 1
                · have hob : (y00 % 2 == 1) = true := by rw [beq_iff_eq]; exact hodd
                  have HOd2 : Hid (decide ((val yn).toNat % 2 = 1) = true) := by unfold Hid; rw [← HOd.out]; exact hob
                  cases bx with
                  | false =>
                    obtain ⟨X0, X1, X2⟩ := X.cells
                    obtain ⟨Y0, Y1, Y2⟩ := Y.cells
                    go_wp2_with fail
                    clear X0 X1 X2 Y0 Y1 Y2
                    refine (limited_ok false z1 u1 zs.length z2 us.length u2 _ lz lu).mono ?_
                    rintro e w4 ⟨rfl, k4⟩
                    have HR3 := HR2.out false
                    have HS : Hid (RightP (false && decide (0 < zs.length)) zs us ∧ sg (false && decide (0 < zs.length)) (val zs) = sg false (pnum false xn xd) ^ (val yn).toNat) := ⟨HR3.1, by rw [HR3.2, HN.out.1, sg_pow, HOd2.out]; rfl⟩
                    clear HR3
                    replace X := X.below k4
                    replace Y := Y.below k4
                    replace R := R.below k4
                    replace g := g.trans (k4.mono g.size)
                    have hbb : (false && decide (0 < zs.length)) = false := by rfl
                    rw [hbb] at HS
                    clear hbb
                    have q0 := R.box.c0
                    have q1 := R.box.c1
                    have q2 := R.box.c2
                    have p0 := R.box.f0
                    have p1 := R.box.f1
                    have p2 := R.box.f2
                    go_wp2
                    have hR3 := R.box.set (.bool false) (.slice z1 zs.length z2) (.slice u1 us.length u2)
                    have r0 := hR3.c0
                    have r1 := hR3.c1
                    have r2 := hR3.c2
                    refine bodyPost_ret (v := .tuple #[.agg #[.bool false, .slice z1 zs.length z2, .slice u1 us.length u2], .int .i64 0]) (by simp [results, Tryz.results47, go_sem, r0, r1, r2]) rfl ?_
                    exact ⟨Below.set3 g s1 _ _ _, false, z1, zs.length, z2, u1, us.length, u2, 0, rfl, Or.inr (Or.inr (Or.inr ⟨HP.out, HO.out, (by first | exact HXZ2.out | (have h5 := HXZ2.out; simpa using h5)), rfl, by rw [HN.out.1]; exact HZ.out.2, by rw [HN.out.2.1]; exact HU.out.2, zs, us, rfl, rfl, (Own.set3 (ozz.below k4 (Nat.le_refl _)) R1.lt _ _ _).mono g1.size, (Own.set3 (ouu.below k4 (Nat.le_refl _)) R1.lt _ _ _).mono g1.size, HS.out.1, HS.out.2, by rw [HN.out.2.1]; exact HU.out.1⟩))⟩
                  | true =>
                    obtain ⟨X0, X1, X2⟩ := X.cells
                    obtain ⟨Y0, Y1, Y2⟩ := Y.cells
                    go_wp2_with fail
                    clear X0 X1 X2 Y0 Y1 Y2
                    refine (limited_ok true z1 u1 zs.length z2 us.length u2 _ lz lu).mono ?_
                    rintro e w4 ⟨rfl, k4⟩
                    have HR3 := HR2.out true
                    have HS : Hid (RightP (true && decide (0 < zs.length)) zs us ∧ sg (true && decide (0 < zs.length)) (val zs) = sg true (pnum false xn xd) ^ (val yn).toNat) := ⟨HR3.1, by rw [HR3.2, HN.out.1, sg_pow, HOd2.out]; rfl⟩
                    clear HR3
                    replace X := X.below k4
                    replace Y := Y.below k4
                    replace R := R.below k4
                    replace g := g.trans (k4.mono g.size)
                    have hbb : (true && decide (0 < zs.length)) = decide (0 < zs.length) := by rw [Bool.true_and]
                    rw [hbb] at HS
                    clear hbb
                    generalize decide (0 < zs.length) = bz at *
                    have q0 := R.box.c0
                    have q1 := R.box.c1
                    have q2 := R.box.c2
                    have p0 := R.box.f0
                    have p1 := R.box.f1
                    have p2 := R.box.f2
                    go_wp2
                    have hR3 := R.box.set (.bool bz) (.slice z1 zs.length z2) (.slice u1 us.length u2)
                    have r0 := hR3.c0
                    have r1 := hR3.c1
                    have r2 := hR3.c2
                    refine bodyPost_ret (v := .tuple #[.agg #[.bool bz, .slice z1 zs.length z2, .slice u1 us.length u2], .int .i64 0]) (by simp [results, Tryz.results47, go_sem, r0, r1, r2]) rfl ?_
                    exact ⟨Below.set3 g s1 _ _ _, bz, z1, zs.length, z2, u1, us.length, u2, 0, rfl, Or.inr (Or.inr (Or.inr ⟨HP.out, HO.out, (by first | exact HXZ2.out | (have h5 := HXZ2.out; simpa using h5)), rfl, by rw [HN.out.1]; exact HZ.out.2, by rw [HN.out.2.1]; exact HU.out.2, zs, us, rfl, rfl, (Own.set3 (ozz.below k4 (Nat.le_refl _)) R1.lt _ _ _).mono g1.size, (Own.set3 (ouu.below k4 (Nat.le_refl _)) R1.lt _ _ _).mono g1.size, HS.out.1, HS.out.2, by rw [HN.out.2.1]; exact HU.out.1⟩))⟩
                · have hob : (y00 % 2 == 1) = false := by rw [beq_eq_false_iff_ne]; exact hodd
                  have HOd2 : Hid (decide ((val yn).toNat % 2 = 1) = false) := by unfold Hid; rw [← HOd.out]; exact hob
                  cases bx with
                  | false =>
                    obtain ⟨X0, X1, X2⟩ := X.cells
                    obtain ⟨Y0, Y1, Y2⟩ := Y.cells
                    go_wp2_with fail
                    clear X0 X1 X2 Y0 Y1 Y2
                    refine (limited_ok false z1 u1 zs.length z2 us.length u2 _ lz lu).mono ?_
                    rintro e w4 ⟨rfl, k4⟩
                    have HR3 := HR2.out false
                    have HS : Hid (RightP (false && decide (0 < zs.length)) zs us ∧ sg (false && decide (0 < zs.length)) (val zs) = sg false (pnum false xn xd) ^ (val yn).toNat) := ⟨HR3.1, by rw [HR3.2, HN.out.1, sg_pow, HOd2.out]; rfl⟩
                    clear HR3
                    replace X := X.below k4
                    replace Y := Y.below k4
                    replace R := R.below k4
                    replace g := g.trans (k4.mono g.size)
                    have hbb : (false && decide (0 < zs.length)) = false := by rfl
                    rw [hbb] at HS
                    clear hbb
                    have q0 := R.box.c0
                    have q1 := R.box.c1
                    have q2 := R.box.c2
                    have p0 := R.box.f0
                    have p1 := R.box.f1
                    have p2 := R.box.f2
                    go_wp2
                    have hR3 := R.box.set (.bool false) (.slice z1 zs.length z2) (.slice u1 us.length u2)
                    have r0 := hR3.c0
                    have r1 := hR3.c1
                    have r2 := hR3.c2
                    refine bodyPost_ret (v := .tuple #[.agg #[.bool false, .slice z1 zs.length z2, .slice u1 us.length u2], .int .i64 0]) (by simp [results, Tryz.results47, go_sem, r0, r1, r2]) rfl ?_
                    exact ⟨Below.set3 g s1 _ _ _, false, z1, zs.length, z2, u1, us.length, u2, 0, rfl, Or.inr (Or.inr (Or.inr ⟨HP.out, HO.out, (by first | exact HXZ2.out | (have h5 := HXZ2.out; simpa using h5)), rfl, by rw [HN.out.1]; exact HZ.out.2, by rw [HN.out.2.1]; exact HU.out.2, zs, us, rfl, rfl, (Own.set3 (ozz.below k4 (Nat.le_refl _)) R1.lt _ _ _).mono g1.size, (Own.set3 (ouu.below k4 (Nat.le_refl _)) R1.lt _ _ _).mono g1.size, HS.out.1, HS.out.2, by rw [HN.out.2.1]; exact HU.out.1⟩))⟩
                  | true =>
                    obtain ⟨X0, X1, X2⟩ := X.cells
                    obtain ⟨Y0, Y1, Y2⟩ := Y.cells
                    go_wp2_with fail
                    clear X0 X1 X2 Y0 Y1 Y2
                    refine (limited_ok false z1 u1 zs.length z2 us.length u2 _ lz lu).mono ?_
                    rintro e w4 ⟨rfl, k4⟩
                    have HR3 := HR2.out false
                    have HS : Hid (RightP (false && decide (0 < zs.length)) zs us ∧ sg (false && decide (0 < zs.length)) (val zs) = sg true (pnum false xn xd) ^ (val yn).toNat) := ⟨HR3.1, by rw [HR3.2, HN.out.1, sg_pow, HOd2.out]; rfl⟩
                    clear HR3
                    replace X := X.below k4
                    replace Y := Y.below k4
                    replace R := R.below k4
                    replace g := g.trans (k4.mono g.size)
                    have hbb : (false && decide (0 < zs.length)) = false := by rfl
                    rw [hbb] at HS
                    clear hbb
                    have q0 := R.box.c0
                    have q1 := R.box.c1
                    have q2 := R.box.c2
                    have p0 := R.box.f0
                    have p1 := R.box.f1
                    have p2 := R.box.f2
                    go_wp2
                    have hR3 := R.box.set (.bool false) (.slice z1 zs.length z2) (.slice u1 us.length u2)
                    have r0 := hR3.c0
                    have r1 := hR3.c1
                    have r2 := hR3.c2
                    refine bodyPost_ret (v := .tuple #[.agg #[.bool false, .slice z1 zs.length z2, .slice u1 us.length u2], .int .i64 0]) (by simp [results, Tryz.results47, go_sem, r0, r1, r2]) rfl ?_
                    exact ⟨Below.set3 g s1 _ _ _, false, z1, zs.length, z2, u1, us.length, u2, 0, rfl, Or.inr (Or.inr (Or.inr ⟨HP.out, HO.out, (by first | exact HXZ2.out | (have h5 := HXZ2.out; simpa using h5)), rfl, by rw [HN.out.1]; exact HZ.out.2, by rw [HN.out.2.1]; exact HU.out.2, zs, us, rfl, rfl, (Own.set3 (ozz.below k4 (Nat.le_refl _)) R1.lt _ _ _).mono g1.size, (Own.set3 (ouu.below k4 (Nat.le_refl _)) R1.lt _ _ _).mono g1.size, HS.out.1, HS.out.2, by rw [HN.out.2.1]; exact HU.out.1⟩))⟩
          · have HN : Hid (pnum false xn xd = val xn ∧ pden false xn xd = val xd ∧ 0 ≤ val xn ∧ 0 < val xd ∧ gI (val xn) (val xd) = 1) := by
              exact ⟨rfl, rfl, (right_pos HP.out.1).2, (right_pos HP.out.1).1, HP.out.1.2.2.2.2.2.2⟩
            obtain ⟨X0, X1, X2⟩ := X.cells
            obtain ⟨Y0, Y1, Y2⟩ := Y.cells
            go_wp2
            go_quiet (fail)
            go_wp2_with fail
            clear X0 X1 X2 Y0 Y1 Y2
            have kq := below_drewN' (Below.refl w0.heap.size w0) nq
            replace X := X.below kq
            replace Y := Y.below kq
            replace R := R.below kq
            replace g := g.trans (kq.mono g.size)
            generalize hA : w0.drewN nq = v1 at *
            clear hA kq
            have g1 := g
            have R1 := R
            refine (powerOf_any X.rn Y.rn (Nat.le_refl _) HP.out.1.2.2.1 (by omega) (by omega) HYv.out).mono ?_
            rintro e w2 ⟨k2, ⟨hbig, rfl⟩ | ⟨hfit, zs, z1, z2, cz, vz, rfl, oz⟩⟩
            · replace X := X.below k2
              replace Y := Y.below k2
              replace R := R.below k2
              replace g := g.trans (k2.mono g.size)
              have HB : Hid (pw 32 ≤ pnum false xn xd ^ (val yn).toNat) := by unfold Hid; rw [HN.out.1]; exact hbig
              clear hbig
              have q0 := R.box.c0
              have q1 := R.box.c1
              have q2 := R.box.c2
              have p0 := R.box.f0
              have p1 := R.box.f1
              have p2 := R.box.f2
              go_wp2
              have hR3 := R.box.set (.bool false) (.slice none 0 0) (.slice none 0 0)
              have r0 := hR3.c0
              have r1 := hR3.c1
              have r2 := hR3.c2
              refine bodyPost_ret (v := .tuple #[.agg #[.bool false, .slice none 0 0, .slice none 0 0], .int .i64 8]) (by simp [results, Tryz.results47, go_sem, r0, r1, r2]) rfl ?_
              exact ⟨Below.set3 g s1 _ _ _, false, none, 0, 0, none, 0, 0, 8, rfl, Or.inr (Or.inr (Or.inl ⟨HP.out, HO.out, hy0, (by first | exact HXZ.out | (have h5 := HXZ.out; simpa using h5)), rfl, rfl, rfl, rfl, rfl, rfl, rfl, rfl, Or.inl HB.out⟩))⟩
            · replace X := X.below k2
              replace Y := Y.below k2
              replace R := R.below k2
              replace g := g.trans (k2.mono g.size)
              have HZ : Hid (val zs = val xn ^ (val yn).toNat ∧ val xn ^ (val yn).toNat < pw 32) := ⟨vz, hfit⟩
              clear vz hfit
              obtain ⟨Y0, Y1, Y2⟩ := Y.cells
              go_wp2_with fail
              clear Y0 Y1 Y2
              refine (powerOf_any X.rd Y.rn (Nat.le_refl _) HP.out.1.2.2.2.1 (by omega) (by omega) HYv.out).mono ?_
              rintro e w3 ⟨k3, ⟨hbig, rfl⟩ | ⟨hfit, us, u1, u2, cu, vu, rfl, ou⟩⟩
              · replace X := X.below k3
                replace Y := Y.below k3
                replace R := R.below k3
                replace g := g.trans (k3.mono g.size)
                have HB : Hid (pw 32 ≤ pden false xn xd ^ (val yn).toNat) := by unfold Hid; rw [HN.out.2.1]; exact hbig
                clear hbig
                have q0 := R.box.c0
                have q1 := R.box.c1
                have q2 := R.box.c2
                have p0 := R.box.f0
                have p1 := R.box.f1
                have p2 := R.box.f2
                go_wp2
                have hR3 := R.box.set (.bool false) (.slice none 0 0) (.slice none 0 0)
                have r0 := hR3.c0
                have r1 := hR3.c1
                have r2 := hR3.c2
                refine bodyPost_ret (v := .tuple #[.agg #[.bool false, .slice none 0 0, .slice none 0 0], .int .i64 8]) (by simp [results, Tryz.results47, go_sem, r0, r1, r2]) rfl ?_
                exact ⟨Below.set3 g s1 _ _ _, false, none, 0, 0, none, 0, 0, 8, rfl, Or.inr (Or.inr (Or.inl ⟨HP.out, HO.out, hy0, (by first | exact HXZ.out | (have h5 := HXZ.out; simpa using h5)), rfl, rfl, rfl, rfl, rfl, rfl, rfl, rfl, Or.inr HB.out⟩))⟩
              · replace X := X.below k3
                replace Y := Y.below k3
                replace R := R.below k3
                replace g := g.trans (k3.mono g.size)
                have HU : Hid (val us = val xd ^ (val yn).toNat ∧ val xd ^ (val yn).toNat < pw 32) := ⟨vu, hfit⟩
                clear vu hfit
                have HR := fun b : Bool => pow_right (b := b) (A := val xn) (D := val xd) (N := (val yn).toNat) cz cu HZ.out.1 HU.out.1 HN.out.2.2.1 HN.out.2.2.2.1 HN.out.2.2.2.2 HZ.out.2 HU.out.2
                have lz := (HR true).2.1
                have lu := (HR true).2.2.1
                have HR2 : Hid (∀ b : Bool, RightP (b && decide (0 < zs.length)) zs us ∧ sg (b && decide (0 < zs.length)) (val zs) = sg b (val xn ^ (val yn).toNat)) := fun b => ⟨(HR b).1, (HR b).2.2.2⟩
                clear HR
                have t3 : Below v1.heap.size v1 w3 := k2.trans (k3.mono k2.size)
                have hc0 := rd_cell0 Y.rn hy0
                rw [hy00] at hc0
                have ozz := oz.below k3 (Nat.le_refl _)
                have ouu : Own v1.heap.size w3 (.slice u1 us.length u2) us := ou.mono k2.size
                by_cases hodd : y00 % 2 = 1
                · have hob : (y00 % 2 == 1) = true := by rw [beq_iff_eq]; exact hodd
                  have HOd2 : Hid (decide ((val yn).toNat % 2 = 1) = true) := by unfold Hid; rw [← HOd.out]; exact hob
                  cases bx with
                  | false =>
                    obtain ⟨X0, X1, X2⟩ := X.cells
                    obtain ⟨Y0, Y1, Y2⟩ := Y.cells
                    go_wp2_with fail
                    clear X0 X1 X2 Y0 Y1 Y2
                    refine (limited_ok false z1 u1 zs.length z2 us.length u2 _ lz lu).mono ?_
                    rintro e w4 ⟨rfl, k4⟩
                    have HR3 := HR2.out false
                    have HS : Hid (RightP (false && decide (0 < zs.length)) zs us ∧ sg (false && decide (0 < zs.length)) (val zs) = sg false (pnum false xn xd) ^ (val yn).toNat) := ⟨HR3.1, by rw [HR3.2, HN.out.1, sg_pow, HOd2.out]; rfl⟩
                    clear HR3
                    replace X := X.below k4
                    replace Y := Y.below k4
                    replace R := R.below k4
                    replace g := g.trans (k4.mono g.size)
                    have hbb : (false && decide (0 < zs.length)) = false := by rfl
                    rw [hbb] at HS
                    clear hbb
                    have q0 := R.box.c0
                    have q1 := R.box.c1
                    have q2 := R.box.c2
                    have p0 := R.box.f0
                    have p1 := R.box.f1
                    have p2 := R.box.f2
                    go_wp2
                    have hR3 := R.box.set (.bool false) (.slice z1 zs.length z2) (.slice u1 us.length u2)
                    have r0 := hR3.c0
                    have r1 := hR3.c1
                    have r2 := hR3.c2
                    refine bodyPost_ret (v := .tuple #[.agg #[.bool false, .slice z1 zs.length z2, .slice u1 us.length u2], .int .i64 0]) (by simp [results, Tryz.results47, go_sem, r0, r1, r2]) rfl ?_
                    exact ⟨Below.set3 g s1 _ _ _, false, z1, zs.length, z2, u1, us.length, u2, 0, rfl, Or.inr (Or.inr (Or.inr ⟨HP.out, HO.out, (by first | exact HXZ2.out | (have h5 := HXZ2.out; simpa using h5)), rfl, by rw [HN.out.1]; exact HZ.out.2, by rw [HN.out.2.1]; exact HU.out.2, zs, us, rfl, rfl, (Own.set3 (ozz.below k4 (Nat.le_refl _)) R1.lt _ _ _).mono g1.size, (Own.set3 (ouu.below k4 (Nat.le_refl _)) R1.lt _ _ _).mono g1.size, HS.out.1, HS.out.2, by rw [HN.out.2.1]; exact HU.out.1⟩))⟩
                  | true =>
                    obtain ⟨X0, X1, X2⟩ := X.cells
                    obtain ⟨Y0, Y1, Y2⟩ := Y.cells
                    go_wp2_with fail
                    clear X0 X1 X2 Y0 Y1 Y2
                    refine (limited_ok true z1 u1 zs.length z2 us.length u2 _ lz lu).mono ?_
                    rintro e w4 ⟨rfl, k4⟩
                    have HR3 := HR2.out true
                    have HS : Hid (RightP (true && decide (0 < zs.length)) zs us ∧ sg (true && decide (0 < zs.length)) (val zs) = sg true (pnum false xn xd) ^ (val yn).toNat) := ⟨HR3.1, by rw [HR3.2, HN.out.1, sg_pow, HOd2.out]; rfl⟩
                    clear HR3
                    replace X := X.below k4
                    replace Y := Y.below k4
                    replace R := R.below k4
                    replace g := g.trans (k4.mono g.size)
                    have hbb : (true && decide (0 < zs.length)) = decide (0 < zs.length) := by rw [Bool.true_and]
                    rw [hbb] at HS
                    clear hbb
                    generalize decide (0 < zs.length) = bz at *
                    have q0 := R.box.c0
                    have q1 := R.box.c1
                    have q2 := R.box.c2
                    have p0 := R.box.f0
                    have p1 := R.box.f1
                    have p2 := R.box.f2
                    go_wp2
                    have hR3 := R.box.set (.bool bz) (.slice z1 zs.length z2) (.slice u1 us.length u2)
                    have r0 := hR3.c0
                    have r1 := hR3.c1
                    have r2 := hR3.c2
                    refine bodyPost_ret (v := .tuple #[.agg #[.bool bz, .slice z1 zs.length z2, .slice u1 us.length u2], .int .i64 0]) (by simp [results, Tryz.results47, go_sem, r0, r1, r2]) rfl ?_
                    exact ⟨Below.set3 g s1 _ _ _, bz, z1, zs.length, z2, u1, us.length, u2, 0, rfl, Or.inr (Or.inr (Or.inr ⟨HP.out, HO.out, (by first | exact HXZ2.out | (have h5 := HXZ2.out; simpa using h5)), rfl, by rw [HN.out.1]; exact HZ.out.2, by rw [HN.out.2.1]; exact HU.out.2, zs, us, rfl, rfl, (Own.set3 (ozz.below k4 (Nat.le_refl _)) R1.lt _ _ _).mono g1.size, (Own.set3 (ouu.below k4 (Nat.le_refl _)) R1.lt _ _ _).mono g1.size, HS.out.1, HS.out.2, by rw [HN.out.2.1]; exact HU.out.1⟩))⟩
                · have hob : (y00 % 2 == 1) = false := by rw [beq_eq_false_iff_ne]; exact hodd
                  have HOd2 : Hid (decide ((val yn).toNat % 2 = 1) = false) := by unfold Hid; rw [← HOd.out]; exact hob
                  cases bx with
                  | false =>
                    obtain ⟨X0, X1, X2⟩ := X.cells
                    obtain ⟨Y0, Y1, Y2⟩ := Y.cells
                    go_wp2_with fail
                    clear X0 X1 X2 Y0 Y1 Y2
                    refine (limited_ok false z1 u1 zs.length z2 us.length u2 _ lz lu).mono ?_
                    rintro e w4 ⟨rfl, k4⟩
                    have HR3 := HR2.out false
                    have HS : Hid (RightP (false && decide (0 < zs.length)) zs us ∧ sg (false && decide (0 < zs.length)) (val zs) = sg false (pnum false xn xd) ^ (val yn).toNat) := ⟨HR3.1, by rw [HR3.2, HN.out.1, sg_pow, HOd2.out]; rfl⟩
                    clear HR3
                    replace X := X.below k4
                    replace Y := Y.below k4
                    replace R := R.below k4
                    replace g := g.trans (k4.mono g.size)
                    have hbb : (false && decide (0 < zs.length)) = false := by rfl
                    rw [hbb] at HS
                    clear hbb
                    have q0 := R.box.c0
                    have q1 := R.box.c1
                    have q2 := R.box.c2
                    have p0 := R.box.f0
                    have p1 := R.box.f1
                    have p2 := R.box.f2
                    go_wp2
                    have hR3 := R.box.set (.bool false) (.slice z1 zs.length z2) (.slice u1 us.length u2)
                    have r0 := hR3.c0
                    have r1 := hR3.c1
                    have r2 := hR3.c2
                    refine bodyPost_ret (v := .tuple #[.agg #[.bool false, .slice z1 zs.length z2, .slice u1 us.length u2], .int .i64 0]) (by simp [results, Tryz.results47, go_sem, r0, r1, r2]) rfl ?_
                    exact ⟨Below.set3 g s1 _ _ _, false, z1, zs.length, z2, u1, us.length, u2, 0, rfl, Or.inr (Or.inr (Or.inr ⟨HP.out, HO.out, (by first | exact HXZ2.out | (have h5 := HXZ2.out; simpa using h5)), rfl, by rw [HN.out.1]; exact HZ.out.2, by rw [HN.out.2.1]; exact HU.out.2, zs, us, rfl, rfl, (Own.set3 (ozz.below k4 (Nat.le_refl _)) R1.lt _ _ _).mono g1.size, (Own.set3 (ouu.below k4 (Nat.le_refl _)) R1.lt _ _ _).mono g1.size, HS.out.1, HS.out.2, by rw [HN.out.2.1]; exact HU.out.1⟩))⟩
                  | true =>
                    obtain ⟨X0, X1, X2⟩ := X.cells
                    obtain ⟨Y0, Y1, Y2⟩ := Y.cells
                    go_wp2_with fail
                    clear X0 X1 X2 Y0 Y1 Y2
                    refine (limited_ok false z1 u1 zs.length z2 us.length u2 _ lz lu).mono ?_
                    rintro e w4 ⟨rfl, k4⟩
                    have HR3 := HR2.out false
                    have HS : Hid (RightP (false && decide (0 < zs.length)) zs us ∧ sg (false && decide (0 < zs.length)) (val zs) = sg true (pnum false xn xd) ^ (val yn).toNat) := ⟨HR3.1, by rw [HR3.2, HN.out.1, sg_pow, HOd2.out]; rfl⟩
                    clear HR3
                    replace X := X.below k4
                    replace Y := Y.below k4
                    replace R := R.below k4
                    replace g := g.trans (k4.mono g.size)
                    have hbb : (false && decide (0 < zs.length)) = false := by rfl
                    rw [hbb] at HS
                    clear hbb
                    have q0 := R.box.c0
                    have q1 := R.box.c1
                    have q2 := R.box.c2
                    have p0 := R.box.f0
                    have p1 := R.box.f1
                    have p2 := R.box.f2
                    go_wp2
                    have hR3 := R.box.set (.bool false) (.slice z1 zs.length z2) (.slice u1 us.length u2)
                    have r0 := hR3.c0
                    have r1 := hR3.c1
                    have r2 := hR3.c2
                    refine bodyPost_ret (v := .tuple #[.agg #[.bool false, .slice z1 zs.length z2, .slice u1 us.length u2], .int .i64 0]) (by simp [results, Tryz.results47, go_sem, r0, r1, r2]) rfl ?_
                    exact ⟨Below.set3 g s1 _ _ _, false, z1, zs.length, z2, u1, us.length, u2, 0, rfl, Or.inr (Or.inr (Or.inr ⟨HP.out, HO.out, (by first | exact HXZ2.out | (have h5 := HXZ2.out; simpa using h5)), rfl, by rw [HN.out.1]; exact HZ.out.2, by rw [HN.out.2.1]; exact HU.out.2, zs, us, rfl, rfl, (Own.set3 (ozz.below k4 (Nat.le_refl _)) R1.lt _ _ _).mono g1.size, (Own.set3 (ouu.below k4 (Nat.le_refl _)) R1.lt _ _ _).mono g1.size, HS.out.1, HS.out.2, by rw [HN.out.2.1]; exact HU.out.1⟩))⟩
      · have hyb : ((yn.length : Int) == 0) = true := by rw [beq_iff_eq]; omega
        have HY0 : Hid ((val yn).toNat = 0 ∧ ¬ 0 < yn.length) := by
          refine ⟨?_, hy0⟩
          rw [(can_zero HP.out.2.2.2.1).1 (by omega)]
          rfl
        have g1 := g
        have R1 := R
        obtain ⟨Y0, Y1, Y2⟩ := Y.cells
        go_wp2_with fail
        clear Y0 Y1 Y2
        refine (ofInt_any 1 (by omega) (by omega) _).mono ?_
        rintro e w2 ⟨k2, b1, ns, ds, x1, y1, x2, y2, HW, rfl, on, od⟩
        replace X := X.below k2
        replace Y := Y.below k2
        replace R := R.below k2
        replace g := g.trans (k2.mono g.size)
        have q0 := R.box.c0
        have q1 := R.box.c1
        have q2 := R.box.c2
        have p0 := R.box.f0
        have p1 := R.box.f1
        have p2 := R.box.f2
        go_wp2
        have hR3 := R.box.set (.bool b1) (.slice x1 ns.length y1) (.slice x2 ds.length y2)
        have r0 := hR3.c0
        have r1 := hR3.c1
        have r2 := hR3.c2
        refine bodyPost_ret (v := .tuple #[.agg #[.bool b1, .slice x1 ns.length y1, .slice x2 ds.length y2], .int .i64 0]) (by simp [results, Tryz.results47, go_sem, r0, r1, r2]) rfl ?_
        exact ⟨Below.set3 g s1 _ _ _, b1, x1, ns.length, y1, x2, ds.length, y2, 0, rfl, Or.inr (Or.inr (Or.inr ⟨HP.out, HO.out, fun h => HY0.out.2 h.1, rfl, by rw [HY0.out.1, Int.pow_zero]; exact one_lt_pw, by rw [HY0.out.1, Int.pow_zero]; exact one_lt_pw, ns, ds, rfl, rfl, (Own.set3 on R1.lt _ _ _).mono g1.size, (Own.set3 od R1.lt _ _ _).mono g1.size, HW.out.right, by rw [HY0.out.1, HW.out.sg.1, Int.pow_zero], by rw [HY0.out.1, HW.out.sg.2, Int.pow_zero]⟩))⟩
    · have HO : Hid (¬ yd = [1]) := hone
      rw [decide_eq_false hone]
      clear hone
      have q0 := R.box.c0
      have q1 := R.box.c1
      have q2 := R.box.c2
      have p0 := R.box.f0
      have p1 := R.box.f1
      have p2 := R.box.f2
      go_wp2
      have hR3 := R.box.set (.bool false) (.slice none 0 0) (.slice none 0 0)
      have r0 := hR3.c0
      have r1 := hR3.c1
      have r2 := hR3.c2
      refine bodyPost_ret (v := .tuple #[.agg #[.bool false, .slice none 0 0, .slice none 0 0], .int .i64 3]) (by simp [results, Tryz.results47, go_sem, r0, r1, r2]) rfl ?_
      exact ⟨Below.set3 g s1 _ _ _, false, none, 0, 0, none, 0, 0, 3, rfl, Or.inr (Or.inl ⟨HP.out, Or.inl HO.out, rfl, rfl, rfl, rfl, rfl, rfl, rfl, rfl⟩)⟩
end
end Go.Proofs.YtidbebfendjnlaaGreatDoor
