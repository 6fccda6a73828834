/- The document's numbers copied, turned, and without their sign. -/
import Derived.Test.YtidbebfendjnlaaGreatDoorF1
import Derived.Test.YtidbebfendjnlaaGreatDoorF2
namespace Go.Proofs.YtidbebfendjnlaaGreatDoor
set_option linter.unusedVariables false
set_option linter.unusedSimpArgs false
open Go.RowKit

/-- A number that is answered, in memory of its own. -/
def NumAns (w : World) (b : Bool) (ns ds : List Int) (e : Ending) (w' : World) : Prop :=
  Below w.heap.size w w' ∧ ∃ x1 y1 x2 y2, e = .returned (.agg #[.bool b, .slice x1 ns.length y1, .slice x2 ds.length y2]) ∧ Own w.heap.size w' (.slice x1 ns.length y1) ns ∧ Own w.heap.size w' (.slice x2 ds.length y2) ds

section
variable {w : World} {b : Bool} {a1 a2 : Option Addr} {c1 c2 : Nat} {ns ds : List Int}
theorem in1_new (w : World) (h1 : Rd w.heap.size w (.slice a1 ns.length c1) ns) (h2 : Rd w.heap.size w (.slice a2 ds.length c2) ds) :
    NVar ((w.alloc (.cells #[.bool b, .slice a1 ns.length c1, .slice a2 ds.length c2] 25)).alloc (.cells #[.bool false, .slice none 0 0, .slice none 0 0] 25)) w.heap.size b a1 ns c1 a2 ds c2 ∧ RVar ((w.alloc (.cells #[.bool b, .slice a1 ns.length c1, .slice a2 ds.length c2] 25)).alloc (.cells #[.bool false, .slice none 0 0, .slice none 0 0] 25)) (w.heap.size + 1) ∧ Below w.heap.size w ((w.alloc (.cells #[.bool b, .slice a1 ns.length c1, .slice a2 ds.length c2] 25)).alloc (.cells #[.bool false, .slice none 0 0, .slice none 0 0] 25)) := by
  have X := nvar_new (b := b) h1 h2
  have R := rvar_new (w.alloc (.cells #[.bool b, .slice a1 ns.length c1, .slice a2 ds.length c2] 25))
  have ka := below_alloc (w.alloc (.cells #[.bool b, .slice a1 ns.length c1, .slice a2 ds.length c2] 25)) (.cells #[.bool false, .slice none 0 0, .slice none 0 0] 25)
  rw [World.size_alloc] at R
  exact ⟨X.below ka, R, (below_alloc w _).alloc (by simp) _⟩

set_option maxRecDepth 100000 in
set_option maxHeartbeats 8000000 in
theorem refCopied_any (h1 : Rd w.heap.size w (.slice a1 ns.length c1) ns) (h2 : Rd w.heap.size w (.slice a2 ds.length c2) ds) (l1 : ns.length ≤ 10000) (l2 : ds.length ≤ 10000) (C : Hid (can ns ∧ can ds)) :
    Calls Tryz.prog 86 #[.agg #[.bool b, .slice a1 ns.length c1, .slice a2 ds.length c2]] w fun e w' => NumAns w b ns ds e w' := by
  have t1 : Hid (tr ns = ns) := can_inj (tr_can h1.lim) C.out.1 (val_tr ns)
  have t2 : Hid (tr ds = ds) := can_inj (tr_can h2.lim) C.out.2 (val_tr ds)
  obtain ⟨X, R, g⟩ := in1_new (b := b) w h1 h2
  have s1 : w.heap.size ≤ w.heap.size + 1 := by omega
  go_enter Tryz.func86, Tryz.ntmps86
  go_wp2
  generalize hA : (w.alloc (.cells #[.bool b, .slice a1 ns.length c1, .slice a2 ds.length c2] 25)).alloc (.cells #[.bool false, .slice none 0 0, .slice none 0 0] 25) = v at *
  clear hA
  have hcells : ∀ {w' : World}, Below v.heap.size v w' → w'.cell? ⟨w.heap.size, 0, none⟩ = some (.bool b) ∧ w'.cell? ⟨w.heap.size, 1, none⟩ = some (.slice a1 ns.length c1) ∧ w'.cell? ⟨w.heap.size, 2, none⟩ = some (.slice a2 ds.length c2) := fun hb => (X.below hb).cells
  obtain ⟨X0, X1, X2⟩ := X.cells
  have d1 : Rd v.heap.size v.drew (.slice a1 ns.length c1) ns := X.rn
  have hn : w.heap.size ≠ w.heap.size + 1 := by omega
  go_region_held3 (fun w' => w'.cell? ⟨w.heap.size, 0, none⟩ = some (.bool b) ∧ w'.cell? ⟨w.heap.size, 1, none⟩ = some (.slice a1 ns.length c1) ∧ w'.cell? ⟨w.heap.size, 2, none⟩ = some (.slice a2 ds.length c2))
    (first | (go_keep; done) | exact tw | exact tw2 | exact tws)
    (first
      | (go_at_call_of 60 (Value.slice a1 ns.length c1); refine (refTrim_rd d1 (by omega)).mono ?_; intro e wa hm; rw [t1.out] at hm; obtain ⟨x1, y1, rfl, o1, ba⟩ := Makes.undrew hm; have tw := hcells ba; have e2 := (X.below ba).rd)
      | (have j := ba; go_at_call_of 60 (Value.slice a2 ds.length c2); refine (refTrim_rd e2 (by omega)).mono ?_; intro e wb hm; rw [t2.out] at hm; obtain ⟨x2, y2, rfl, o2, bb⟩ := hm; have bPb := ba.trans (bb.mono ba.size); have tw2 := hcells bPb; have XB := (X.below bPb).box; have RB := R.below bPb; have tws := And.intro (XB.other hn (.bool b) (.slice x1 ns.length y1) (.slice x2 ds.length y2)).c0 (And.intro (XB.other hn (.bool b) (.slice x1 ns.length y1) (.slice x2 ds.length y2)).c1 (XB.other hn (.bool b) (.slice x1 ns.length y1) (.slice x2 ds.length y2)).c2); have q0 := RB.box.c0; have q1 := RB.box.c1; have q2 := RB.box.c2; have p0 := RB.box.f0; have p1 := RB.box.f1; have p2 := RB.box.f2))
  all_goals
    have o1c : Own v.heap.size wb (.slice x1 ns.length y1) ns := o1.below bb (Nat.le_refl _)
    have o2c : Own v.heap.size wb (.slice x2 ds.length y2) ds := o2.mono ba.size
    go_wp2
    have hR3 := RB.box.set (.bool b) (.slice x1 ns.length y1) (.slice x2 ds.length y2)
    have r0 := hR3.c0
    have r1 := hR3.c1
    have r2 := hR3.c2
    refine bodyPost_ret (v := .agg #[.bool b, .slice x1 ns.length y1, .slice x2 ds.length y2]) (by simp [results, Tryz.results86, go_sem, r0, r1, r2]) rfl ?_
    exact ⟨Below.set3 (g.trans (bPb.mono g.size)) s1 _ _ _, x1, y1, x2, y2, rfl, (Own.set3 o1c R.lt _ _ _).mono g.size, (Own.set3 o2c R.lt _ _ _).mono g.size⟩
end
end Go.Proofs.YtidbebfendjnlaaGreatDoor

/- Answers in one form; a variable of a number is given another number. -/
namespace Go.Proofs.YtidbebfendjnlaaGreatDoor
set_option linter.unusedVariables false
set_option linter.unusedSimpArgs false
open Go.RowKit

/-- What is told of N by D, where P is asked: an error, or the number. -/
def OutSpec (P : Prop) (N D : Int) (b : Bool) (ns ds : List Int) (err : Int) : Prop :=
  (¬ P ∧ err = 22 ∧ b = false ∧ ns = [] ∧ ds = []) ∨ (P ∧ err = 8 ∧ b = false ∧ ns = [] ∧ ds = [] ∧ Big N D) ∨ (P ∧ err = 0 ∧ RightP b ns ds ∧ sg b (val ns) * D = N * val ds)
theorem OutSpec.unique {P : Prop} {N D : Int} {b c : Bool} {ns ds ms es : List Int} {e f : Int} (hD : P → 0 < D) (h : OutSpec P N D b ns ds e) (k : OutSpec P N D c ms es f) : c = b ∧ ms = ns ∧ es = ds ∧ f = e := by
  rcases h with ⟨hp, rfl, rfl, rfl, rfl⟩ | ⟨hp, rfl, rfl, rfl, rfl, hb⟩ | ⟨hp, rfl, hr, hv⟩ <;> rcases k with ⟨kp, rfl, rfl, rfl, rfl⟩ | ⟨kp, rfl, rfl, rfl, rfl, kb⟩ | ⟨kp, rfl, kr, kv⟩
  · exact ⟨rfl, rfl, rfl, rfl⟩
  · exact absurd kp hp
  · exact absurd kp hp
  · exact absurd hp kp
  · exact ⟨rfl, rfl, rfl, rfl⟩
  · exact absurd hb (not_big kr kv (hD hp))
  · exact absurd hp kp
  · exact absurd kb (not_big hr hv (hD hp))
  · obtain ⟨rfl, rfl, rfl⟩ := right_is hr hv (hD hp) kr kv
    exact ⟨rfl, rfl, rfl, rfl⟩
theorem Gives.spec {w w' : World} {P : Prop} {N D : Int} {e : Ending} (h : Gives w P N D e w') : ∃ b ns ds err, Hid (OutSpec P N D b ns ds err) ∧ RAns w b ns ds err e w' := by
  obtain ⟨hb, b, x1, n, y1, x2, m, y2, err, rfl, hO⟩ := h
  rcases hO.out with ⟨hp, rfl, rfl, rfl, rfl, rfl, rfl, rfl, rfl⟩ | ⟨hp, rfl, rfl, rfl, rfl, rfl, rfl, rfl, rfl, hbig⟩ | ⟨hp, rfl, ns, ds, rfl, rfl, on, od, hr, hv⟩
  · exact ⟨false, [], [], 22, Or.inl ⟨hp, rfl, rfl, rfl, rfl⟩, hb, none, 0, none, 0, rfl, nil_rd _, nil_rd _⟩
  · exact ⟨false, [], [], 8, Or.inr (Or.inl ⟨hp, rfl, rfl, rfl, rfl, hbig⟩), hb, none, 0, none, 0, rfl, nil_rd _, nil_rd _⟩
  · exact ⟨b, ns, ds, 0, Or.inr (Or.inr ⟨hp, rfl, hr, hv⟩), hb, x1, y1, x2, y2, rfl, on.rd, od.rd⟩
/-- Two answers of the same: the second one has the first one's numbers. -/
theorem Gives.same {w w' : World} {P : Prop} {N D : Int} {e : Ending} {b : Bool} {ns ds : List Int} {err : Int} (hD : P → 0 < D) (HS : Hid (OutSpec P N D b ns ds err)) (h : Gives w P N D e w') : RAns w b ns ds err e w' := by
  obtain ⟨c, ms, es, f, HK, hr⟩ := h.spec
  obtain ⟨rfl, rfl, rfl, rfl⟩ := OutSpec.unique hD HS.out HK.out
  exact hr
theorem Gives.of {w w' : World} {P : Prop} {N D M E : Int} {e : Ending} (h : Gives w P N D e w') (hE : P → M = N ∧ E = D) : Gives w P M E e w' := by
  obtain ⟨k1, c, z1, n, z2, z3, m, z4, er, he, hO⟩ := h
  refine ⟨k1, c, z1, n, z2, z3, m, z4, er, he, ?_⟩
  rcases hO.out with h | ⟨h, h2⟩ | ⟨h, h2⟩
  · exact Or.inl h
  · obtain ⟨rfl, rfl⟩ := hE h; exact Or.inr (Or.inl ⟨h, h2⟩)
  · obtain ⟨rfl, rfl⟩ := hE h; exact Or.inr (Or.inr ⟨h, h2⟩)

section
variable {w : World} {b c : Bool} {a1 a2 a3 a4 : Option Addr} {c1 c2 c3 c4 : Nat} {ns ds ms es : List Int} {j k ty : Nat} {x1 x2 : Option Addr} {n1 n2 m1 m2 : Nat}
theorem cell_set3 (h : j ≠ k) (o : Nat) (x y z : Value) : (((w.setCell ⟨k, 0, none⟩ x).setCell ⟨k, 1, none⟩ y).setCell ⟨k, 2, none⟩ z).cell? ⟨j, o, none⟩ = w.cell? ⟨j, o, none⟩ := by
  have hne : ¬ k = j := fun e => h e.symm
  simp [World.setCell, World.cell?, Array.getElem?_modify, hne]
theorem Rd.put {B : Nat} {v : Value} {xs : List Int} (h : Rd B w v xs) (hk : Box3 w k ty (.bool b) (.slice x1 n1 m1) (.slice x2 n2 m2)) (x y z : Value) : Rd B (((w.setCell ⟨k, 0, none⟩ x).setCell ⟨k, 1, none⟩ y).setCell ⟨k, 2, none⟩ z) v xs := by
  obtain ⟨hl, a, cap, hv, h1, h2, h3, h4⟩ := h
  refine ⟨hl, a, cap, hv, h1, h2, h3, ?_⟩
  rcases h4 with h4 | ⟨b', off, ha, hb, hc⟩
  · exact Or.inl h4
  · by_cases h0 : xs.length = 0
    · exact Or.inl h0
    · refine Or.inr ⟨b', off, ha, hb, fun i hi => ?_⟩
      rw [cell_set3 ?_]
      · exact hc i hi
      · rintro rfl
        have h5 := hc 0 (by omega)
        unfold Box3 at hk
        rw [Nat.add_zero] at h5
        match off, h5 with
        | 0, h5 => simp [World.cell?, hk] at h5
        | 1, h5 => simp [World.cell?, hk] at h5
        | 2, h5 => simp [World.cell?, hk] at h5
        | o + 3, h5 => simp [World.cell?, hk] at h5
theorem NVar.put (P : NVar w k b a1 ns c1 a2 ds c2) (h1 : Rd w.heap.size w (.slice a3 ms.length c3) ms) (h2 : Rd w.heap.size w (.slice a4 es.length c4) es) :
    NVar (((w.setCell ⟨k, 0, none⟩ (.bool c)).setCell ⟨k, 1, none⟩ (.slice a3 ms.length c3)).setCell ⟨k, 2, none⟩ (.slice a4 es.length c4)) k c a3 ms c3 a4 es c4 := by
  have szz : (((w.setCell ⟨k, 0, none⟩ (.bool c)).setCell ⟨k, 1, none⟩ (.slice a3 ms.length c3)).setCell ⟨k, 2, none⟩ (.slice a4 es.length c4)).heap.size = w.heap.size := by simp [World.setCell]
  refine ⟨by rw [szz]; exact P.lt, P.box.set _ _ _, ?_, ?_⟩
  · rw [szz]; exact h1.put P.box _ _ _
  · rw [szz]; exact h2.put P.box _ _ _
theorem NVar.by' (X : NVar w j b a1 ns c1 a2 ds c2) (P : NVar w k c a3 ms c3 a4 es c4) (h : j ≠ k) (x y z : Value) : NVar (((w.setCell ⟨k, 0, none⟩ x).setCell ⟨k, 1, none⟩ y).setCell ⟨k, 2, none⟩ z) j b a1 ns c1 a2 ds c2 := by
  have szz : (((w.setCell ⟨k, 0, none⟩ x).setCell ⟨k, 1, none⟩ y).setCell ⟨k, 2, none⟩ z).heap.size = w.heap.size := by simp [World.setCell]
  refine ⟨by rw [szz]; exact X.lt, X.box.other h _ _ _, ?_, ?_⟩
  · rw [szz]; exact X.rn.put P.box _ _ _
  · rw [szz]; exact X.rd.put P.box _ _ _
end
end Go.Proofs.YtidbebfendjnlaaGreatDoor

/- rat.Neg, Abs, Ceil. -/
namespace Go.Proofs.YtidbebfendjnlaaGreatDoor
set_option linter.unusedVariables false
set_option linter.unusedSimpArgs false
open Go.RowKit

/-- A right number with another sign is right. -/
theorem right_with {b : Bool} {ns ds : List Int} (c : Bool) (h : RightP b ns ds) : RightP (c && decide (0 < ns.length)) ns ds ∧ sg (c && decide (0 < ns.length)) (val ns) = sg c (val ns) := by
  obtain ⟨l1, l2, c1, c2, hb, hd, hg⟩ := h
  by_cases h0 : ns.length = 0
  · have hv := (can_zero c1).1 h0
    have hf : (c && decide (0 < ns.length)) = false := by rw [h0]; simp
    rw [hf]
    refine ⟨⟨l1, l2, c1, c2, ?_, hd, hg⟩, ?_⟩
    · rintro ⟨h, _⟩; cases h
    · rw [hv, sg_zero, sg_zero]
  · have hf : (c && decide (0 < ns.length)) = c := by rw [decide_eq_true (by omega)]; simp
    rw [hf]
    exact ⟨⟨l1, l2, c1, c2, fun h => h0 h.2, hd, hg⟩, rfl⟩
theorem sg_neg (b : Bool) (x : Int) : sg b (-x) = -(sg b x) := by unfold sg; cases b <;> simp
theorem ceil_whole (b : Bool) (n d : Int) (hn : 0 ≤ n) (hd : 0 < d) : sg b (wholeM (!b) n d) = -((-(sg b n)) / d) := by
  have h := floor_whole (!b) n d hn hd
  rw [sg_not, sg_not] at h
  omega
theorem big_neg {N D : Int} (h : Big N D) : Big (-N) D := by
  obtain ⟨b, ns, ds, h1, h2, h3, h4, h5, h6⟩ := h
  exact ⟨!b, ns, ds, h1, h2, h3, h4, by rw [sg_not, Int.neg_mul, Int.neg_mul, h5], h6⟩
/-- A right number is told. -/
theorem gives_num {w wF : World} {P : Prop} {N D : Int} {b : Bool} {ns ds : List Int} {x1 x2 : Option Addr} {y1 y2 : Nat} (hP : P) (hb : Below w.heap.size w wF) (on : Own w.heap.size wF (.slice x1 ns.length y1) ns) (od : Own w.heap.size wF (.slice x2 ds.length y2) ds) (hr : RightP b ns ds) (hv : sg b (val ns) * D = N * val ds) :
    Gives w P N D (.returned (.tuple #[.agg #[.bool b, .slice x1 ns.length y1, .slice x2 ds.length y2], .int .i64 0])) wF :=
  ⟨hb, b, x1, ns.length, y1, x2, ds.length, y2, 0, rfl, Or.inr (Or.inr ⟨hP, rfl, ns, ds, rfl, rfl, on, od, hr, hv⟩)⟩

section
variable {w : World} {b : Bool} {a1 a2 : Option Addr} {c1 c2 : Nat} {ns ds : List Int}
set_option maxRecDepth 100000 in
set_option maxHeartbeats 8000000 in
theorem neg_rat (h1 : Rd w.heap.size w (.slice a1 ns.length c1) ns) (h2 : Rd w.heap.size w (.slice a2 ds.length c2) ds) :
    Calls Tryz.prog 33 #[.agg #[.bool b, .slice a1 ns.length c1, .slice a2 ds.length c2]] w fun e w' => Gives w (RightP b ns ds) (-(sg b (val ns))) (val ds) e w' := by
  obtain ⟨X, R, g⟩ := in1_new (b := b) w h1 h2
  have s0 : w.heap.size ≤ w.heap.size + 1 := by omega
  clear h1 h2
  obtain ⟨x0, x1, x2⟩ := X.cells
  go_enter Tryz.func33, Tryz.ntmps33
  go_wp2_with fail
  clear x0 x1 x2
  generalize hA : (w.alloc (.cells #[.bool b, .slice a1 ns.length c1, .slice a2 ds.length c2] 25)).alloc (.cells #[.bool false, .slice none 0 0, .slice none 0 0] 25) = v at *
  clear hA
  refine (right_rat X.rn X.rd (Nat.le_refl _)).mono ?_
  rintro e wa ⟨⟨r, rfl, hr⟩, ka⟩
  replace X := X.below ka
  replace R := R.below ka
  replace g := g.trans (ka.mono g.size)
  clear ka
  cases r with
  | false =>
    have HP : Hid (¬ RightP b ns ds) := fun h => by have := hr.2 h; cases this
    clear hr
    have q0 := R.box.c0
    have q1 := R.box.c1
    have q2 := R.box.c2
    have p0 := R.box.f0
    have p1 := R.box.f1
    have p2 := R.box.f2
    go_wp2
    have hR3 := R.box.set (.bool false) (.slice none 0 0) (.slice none 0 0)
    have r0 := hR3.c0
    have r1 := hR3.c1
    have r2 := hR3.c2
    refine bodyPost_ret (v := .tuple #[.agg #[.bool false, .slice none 0 0, .slice none 0 0], .int .i64 22]) (by simp [results, Tryz.results33, go_sem, r0, r1, r2]) rfl ?_
    exact gives_err HP.out (Below.set3 g s0 _ _ _)
  | true =>
    have HP : Hid (RightP b ns ds) := hr.1 rfl
    clear hr
    obtain ⟨x0, x1, x2⟩ := X.cells
    go_wp2_with fail
    clear x0 x1 x2
    refine (withSign_rat (b := (!b)) X.rn X.rd (Nat.le_refl _) HP.out).mono ?_
    rintro e wb ⟨kb, z1, y1, z2, y2, he, on, od⟩
    have HB := right_with (!b) HP.out
    skip
    subst he
    have R' := R
    replace R := R.below kb
    replace g := g.trans (kb.mono g.size)
    have q0 := R.box.c0
    have q1 := R.box.c1
    have q2 := R.box.c2
    have p0 := R.box.f0
    have p1 := R.box.f1
    have p2 := R.box.f2
    go_wp2
    have hR3 := R.box.set (.bool ((!b) && decide (0 < ns.length))) (.slice z1 ns.length y1) (.slice z2 ds.length y2)
    have r0 := hR3.c0
    have r1 := hR3.c1
    have r2 := hR3.c2
    refine bodyPost_ret (v := .tuple #[.agg #[.bool ((!b) && decide (0 < ns.length)), .slice z1 ns.length y1, .slice z2 ds.length y2], .int .i64 0]) (by simp [results, Tryz.results33, go_sem, r0, r1, r2]) rfl ?_
    exact gives_num HP.out (Below.set3 g s0 _ _ _) ((Own.set3 on R'.lt _ _ _).mono (Nat.le_trans s0 (Nat.le_of_lt R'.lt))) ((Own.set3 od R'.lt _ _ _).mono (Nat.le_trans s0 (Nat.le_of_lt R'.lt))) HB.1 (by rw [HB.2, sg_not])
set_option maxRecDepth 100000 in
set_option maxHeartbeats 8000000 in
theorem abs_rat (h1 : Rd w.heap.size w (.slice a1 ns.length c1) ns) (h2 : Rd w.heap.size w (.slice a2 ds.length c2) ds) :
    Calls Tryz.prog 35 #[.agg #[.bool b, .slice a1 ns.length c1, .slice a2 ds.length c2]] w fun e w' => Gives w (RightP b ns ds) (val ns) (val ds) e w' := by
  obtain ⟨X, R, g⟩ := in1_new (b := b) w h1 h2
  have s0 : w.heap.size ≤ w.heap.size + 1 := by omega
  clear h1 h2
  obtain ⟨x0, x1, x2⟩ := X.cells
  go_enter Tryz.func35, Tryz.ntmps35
  go_wp2_with fail
  clear x0 x1 x2
  generalize hA : (w.alloc (.cells #[.bool b, .slice a1 ns.length c1, .slice a2 ds.length c2] 25)).alloc (.cells #[.bool false, .slice none 0 0, .slice none 0 0] 25) = v at *
  clear hA
  refine (right_rat X.rn X.rd (Nat.le_refl _)).mono ?_
  rintro e wa ⟨⟨r, rfl, hr⟩, ka⟩
  replace X := X.below ka
  replace R := R.below ka
  replace g := g.trans (ka.mono g.size)
  clear ka
  cases r with
  | false =>
    have HP : Hid (¬ RightP b ns ds) := fun h => by have := hr.2 h; cases this
    clear hr
    have q0 := R.box.c0
    have q1 := R.box.c1
    have q2 := R.box.c2
    have p0 := R.box.f0
    have p1 := R.box.f1
    have p2 := R.box.f2
    go_wp2
    have hR3 := R.box.set (.bool false) (.slice none 0 0) (.slice none 0 0)
    have r0 := hR3.c0
    have r1 := hR3.c1
    have r2 := hR3.c2
    refine bodyPost_ret (v := .tuple #[.agg #[.bool false, .slice none 0 0, .slice none 0 0], .int .i64 22]) (by simp [results, Tryz.results35, go_sem, r0, r1, r2]) rfl ?_
    exact gives_err HP.out (Below.set3 g s0 _ _ _)
  | true =>
    have HP : Hid (RightP b ns ds) := hr.1 rfl
    clear hr
    obtain ⟨x0, x1, x2⟩ := X.cells
    go_wp2_with fail
    clear x0 x1 x2
    refine (withSign_rat (b := false) X.rn X.rd (Nat.le_refl _) HP.out).mono ?_
    rintro e wb ⟨kb, z1, y1, z2, y2, he, on, od⟩
    have HB := right_with false HP.out
    rw [Bool.false_and] at he HB
    subst he
    have R' := R
    replace R := R.below kb
    replace g := g.trans (kb.mono g.size)
    have q0 := R.box.c0
    have q1 := R.box.c1
    have q2 := R.box.c2
    have p0 := R.box.f0
    have p1 := R.box.f1
    have p2 := R.box.f2
    go_wp2
    have hR3 := R.box.set (.bool false) (.slice z1 ns.length y1) (.slice z2 ds.length y2)
    have r0 := hR3.c0
    have r1 := hR3.c1
    have r2 := hR3.c2
    refine bodyPost_ret (v := .tuple #[.agg #[.bool false, .slice z1 ns.length y1, .slice z2 ds.length y2], .int .i64 0]) (by simp [results, Tryz.results35, go_sem, r0, r1, r2]) rfl ?_
    exact gives_num HP.out (Below.set3 g s0 _ _ _) ((Own.set3 on R'.lt _ _ _).mono (Nat.le_trans s0 (Nat.le_of_lt R'.lt))) ((Own.set3 od R'.lt _ _ _).mono (Nat.le_trans s0 (Nat.le_of_lt R'.lt))) HB.1 (by rw [sg_false])
set_option maxRecDepth 100000 in
set_option maxHeartbeats 8000000 in
theorem ceil_rat (h1 : Rd w.heap.size w (.slice a1 ns.length c1) ns) (h2 : Rd w.heap.size w (.slice a2 ds.length c2) ds) :
    Calls Tryz.prog 37 #[.agg #[.bool b, .slice a1 ns.length c1, .slice a2 ds.length c2]] w fun e w' => Gives w (RightP b ns ds) (-((-(sg b (val ns))) / val ds)) 1 e w' := by
  obtain ⟨X, R, g⟩ := in1_new (b := b) w h1 h2
  have s0 : w.heap.size ≤ w.heap.size + 1 := by omega
  clear h1 h2
  obtain ⟨x0, x1, x2⟩ := X.cells
  go_enter Tryz.func37, Tryz.ntmps37
  go_wp2_with fail
  clear x0 x1 x2
  generalize hA : (w.alloc (.cells #[.bool b, .slice a1 ns.length c1, .slice a2 ds.length c2] 25)).alloc (.cells #[.bool false, .slice none 0 0, .slice none 0 0] 25) = v at *
  clear hA
  refine (whole_rat (!b) X.rn X.rd).mono ?_
  rintro e wa ⟨ka, b6, x5, n5, y5, x6, n6, y6, err, rfl, ho⟩
  have Ra := R.below ka
  have q0 := Ra.box.c0
  have q1 := Ra.box.c1
  have q2 := Ra.box.c2
  have p0 := Ra.box.f0
  have p1 := Ra.box.f1
  have p2 := Ra.box.f2
  go_wp2
  have hR3 := Ra.box.set (.bool b6) (.slice x5 n5 y5) (.slice x6 n6 y6)
  have r0 := hR3.c0
  have r1 := hR3.c1
  have r2 := hR3.c2
  refine bodyPost_ret (v := .tuple #[.agg #[.bool b6, .slice x5 n5 y5, .slice x6 n6 y6], .int .i64 err]) (by simp [results, Tryz.results37, go_sem, r0, r1, r2]) rfl ?_
  have hd := gives_done g s0 R.lt ka (Nat.le_refl _) ho
  exact hd.of (fun hP => ⟨(ceil_whole b _ _ (right_pos hP).2 (right_pos hP).1).symm, rfl⟩)
end
end Go.Proofs.YtidbebfendjnlaaGreatDoor

/- rat.IsInt, ToInt. -/
namespace Go.Proofs.YtidbebfendjnlaaGreatDoor
set_option linter.unusedVariables false
set_option linter.unusedSimpArgs false
open Go.RowKit

/-- Is a number right and whole? -/
def IsWhole (b : Bool) (ns ds : List Int) : Prop := RightP b ns ds ∧ ds = [1]
/-- What is told of a whole number as an int. -/
def IntTold (P : Prop) (z n : Int) (ok : Bool) : Prop := (ok = true ∧ P ∧ -9223372036854775808 ≤ z ∧ z < 9223372036854775808 ∧ n = z) ∨ (ok = false ∧ n = 0 ∧ ¬ (P ∧ -9223372036854775808 ≤ z ∧ z < 9223372036854775808))
theorem IntTold.unique {P : Prop} {z n m : Int} {ok fine : Bool} (h : IntTold P z n ok) (k : IntTold P z m fine) : m = n ∧ fine = ok := by
  rcases h with ⟨rfl, hp, h1, h2, rfl⟩ | ⟨rfl, rfl, h⟩ <;> rcases k with ⟨rfl, kp, k1, k2, rfl⟩ | ⟨rfl, rfl, k⟩
  · exact ⟨rfl, rfl⟩
  · exact absurd ⟨hp, h1, h2⟩ k
  · exact absurd ⟨kp, k1, k2⟩ h
  · exact ⟨rfl, rfl⟩

section
variable {w : World} {b : Bool} {a1 a2 : Option Addr} {c1 c2 : Nat} {ns ds : List Int}
set_option maxRecDepth 100000 in
set_option maxHeartbeats 1600000 in
theorem isInt_rat (h1 : Rd w.heap.size w (.slice a1 ns.length c1) ns) (h2 : Rd w.heap.size w (.slice a2 ds.length c2) ds) :
    Calls Tryz.prog 22 #[.agg #[.bool b, .slice a1 ns.length c1, .slice a2 ds.length c2]] w fun e w' => TellsP (IsWhole b ns ds) e ∧ Below w.heap.size w w' := by
  have X := nvar_new (b := b) h1 h2
  have g := below_alloc w (.cells #[.bool b, .slice a1 ns.length c1, .slice a2 ds.length c2] 25)
  obtain ⟨x0, x1, x2⟩ := X.cells
  go_enter Tryz.func22, Tryz.ntmps22
  go_wp2_with fail
  clear x0 x1 x2
  generalize hA : w.alloc (.cells #[.bool b, .slice a1 ns.length c1, .slice a2 ds.length c2] 25) = v at *
  clear hA
  refine (right_rat X.rn X.rd (Nat.le_refl _)).mono ?_
  rintro e wa ⟨⟨r, rfl, hr⟩, ka⟩
  replace X := X.below ka
  replace g := g.trans (ka.mono g.size)
  clear ka
  obtain ⟨x0, x1, x2⟩ := X.cells
  cases r with
  | false =>
    have HP : Hid (¬ RightP b ns ds) := fun h => by have := hr.2 h; cases this
    clear hr
    go_wp2
    go_ret
    exact ⟨TellsP.no (fun h => HP.out h.1), g⟩
  | true =>
    have HP : Hid (RightP b ns ds) := hr.1 rfl
    clear hr
    go_wp2_with fail
    refine (isOne_any X.rd).mono ?_
    rintro e w' ⟨rfl, rfl⟩
    by_cases hone : ds = [1]
    · have HO : Hid (ds = [1]) := hone
      rw [decide_eq_true hone]
      clear hone
      go_wp2
      go_ret
      exact ⟨TellsP.yes ⟨HP.out, HO.out⟩, g⟩
    · have HO : Hid (¬ ds = [1]) := hone
      rw [decide_eq_false hone]
      clear hone
      go_wp2
      go_ret
      exact ⟨TellsP.no (fun h => HO.out h.2), g⟩

set_option maxRecDepth 100000 in
set_option maxHeartbeats 8000000 in
theorem toInt_rat (h1 : Rd w.heap.size w (.slice a1 ns.length c1) ns) (h2 : Rd w.heap.size w (.slice a2 ds.length c2) ds) :
    Calls Tryz.prog 15 #[.agg #[.bool b, .slice a1 ns.length c1, .slice a2 ds.length c2]] w fun e w' => ∃ n ok, e = .returned (.tuple #[.int .i64 n, .bool ok]) ∧ Hid (IntTold (IsWhole b ns ds) (sg b (val ns)) n ok) ∧ Below w.heap.size w w' := by
  have X := nvar_new (b := b) h1 h2
  have g := below_alloc w (.cells #[.bool b, .slice a1 ns.length c1, .slice a2 ds.length c2] 25)
  obtain ⟨x0, x1, x2⟩ := X.cells
  go_enter Tryz.func15, Tryz.ntmps15
  go_wp2_with fail
  clear x0 x1 x2
  generalize hA : w.alloc (.cells #[.bool b, .slice a1 ns.length c1, .slice a2 ds.length c2] 25) = v at *
  clear hA
  refine (isInt_rat X.rn X.rd).mono ?_
  rintro e wa ⟨⟨r, rfl, hr⟩, ka⟩
  replace X := X.below ka
  replace g := g.trans (ka.mono g.size)
  clear ka
  obtain ⟨x0, x1, x2⟩ := X.cells
  cases r with
  | false =>
    have HP : Hid (¬ IsWhole b ns ds) := fun h => by have := hr.2 h; cases this
    clear hr
    go_wp2
    refine bodyPost_ret (v := .tuple #[.int .i64 0, .bool false]) (by simp [results, Tryz.results15, go_sem]) rfl ?_
    exact ⟨0, false, rfl, Or.inr ⟨rfl, rfl, fun h => HP.out h.1⟩, g⟩
  | true =>
    have HP : Hid (IsWhole b ns ds) := hr.1 rfl
    clear hr
    have l1 := HP.out.1.1
    have HN : Hid (0 ≤ val ns) := (right_pos HP.out.1).2
    cases b with
    | false =>
      go_wp2_with fail
      refine (small_any X.rn (by omega)).mono ?_
      rintro e w' ⟨rfl, rfl⟩
      by_cases hs : val ns < 9223372036854775808
      · rw [smallV_lt hs]
        have HS : Hid (val ns < 9223372036854775808) := hs
        clear hs
        go_wp2
        refine bodyPost_ret (v := .tuple #[.int .i64 (val ns), .bool true]) (by simp [results, Tryz.results15, go_sem]) rfl ?_
        exact ⟨_, _, rfl, Or.inl ⟨rfl, HP.out, by rw [sg_false]; have := HN.out; omega, by rw [sg_false]; exact HS.out, rfl⟩, g⟩
      · rw [smallV_ge (by omega)]
        have HS : Hid (¬ val ns < 9223372036854775808) := hs
        clear hs
        go_wp2
        refine bodyPost_ret (v := .tuple #[.int .i64 0, .bool false]) (by simp [results, Tryz.results15, go_sem]) rfl ?_
        exact ⟨_, _, rfl, Or.inr ⟨rfl, rfl, fun h => by have h5 := HS.out; have h6 := h.2.2; rw [sg_false] at h6; omega⟩, g⟩
    | true =>
      have HV : Hid (1 ≤ val ns) := by
        have h5 := HP.out.1.2.2.2.2.1
        have h6 := can_zero HP.out.1.2.2.1
        have h7 := HN.out
        have h8 : ¬ val ns = 0 := fun h => h5 ⟨rfl, h6.2 h⟩
        unfold Hid; omega
      have hcells : ∀ {w' : World}, Below wa.heap.size wa w' → w'.cell? ⟨w.heap.size, 1, none⟩ = some (.slice a1 ns.length c1) := fun hb => (X.below hb).k1
      go_wp2
      go_region_held3 (fun w' => w'.cell? ⟨w.heap.size, 1, none⟩ = some (.slice a1 ns.length c1))
        (first | (go_keep; done) | exact tw | exact tw2)
        (first
          | (go_at_call 69; refine (one_num _).mono ?_; rintro e we ⟨es, x5, y5, HE, rfl, o3, bf'⟩; have bf : Below wa.heap.size wa we := below_undrew (w := wa) (B := wa.heap.size) bf'; have tw := hcells bf)
          | (have j := tw; go_at_call 68; refine (minus_any (X.below bf).rn (Nat.le_refl _) o3.rd (Nat.le_refl _) (by omega)).mono ?_; rintro e wf ⟨⟨bg, -⟩, hm⟩; obtain ⟨zs, x6, y6, lz, cz, vz, rfl, oz⟩ := hm (by rw [HE.out, one_val]; exact HV.out); have hz : Hid (val zs = val ns - 1) := (by rw [HE.out, one_val] at vz; exact vz); have tg := bf.trans (bg.mono bf.size); have tw2 := hcells tg))
      have tt := g.trans (tg.mono g.size)
      have hz0 := (val_bound oz.lim).1
      have lz2 : zs.length ≤ 17592186044415 := by omega
      go_wp2_with fail
      refine (small_any oz.rd lz2).mono ?_
      rintro e w' ⟨rfl, rfl⟩
      by_cases hs : val zs < 9223372036854775808
      · rw [smallV_lt hs]
        have hw1 : IntKind.i64.wrap (-(val zs)) = -(val zs) := by rw [IntKind.wrap_i64]; omega
        have hw2 : IntKind.i64.wrap (-(val zs) - 1) = -(val zs) - 1 := by rw [IntKind.wrap_i64]; omega
        have HS : Hid (0 ≤ val zs ∧ val zs < 9223372036854775808) := ⟨hz0, hs⟩
        clear hs hz0 vz
        go_wp2
        refine bodyPost_ret (v := .tuple #[.int .i64 (-(val zs) - 1), .bool true]) (by simp [results, Tryz.results15, go_sem]) rfl ?_
        have h5 := HS.out
        have h6 := hz.out
        have h7 : sg true (val ns) = -(val ns) := by simp [sg]
        exact ⟨_, _, rfl, Or.inl ⟨rfl, HP.out, by rw [h7]; omega, by rw [h7]; omega, by rw [h7]; omega⟩, tt⟩
      · rw [smallV_ge (by omega)]
        have HS : Hid (¬ val zs < 9223372036854775808) := hs
        clear hs hz0 vz
        go_wp2
        refine bodyPost_ret (v := .tuple #[.int .i64 0, .bool false]) (by simp [results, Tryz.results15, go_sem]) rfl ?_
        have h5 := HS.out
        have h6 := hz.out
        have h7 : sg true (val ns) = -(val ns) := by simp [sg]
        exact ⟨_, _, rfl, Or.inr ⟨rfl, rfl, fun h => by rw [h7] at h; omega⟩, tt⟩
end
end Go.Proofs.YtidbebfendjnlaaGreatDoor

/- The document's Sign, OfInt, IsInt. -/
namespace Go.Proofs.YtidbebfendjnlaaGreatDoor
set_option linter.unusedVariables false
set_option linter.unusedSimpArgs false
open Go.RowKit

theorem refOf_num (n : Int) (h0 : 0 ≤ n) (h1 : n < 18446744073709551616) (w : World) : Calls Tryz.prog 73 #[.int .u64 n] w fun e w' => ∃ ns, can ns ∧ Hid (val ns = n) ∧ ns.length ≤ 2 ∧ Makes w e w' ns := by
  refine (refOf_any n h0 h1 w).mono ?_
  intro e w' h
  have hc := of_can n h0 h1
  exact ⟨_, hc.1, hc.2.1, hc.2.2, h⟩

section
variable {w : World} {bx : Bool} {a1 a2 : Option Addr} {c1 c2 : Nat} {xn xd : List Int}
set_option maxRecDepth 100000 in
set_option maxHeartbeats 1600000 in
theorem refSign_rat (h1 : Rd w.heap.size w (.slice a1 xn.length c1) xn) (h2 : Rd w.heap.size w (.slice a2 xd.length c2) xd) :
    Calls Tryz.prog 21 #[.agg #[.bool bx, .slice a1 xn.length c1, .slice a2 xd.length c2]] w fun e w' => Below w.heap.size w w' ∧ Signs (RightP bx xn xd) bx xn e := by
  have X := nvar_new (b := bx) h1 h2
  have b0 := below_alloc w (.cells #[.bool bx, .slice a1 xn.length c1, .slice a2 xd.length c2] 25)
  obtain ⟨k0, k1, k2⟩ := X.cells
  go_enter Tryz.func21, Tryz.ntmps21
  go_wp2_with fail
  clear k0 k1 k2
  generalize hA : w.alloc (.cells #[.bool bx, .slice a1 xn.length c1, .slice a2 xd.length c2] 25) = v at *
  clear hA
  refine (refRight_rat X.rn X.rd).mono ?_
  rintro e wa ⟨⟨r, rfl, hr⟩, ba⟩
  replace X := X.below ba
  have g1 : Below w.heap.size w wa := b0.trans (ba.mono b0.size)
  obtain ⟨k0, k1, k2⟩ := X.cells
  cases r with
  | false =>
    have HP : Hid (¬ RightP bx xn xd) := fun h => by have := hr.2 h; cases this
    clear hr
    go_wp2
    go_ret
    exact ⟨g1, 0, rfl, fun _ => rfl, fun h => absurd h HP.out⟩
  | true =>
    have HP : Hid (RightP bx xn xd) := hr.1 rfl
    clear hr
    by_cases h0 : 0 < xn.length
    · have hb : ((xn.length : Int) == 0) = false := by rw [beq_eq_false_iff_ne]; omega
      have HV : Hid (0 < val xn) := by
        have h5 := can_low HP.out.2.2.1 h0
        have h6 := pw_pos (xn.length - 1)
        unfold Hid; omega
      cases bx with
      | false =>
        go_wp2
        go_ret
        exact ⟨g1, 1, rfl, fun h => absurd HP.out h, fun _ => (cmpI_gt (by have := HV.out; simpa [sg] using this)).symm⟩
      | true =>
        go_wp2
        go_ret
        exact ⟨g1, -1, rfl, fun h => absurd HP.out h, fun _ => (cmpI_lt (by have := HV.out; simp [sg]; omega)).symm⟩
    · have hb : ((xn.length : Int) == 0) = true := by rw [beq_iff_eq]; omega
      have HV : Hid (val xn = 0) := (can_zero HP.out.2.2.1).1 (by omega)
      go_wp2
      go_ret
      exact ⟨g1, 0, rfl, fun h => absurd HP.out h, fun _ => (cmpI_eq (by rw [HV.out, sg_zero])).symm⟩
end

set_option maxRecDepth 100000 in
set_option maxHeartbeats 3200000 in
theorem refOfInt_any (k : Int) (h0 : -9223372036854775808 ≤ k) (h1 : k < 9223372036854775808) (w : World) : Calls Tryz.prog 19 #[.int .i64 k] w fun e w' => WholeNum w k e w' := by
  have R := rvar_new w
  have g := below_alloc w (.cells #[.bool false, .slice none 0 0, .slice none 0 0] 25)
  go_enter Tryz.func19, Tryz.ntmps19
  by_cases hk : k < 0
  · have hkb : decide (k < 0) = true := decide_eq_true hk
    have hw : IntKind.u64.wrap (-IntKind.u64.wrap k) = -k := by rw [IntKind.wrap_u64, IntKind.wrap_u64]; omega
    go_wp2_with fail
    generalize hA : w.alloc (.cells #[.bool false, .slice none 0 0, .slice none 0 0] 25) = v at *
    clear hA
    refine (refOf_num (-k) (by omega) (by omega) _).mono ?_
    rintro e wa ⟨ns, cn, vn, ln, x1, y1, rfl, o1, ka⟩
    go_wp2_with fail
    refine (refOne_any _).mono ?_
    rintro e wb ⟨ds, x2, y2, HD, rfl, o2, kb⟩
    have t : Below v.heap.size v wb := ka.trans (kb.mono ka.size)
    have Rb := R.below t
    have q0 := Rb.box.c0
    have q1 := Rb.box.c1
    have q2 := Rb.box.c2
    have p0 := Rb.box.f0
    have p1 := Rb.box.f1
    have p2 := Rb.box.f2
    go_wp2
    have hR3 := Rb.box.set (.bool true) (.slice x1 ns.length y1) (.slice x2 ds.length y2)
    have r0 := hR3.c0
    have r1 := hR3.c1
    have r2 := hR3.c2
    refine bodyPost_ret (v := .agg #[.bool true, .slice x1 ns.length y1, .slice x2 ds.length y2]) (by simp [results, Tryz.results19, go_sem, r0, r1, r2]) rfl ?_
    exact ⟨Below.set3 (g.trans (t.mono g.size)) (Nat.le_refl _) _ _ _, true, ns, ds, x1, y1, x2, y2, ⟨hkb.symm, cn, by rw [vn.out, if_pos hk], ln, HD.out⟩, rfl, (Own.set3 (o1.below kb (Nat.le_refl _)) R.lt _ _ _).mono g.size, (Own.set3 (o2.mono ka.size) R.lt _ _ _).mono g.size⟩
  · have hkb : decide (k < 0) = false := decide_eq_false hk
    go_wp2_with fail
    generalize hA : w.alloc (.cells #[.bool false, .slice none 0 0, .slice none 0 0] 25) = v at *
    clear hA
    refine (refOf_num k (by omega) (by omega) _).mono ?_
    rintro e wa ⟨ns, cn, vn, ln, x1, y1, rfl, o1, ka⟩
    go_wp2_with fail
    refine (refOne_any _).mono ?_
    rintro e wb ⟨ds, x2, y2, HD, rfl, o2, kb⟩
    have t : Below v.heap.size v wb := ka.trans (kb.mono ka.size)
    have Rb := R.below t
    have q0 := Rb.box.c0
    have q1 := Rb.box.c1
    have q2 := Rb.box.c2
    have p0 := Rb.box.f0
    have p1 := Rb.box.f1
    have p2 := Rb.box.f2
    go_wp2
    have hR3 := Rb.box.set (.bool false) (.slice x1 ns.length y1) (.slice x2 ds.length y2)
    have r0 := hR3.c0
    have r1 := hR3.c1
    have r2 := hR3.c2
    refine bodyPost_ret (v := .agg #[.bool false, .slice x1 ns.length y1, .slice x2 ds.length y2]) (by simp [results, Tryz.results19, go_sem, r0, r1, r2]) rfl ?_
    exact ⟨Below.set3 (g.trans (t.mono g.size)) (Nat.le_refl _) _ _ _, false, ns, ds, x1, y1, x2, y2, ⟨hkb.symm, cn, by rw [vn.out, if_neg (by omega)], ln, HD.out⟩, rfl, (Own.set3 (o1.below kb (Nat.le_refl _)) R.lt _ _ _).mono g.size, (Own.set3 (o2.mono ka.size) R.lt _ _ _).mono g.size⟩

theorem one_cmp {ds os : List Int} (ho : os = [1]) (cd : can ds) : cmpI (val ds) (val os) = 0 ↔ ds = [1] := by
  subst ho
  rw [cmpI_zero', one_val]
  constructor
  · intro h
    exact can_inj cd can_one (by rw [h, one_val])
  · rintro rfl
    exact one_val
section
variable {w : World} {b : Bool} {a1 a2 : Option Addr} {c1 c2 : Nat} {ns ds : List Int}
set_option maxRecDepth 100000 in
set_option maxHeartbeats 3200000 in
theorem refIsInt_rat (h1 : Rd w.heap.size w (.slice a1 ns.length c1) ns) (h2 : Rd w.heap.size w (.slice a2 ds.length c2) ds) :
    Calls Tryz.prog 23 #[.agg #[.bool b, .slice a1 ns.length c1, .slice a2 ds.length c2]] w fun e w' => TellsP (IsWhole b ns ds) e ∧ Below w.heap.size w w' := by
  have X := nvar_new (b := b) h1 h2
  have g := below_alloc w (.cells #[.bool b, .slice a1 ns.length c1, .slice a2 ds.length c2] 25)
  obtain ⟨x0, x1, x2⟩ := X.cells
  go_enter Tryz.func23, Tryz.ntmps23
  go_wp2_with fail
  clear x0 x1 x2
  generalize hA : w.alloc (.cells #[.bool b, .slice a1 ns.length c1, .slice a2 ds.length c2] 25) = v at *
  clear hA
  obtain ⟨x0, x1, x2⟩ := X.cells
  have hcells : ∀ {w' : World}, Below v.heap.size v w' → w'.cell? ⟨w.heap.size, 0, none⟩ = some (.bool b) ∧ w'.cell? ⟨w.heap.size, 1, none⟩ = some (.slice a1 ns.length c1) ∧ w'.cell? ⟨w.heap.size, 2, none⟩ = some (.slice a2 ds.length c2) := fun hb => (X.below hb).cells
  by_cases hP : RightP b ns ds
  · have HP : Hid (RightP b ns ds) := hP
    clear hP
    have l2 : ds.length * 4 ≤ 140737488355328 := by have := HP.out.2.1; omega
    go_region_held3 (fun w' => w'.cell? ⟨w.heap.size, 0, none⟩ = some (.bool b) ∧ w'.cell? ⟨w.heap.size, 1, none⟩ = some (.slice a1 ns.length c1) ∧ w'.cell? ⟨w.heap.size, 2, none⟩ = some (.slice a2 ds.length c2))
      (first | (go_keep; done) | exact tw | exact tw2 | exact tw3)
      (first
        | (go_at_call 14; refine (refRight_rat (w := v.drew) X.rn X.rd).mono ?_; rintro e wa ⟨⟨r, rfl, hr⟩, ka'⟩; obtain rfl : r = true := hr.2 HP.out; have ka : Below v.heap.size v wa := below_undrew (w := v) (B := v.heap.size) ka'; have tw := hcells ka; clear hr)
        | (have j := tw; go_at_call 66; refine (refOne_any _).mono ?_; rintro e wb ⟨os, x5, y5, HO, rfl, o5, kb⟩; have tb : Below v.heap.size v wb := ka.trans (kb.mono ka.size); have tw2 := hcells tb; have lo : os.length * 4 ≤ 140737488355328 := (by rw [HO.out]; decide))
        | (have j := tw2; go_at_call 65; refine (refCompare_rd (X.below tb).rd o5.rd (Nat.le_refl _) l2 lo).mono ?_; rintro e wc ⟨rfl, kc⟩; have tc : Below v.heap.size v wc := tb.trans (kc.mono tb.size); have tw3 := hcells tc; have hq : Hid (cmpI (val ds) (val os) = 0 ↔ ds = [1]) := (one_cmp HO.out HP.out.2.2.2.1)))
    by_cases hone : ds = [1]
    · have HD : Hid (ds = [1]) := hone
      have hqb : (cmpI (val ds) (val os) == 0) = true := by rw [beq_iff_eq]; exact hq.out.2 hone
      clear hone
      go_wp2
      go_ret
      exact ⟨⟨_, rfl, ⟨fun _ => ⟨HP.out, HD.out⟩, fun _ => hqb⟩⟩, g.trans (tc.mono g.size)⟩
    · have HD : Hid (¬ ds = [1]) := hone
      have hqb : (cmpI (val ds) (val os) == 0) = false := by rw [beq_eq_false_iff_ne]; exact fun h => hone (hq.out.1 h)
      clear hone
      go_wp2
      go_ret
      exact ⟨⟨_, rfl, ⟨fun h => absurd (h.symm.trans hqb) (by decide), fun h => absurd h.2 HD.out⟩⟩, g.trans (tc.mono g.size)⟩
  · have HP : Hid (¬ RightP b ns ds) := hP
    clear hP
    first
    | go_region_with (first
        | (go_at_call 14; refine (refRight_rat (w := v.drew) X.rn X.rd).mono ?_; rintro e wa ⟨⟨r, rfl, hr⟩, ka'⟩; have hrf : r = false := (by cases r with | false => rfl | true => exact absurd (hr.1 rfl) HP.out); subst hrf; have ka : Below v.heap.size v wa := below_undrew (w := v) (B := v.heap.size) ka'; have tw := hcells ka; clear hr))
    | fail
    all_goals
      go_wp2
      go_ret
      exact ⟨TellsP.no (fun h => HP.out h.1), g.trans (ka.mono g.size)⟩
end
end Go.Proofs.YtidbebfendjnlaaGreatDoor

/- ref01.Same of any two lists. -/
namespace Go.Proofs.YtidbebfendjnlaaGreatDoor
set_option linter.unusedVariables false
set_option linter.unusedSimpArgs false
open Go.RowKit

set_option maxHeartbeats 1600000 in
theorem same_no (b1 o1 c1 b2 o2 c2 n : Nat) (xs ys : List Int) (w : World) (hb : n ≤ 9223372036854775807)
    (k1 : ∀ j, j < n → w.cell? ⟨b1, o1 + j, none⟩ = some (.int .u32 (xs.getD j 0)))
    (k2 : ∀ j, j < n → w.cell? ⟨b2, o2 + j, none⟩ = some (.int .u32 (ys.getD j 0))) (hne : ¬ ∀ j, j < n → xs.getD j 0 = ys.getD j 0) :
    Calls Tryz.prog 70 #[.slice (some ⟨b1, o1, none⟩) n c1, .slice (some ⟨b2, o2, none⟩) n c2] w fun e w' => e = .returned (.bool false) ∧ Below w.heap.size w w' := by
  have K1 : Hid (∀ j, j < n → w.cell? ⟨b1, o1 + j, none⟩ = some (.int .u32 (xs.getD j 0))) := k1
  have K2 : Hid (∀ j, j < n → w.cell? ⟨b2, o2 + j, none⟩ = some (.int .u32 (ys.getD j 0))) := k2
  have HN : Hid (¬ ∀ j, j < n → xs.getD j 0 = ys.getD j 0) := hne
  clear k1 k2 hne
  go_enter Tryz.func70, Tryz.ntmps70
  go_wp2
  go_loopw [5] (fun s wr => (∃ q, wr = w.drewN q) ∧ ∃ j : Nat, j ≤ n ∧ s = .int .i64 j ∧ Hid (∀ i, i < j → xs.getD i 0 = ys.getD i 0)) (fun s _ => n - (intOf s).toNat)
  case atStart => exact ⟨⟨0, rfl⟩, 0, Nat.zero_le _, rfl, fun i hi => by omega⟩
  case round =>
    obtain ⟨⟨q, rfl⟩, j, hj, rfl, HE⟩ := hrel
    by_cases hlt : j < n
    · have g1 := K1.out j hlt
      have g2 := K2.out j hlt
      by_cases hpp : xs.getD j 0 = ys.getD j 0
      · have HE2 : Hid (∀ i, i < j + 1 → xs.getD i 0 = ys.getD i 0) := by
          intro i hi
          by_cases h : i = j
          · subst h; exact hpp
          · exact HE.out i (by omega)
        rw [← hpp] at g2
        clear hpp
        generalize xs.getD j 0 = p at *
        go_wp2
        go_quiet (fail)
        go_wp2
        go_roundw
        case rel => exact ⟨⟨_, rfl⟩, j + 1, by omega, by go_num, HE2⟩
        case measure => simp [intOf]; omega
      · generalize xs.getD j 0 = p at *
        generalize ys.getD j 0 = p' at *
        have hpb : (p != p') = true := by rw [bne_iff_ne]; exact hpp
        have hpc : (p == p') = false := by rw [beq_eq_false_iff_ne]; exact hpp
        go_wp2
        go_quiet (fail)
        go_wp2
        go_ret
        exact ⟨rfl, below_drewN' (below_drewN' (Below.refl _ _) _) _⟩
    · exact absurd (fun i hi => HE.out i (by omega)) HN.out

set_option maxHeartbeats 800000 in
theorem same_len (a1 a2 : Option Addr) (n m c1 c2 : Nat) (w : World) (h : ¬ n = m) :
    Calls Tryz.prog 70 #[.slice a1 n c1, .slice a2 m c2] w fun e w' => e = .returned (.bool false) ∧ w = w' := by
  have hb : ((n : Int) != (m : Int)) = true := by rw [bne_iff_ne]; omega
  have hc : ((n : Int) == (m : Int)) = false := by rw [beq_eq_false_iff_ne]; omega
  go_enter Tryz.func70, Tryz.ntmps70
  go_wp2
  go_ret
  exact ⟨rfl, rfl⟩

theorem refSame_any {B B' : Nat} {w : World} {v1 v2 : Value} {xs ys : List Int} (h1 : Rd B w v1 xs) (h2 : Rd B' w v2 ys) :
    Calls Tryz.prog 70 #[v1, v2] w fun e w' => e = .returned (.bool (decide (xs = ys))) ∧ Below w.heap.size w w' := by
  by_cases hxy : xs = ys
  · subst hxy
    rw [decide_eq_true rfl]
    exact same_rd h1 h2
  · rw [decide_eq_false hxy]
    obtain ⟨_, a1, c1, rfl, i1, j1, _, f1⟩ := h1
    obtain ⟨_, a2, c2, rfl, i2, j2, _, f2⟩ := h2
    by_cases hl : xs.length = ys.length
    · by_cases h0 : xs.length = 0
      · exact absurd ((List.length_eq_zero_iff.1 h0).trans (List.length_eq_zero_iff.1 (hl ▸ h0)).symm) hxy
      · rcases f1 with f1 | ⟨b1, o1, rfl, _, k1⟩
        · exact absurd f1 h0
        rcases f2 with f2 | ⟨b2, o2, rfl, _, k2⟩
        · exact absurd (hl.trans f2) h0
        rw [← hl]
        refine (same_no b1 o1 c1 b2 o2 c2 xs.length xs ys w (by omega) k1 (fun j hj => k2 j (by omega)) ?_).mono ?_
        · intro h
          refine hxy (List.ext_getElem hl fun i h1 h2 => ?_)
          have := h i h1
          simpa [List.getD, h1, h2] using this
        · exact fun e w' h => h
    · refine (same_len a1 a2 xs.length ys.length c1 c2 w hl).mono ?_
      rintro e w' ⟨rfl, rfl⟩
      exact ⟨rfl, Below.refl _ _⟩
end Go.Proofs.YtidbebfendjnlaaGreatDoor

/- The document's ToInt. -/
namespace Go.Proofs.YtidbebfendjnlaaGreatDoor
set_option linter.unusedVariables false
set_option linter.unusedSimpArgs false
open Go.RowKit

theorem least_can : can [0, 2147483648] := by
  refine ⟨?_, Or.inr (by decide)⟩
  intro x hx
  rcases List.mem_cons.1 hx with rfl | hx
  · omega
  · rcases List.mem_cons.1 hx with rfl | hx
    · omega
    · cases hx
theorem least_rd (w : World) : Rd (w.alloc (.cells #[.int .u32 0, .int .u32 2147483648] 62)).heap.size (w.alloc (.cells #[.int .u32 0, .int .u32 2147483648] 62)) (.slice (some ⟨w.heap.size, 0, none⟩) 2 2) [0, 2147483648] := by
  refine ⟨least_can.1, some ⟨w.heap.size, 0, none⟩, 2, rfl, by simp, by omega, (fun h => by cases h), Or.inr ⟨w.heap.size, 0, rfl, by simp, fun j hj => ?_⟩⟩
  have hh := heap_alloc_new w (.cells #[.int .u32 0, .int .u32 2147483648] 62)
  match j, hj with
  | 0, _ => unfold World.cell?; dsimp only; rw [hh]; rfl
  | 1, _ => unfold World.cell?; dsimp only; rw [hh]; rfl
section
variable {w : World} {b : Bool} {a1 a2 : Option Addr} {c1 c2 : Nat} {ns ds : List Int}
set_option maxRecDepth 100000 in
set_option maxHeartbeats 8000000 in
theorem refToInt_rat (h1 : Rd w.heap.size w (.slice a1 ns.length c1) ns) (h2 : Rd w.heap.size w (.slice a2 ds.length c2) ds) :
    Calls Tryz.prog 16 #[.agg #[.bool b, .slice a1 ns.length c1, .slice a2 ds.length c2]] w fun e w' => ∃ n ok, e = .returned (.tuple #[.int .i64 n, .bool ok]) ∧ Hid (IntTold (IsWhole b ns ds) (sg b (val ns)) n ok) ∧ Below w.heap.size w w' := by
  have X := nvar_new (b := b) h1 h2
  have g := below_alloc w (.cells #[.bool b, .slice a1 ns.length c1, .slice a2 ds.length c2] 25)
  obtain ⟨x0, x1, x2⟩ := X.cells
  go_enter Tryz.func16, Tryz.ntmps16
  go_wp2_with fail
  clear x0 x1 x2
  generalize hA : w.alloc (.cells #[.bool b, .slice a1 ns.length c1, .slice a2 ds.length c2] 25) = v at *
  clear hA
  refine (refIsInt_rat X.rn X.rd).mono ?_
  rintro e wa ⟨⟨r, rfl, hr⟩, ka⟩
  replace X := X.below ka
  replace g := g.trans (ka.mono g.size)
  clear ka
  obtain ⟨x0, x1, x2⟩ := X.cells
  cases r with
  | false =>
    have HP : Hid (¬ IsWhole b ns ds) := fun h => by have := hr.2 h; cases this
    clear hr
    go_wp2
    refine bodyPost_ret (v := .tuple #[.int .i64 0, .bool false]) (by simp [results, Tryz.results16, go_sem]) rfl ?_
    exact ⟨0, false, rfl, Or.inr ⟨rfl, rfl, fun h => HP.out h.1⟩, g⟩
  | true =>
    have HP : Hid (IsWhole b ns ds) := hr.1 rfl
    clear hr
    have l1 : ns.length ≤ 17592186044415 := Nat.le_trans HP.out.1.1 (by decide)
    have HN : Hid (0 ≤ val ns) := (right_pos HP.out.1).2
    cases b with
    | false =>
      go_wp2_with fail
      refine (refSmall_any X.rn l1).mono ?_
      rintro e wb ⟨rfl, kb⟩
      replace X := X.below kb
      replace g := g.trans (kb.mono g.size)
      obtain ⟨x0, x1, x2⟩ := X.cells
      by_cases hs : val ns < 9223372036854775808
      · rw [smallV_lt hs]
        have HS : Hid (val ns < 9223372036854775808) := hs
        clear hs
        go_wp2
        refine bodyPost_ret (v := .tuple #[.int .i64 (val ns), .bool true]) (by simp [results, Tryz.results16, go_sem]) rfl ?_
        exact ⟨_, _, rfl, Or.inl ⟨rfl, HP.out, by rw [sg_false]; have := HN.out; omega, by rw [sg_false]; exact HS.out, rfl⟩, g⟩
      · rw [smallV_ge (by omega)]
        have HS : Hid (¬ val ns < 9223372036854775808) := hs
        clear hs
        go_wp2
        refine bodyPost_ret (v := .tuple #[.int .i64 0, .bool false]) (by simp [results, Tryz.results16, go_sem]) rfl ?_
        exact ⟨_, _, rfl, Or.inr ⟨rfl, rfl, fun h => by have h5 := HS.out; have h6 := h.2.2; rw [sg_false] at h6; omega⟩, g⟩
    | true =>
      have hy : Rd (wa.alloc (.cells #[.int .u32 0, .int .u32 2147483648] 62)).heap.size (wa.alloc (.cells #[.int .u32 0, .int .u32 2147483648] 62)) (.slice (some ⟨wa.heap.size, 0, none⟩) 2 2) [0, 2147483648] := least_rd wa
      have hk := below_alloc wa (.cells #[.int .u32 0, .int .u32 2147483648] 62)
      have X' := X.below hk
      go_wp2_with fail
      refine (refSame_any X'.rn hy).mono ?_
      rintro e wb ⟨rfl, kb⟩
      replace kb := hk.trans (kb.mono hk.size)
      replace X := X.below kb
      replace g := g.trans (kb.mono g.size)
      clear X' hy hk kb
      have h7 : sg true (val ns) = -(val ns) := by simp [sg]
      by_cases hq : ns = [0, 2147483648]
      · have HQ : Hid (val ns = 9223372036854775808) := by unfold Hid; rw [hq]; decide
        rw [decide_eq_true hq]
        clear hq
        go_wp2
        refine bodyPost_ret (v := .tuple #[.int .i64 (-9223372036854775808), .bool true]) (by simp [results, Tryz.results16, go_sem]) rfl ?_
        have h8 := HQ.out
        exact ⟨_, _, rfl, Or.inl ⟨rfl, HP.out, by rw [h7]; omega, by rw [h7]; omega, by rw [h7]; omega⟩, g⟩
      · have HQ : Hid (¬ val ns = 9223372036854775808) := fun h => hq (can_inj HP.out.1.2.2.1 least_can (by rw [h]; decide))
        rw [decide_eq_false hq]
        clear hq
        obtain ⟨x0, x1, x2⟩ := X.cells
        go_wp2_with fail
        clear x0 x1 x2
        refine (refSmall_any X.rn l1).mono ?_
        rintro e wc ⟨rfl, kc⟩
        replace X := X.below kc
        replace g := g.trans (kc.mono g.size)
        obtain ⟨x0, x1, x2⟩ := X.cells
        by_cases hs : val ns < 9223372036854775808
        · rw [smallV_lt hs]
          have HS : Hid (val ns < 9223372036854775808) := hs
          have hw1 : IntKind.i64.wrap (-(val ns)) = -(val ns) := by rw [IntKind.wrap_i64]; have := HN.out; omega
          clear hs
          go_wp2
          refine bodyPost_ret (v := .tuple #[.int .i64 (-(val ns)), .bool true]) (by simp [results, Tryz.results16, go_sem]) rfl ?_
          have h8 := HS.out
          have h9 := HN.out
          exact ⟨_, _, rfl, Or.inl ⟨rfl, HP.out, by rw [h7]; omega, by rw [h7]; omega, by rw [h7]⟩, g⟩
        · rw [smallV_ge (by omega)]
          have HS : Hid (¬ val ns < 9223372036854775808) := hs
          clear hs
          go_wp2
          refine bodyPost_ret (v := .tuple #[.int .i64 0, .bool false]) (by simp [results, Tryz.results16, go_sem]) rfl ?_
          have h8 := HS.out
          have h9 := HQ.out
          exact ⟨_, _, rfl, Or.inr ⟨rfl, rfl, fun h => by have h6 := h.2.1; rw [h7] at h6; omega⟩, g⟩
end
end Go.Proofs.YtidbebfendjnlaaGreatDoor

/- The walk over RatInts: whole numbers are told as ints. -/
namespace Go.Proofs.YtidbebfendjnlaaGreatDoor
set_option linter.unusedVariables false
set_option linter.unusedSimpArgs false
open Go.RowKit

theorem WholeIs.unique {k : Int} {b c : Bool} {ns ds ms es : List Int} (h : WholeIs k b ns ds) (h' : WholeIs k c ms es) : c = b ∧ ms = ns ∧ es = ds := by
  obtain ⟨hb, cn, vn, _, hd⟩ := h
  obtain ⟨hb', cn', vn', _, hd'⟩ := h'
  exact ⟨by rw [hb, hb'], can_inj cn' cn (by rw [vn, vn']), by rw [hd, hd']⟩
theorem told_whole {k n : Int} {ok b : Bool} {ns ds : List Int} (h : WholeIs k b ns ds) (h0 : -9223372036854775808 ≤ k) (h1 : k < 9223372036854775808) (ht : IntTold (IsWhole b ns ds) (sg b (val ns)) n ok) : n = k ∧ ok = true := by
  have hs := h.sg
  rw [hs.1] at ht
  rcases ht with ⟨hk, _, _, _, hn⟩ | ⟨_, _, hno⟩
  · exact ⟨hn, hk⟩
  · exact absurd ⟨⟨h.right, h.2.2.2.2⟩, h0, h1⟩ hno
theorem signs_same {P : Prop} {b : Bool} {ns : List Int} {r s : Int} (h : Hid ((¬ P → r = 0) ∧ (P → r = cmpI (sg b (val ns)) 0))) (k : Hid ((¬ P → s = 0) ∧ (P → s = cmpI (sg b (val ns)) 0))) : s = r := by
  by_cases hP : P
  · rw [h.out.2 hP, k.out.2 hP]
  · rw [h.out.1 hP, k.out.1 hP]

theorem tabIs_drew' {w v : World} (h : Lib.TabIs Tryz.prog w "internal/strconv.uint64pow10" .u64 Lib.pow10Tab) (g : Below w.heap.size w v) : Lib.TabIs Tryz.prog v.drew "internal/strconv.uint64pow10" .u64 Lib.pow10Tab := tabIs_below (tabIs_below h g) (⟨rfl, rfl, rfl, Nat.le_refl _, fun _ _ => rfl⟩ : Below v.heap.size v v.drew)

set_option maxRecDepth 100000 in
set_option maxHeartbeats 32000000 in
theorem ratInts_walk {w : World} {n : Int} {bx : Bool} {a1 a2 : Option Addr} {c1 c2 : Nat} {xn xd : List Int} (n0 : -9223372036854775808 ≤ n ∧ n < 9223372036854775808) (h1 : Rd w.heap.size w (.slice a1 xn.length c1) xn) (h2 : Rd w.heap.size w (.slice a2 xd.length c2) xd) (htab : Lib.TabIs Tryz.prog w "internal/strconv.uint64pow10" .u64 Lib.pow10Tab) :
    Calls Tryz.prog 4 #[.int .i64 n, .agg #[.bool bx, .slice a1 xn.length c1, .slice a2 xd.length c2]] w fun e w' => e = .returned (.bool true) ∧ Below w.heap.size w w' := by
  have X := nvar_new (b := bx) h1 h2
  have g := below_alloc w (.cells #[.bool bx, .slice a1 xn.length c1, .slice a2 xd.length c2] 25)
  obtain ⟨m0, m1⟩ := n0
  clear h1 h2
  obtain ⟨X0, X1, X2⟩ := X.cells
  go_enter Tryz.func4, Tryz.ntmps4
  go_wp2_with fail
  clear X0 X1 X2
  generalize hA : (w.alloc (.cells #[.bool bx, .slice a1 xn.length c1, .slice a2 xd.length c2] 25)) = v1 at *
  clear hA
  refine (toInt_rat X.rn X.rd).mono ?_
  rintro e w1 ⟨p, ok, rfl, HT, k1⟩
  replace X := X.below k1
  replace g := g.trans (k1.mono g.size)
  obtain ⟨X0, X1, X2⟩ := X.cells
  go_wp2_with fail
  clear X0 X1 X2
  refine (refToInt_rat X.rn X.rd).mono ?_
  rintro e w2 ⟨q, fine, rfl, HT2, k2⟩
  obtain ⟨rfl, rfl⟩ := HT.out.unique HT2.out
  clear HT HT2
  replace X := X.below k2
  replace g := g.trans (k2.mono g.size)
  go_wp2_with fail
  refine (ofInt_any n m0 m1 _).mono ?_
  rintro e w3 ⟨k3, bo, on, od, o1, o2, o3, o4, HO, rfl, oo, oe⟩
  replace X := X.below k3
  replace g := g.trans (k3.mono g.size)
  go_wp2_with fail
  refine (toInt_rat oo.rd oe.rd).mono ?_
  rintro e w4 ⟨t, good, rfl, HT, k4⟩
  obtain ⟨rfl, rfl⟩ := told_whole HO.out m0 m1 HT.out
  clear HT HO oo oe
  replace X := X.below k4
  replace g := g.trans (k4.mono g.size)
  clear k1 k2 k3 k4
  have hcells : ∀ {w' : World}, Below w4.heap.size w4 w' → w'.cell? ⟨w.heap.size, 0, none⟩ = some (.bool bx) ∧ w'.cell? ⟨w.heap.size, 1, none⟩ = some (.slice a1 xn.length c1) ∧ w'.cell? ⟨w.heap.size, 2, none⟩ = some (.slice a2 xd.length c2) := fun hb => (X.below hb).cells
  obtain ⟨X0, X1, X2⟩ := X.cells
  have he1 : (q == q) = true := by simp
  have he2 : (fine == fine) = true := by simp
  have he3 : (t == t) = true := by simp
  go_wp2
  go_region_held3 (fun w' => w'.cell? ⟨w.heap.size, 0, none⟩ = some (.bool bx) ∧ w'.cell? ⟨w.heap.size, 1, none⟩ = some (.slice a1 xn.length c1) ∧ w'.cell? ⟨w.heap.size, 2, none⟩ = some (.slice a2 xd.length c2))
    (first | (go_keep; done) | exact tw1 | exact tw2 | exact tw3 | exact tw4 | exact tw5 | exact tw6 | exact tw7 | exact tw8)
    (first
      | (go_at_call 9; refine (live_rat _ (tabIs_drew' htab g)).mono ?_; rintro e u1 ⟨rfl, j1⟩; have t1 : Below w4.heap.size w4 u1 := below_undrew j1; have tw1 := hcells t1)
      | (have j := tw1; go_at_call 17; refine (ofInt_any t m0 m1 _).mono ?_; rintro e u2 ⟨j2, bp, pn, pd, p1, p2, p3, p4, HA, rfl, op, oq⟩; have t2 : Below w4.heap.size w4 u2 := t1.trans (j2.mono t1.size); have tw2 := hcells t2)
      | (have j := tw2; go_at_call 19; refine (refOfInt_any t m0 m1 _).mono ?_; rintro e u3 ⟨j3, br, rn, rd, r1, r2, r3, r4, HB, rfl, or, os⟩; obtain ⟨rfl, rfl, rfl⟩ := HA.out.unique HB.out; clear HB; have t3 : Below w4.heap.size w4 u3 := t2.trans (j3.mono t2.size); have tw3 := hcells t3; have P1 := (op.rd.below j3).mono j3.size; have P2 := (oq.rd.below j3).mono j3.size)
      | (have j := tw3; go_at_call 18; refine (same_rat P1 P2 or.rd os.rd).mono ?_; rintro e u4 ⟨rfl, j4⟩; have t4 : Below w4.heap.size w4 u4 := t3.trans (j4.mono t3.size); have tw4 := hcells t4)
      | (have j := tw4; go_at_call 20; refine (sign_rat (X.below t4).rn (X.below t4).rd).mono ?_; rintro e u5 ⟨j5, s1, rfl, HS1⟩; have t5 : Below w4.heap.size w4 u5 := t4.trans (j5.mono t4.size); have tw5 := hcells t5)
      | (have j := tw5; go_at_call 21; refine (refSign_rat (X.below t5).rn (X.below t5).rd).mono ?_; rintro e u6 ⟨j6, s2, rfl, HS2⟩; obtain rfl := signs_same HS1 HS2; clear HS1 HS2; have hss : (s2 == s2) = true := (by simp); have t6 : Below w4.heap.size w4 u6 := t5.trans (j6.mono t5.size); have tw6 := hcells t6)
      | (have j := tw6; go_at_call 22; refine (isInt_rat (X.below t6).rn (X.below t6).rd).mono ?_; rintro e u7 ⟨⟨i1, rfl, hi1⟩, j7⟩; have HI : Hid (i1 = true ↔ IsWhole bx xn xd) := hi1; clear hi1; have t7 : Below w4.heap.size w4 u7 := t6.trans (j7.mono t6.size); have tw7 := hcells t7)
      | (have j := tw7; go_at_call 23; refine (refIsInt_rat (X.below t7).rn (X.below t7).rd).mono ?_; rintro e u8 ⟨⟨i2, rfl, hi2⟩, j8⟩; have hii : i1 = i2 := Bool.eq_iff_iff.2 (HI.out.trans hi2.symm); subst hii; clear hi2 HI; have hib : (i1 == i1) = true := (by simp); have t8 : Below w4.heap.size w4 u8 := t7.trans (j8.mono t7.size); have tw8 := hcells t8))
  all_goals
    go_wp2
    go_ret
    exact ⟨rfl, g.trans (t8.mono g.size)⟩
end Go.Proofs.YtidbebfendjnlaaGreatDoor

/- The document's signed: a below or not, and b, together. -/
namespace Go.Proofs.YtidbebfendjnlaaGreatDoor
set_option linter.unusedVariables false
set_option linter.unusedSimpArgs false
open Go.RowKit

/-- Limbs and a sign are answered: together they are N. -/
def Signed (w : World) (N : Int) (L : Nat) (e : Ending) (w' : World) : Prop :=
  Below w.heap.size w w' ∧ ∃ zs a c b, e = .returned (.tuple #[.slice a zs.length c, .bool b]) ∧ can zs ∧ zs.length ≤ L ∧ Hid (sg b (val zs) = N) ∧ Own w.heap.size w' (.slice a zs.length c) zs

theorem cmp_ge {a b : Int} (h : b ≤ a) : decide (cmpI a b ≥ 0) = true := by
  rw [decide_eq_true_iff]; unfold cmpI; split
  · omega
  · split <;> omega
theorem cmp_nge {a b : Int} (h : a < b) : decide (cmpI a b ≥ 0) = false := by
  rw [decide_eq_false_iff_not, cmpI_lt h]; omega

section
variable {w : World} {b u : Bool} {a1 a2 : Option Addr} {c1 c2 : Nat} {xs ys : List Int}
set_option maxRecDepth 100000 in
set_option maxHeartbeats 3200000 in
theorem refSigned_any (h1 : Rd w.heap.size w (.slice a1 xs.length c1) xs) (h2 : Rd w.heap.size w (.slice a2 ys.length c2) ys) (L : Nat) (l1 : xs.length ≤ L) (l2 : ys.length ≤ L) (hL : L ≤ 1000000) (cx : can xs) (cy : can ys) :
    Calls Tryz.prog 90 #[.slice a1 xs.length c1, .bool b, .slice a2 ys.length c2, .bool u] w fun e w' => Signed w (sg b (val xs) + sg u (val ys)) (L + 1) e w' := by
  have HC : Hid (can xs ∧ can ys ∧ 0 ≤ val xs ∧ 0 ≤ val ys) := ⟨cx, cy, (val_bound cx.1).1, (val_bound cy.1).1⟩
  clear cx cy
  go_enter Tryz.func90, Tryz.ntmps90
  by_cases hbu : b = u
  · subst hbu
    have hbb : (b == b) = true := by simp
    go_wp2_with fail
    refine (refAdd_any h1 (Nat.le_refl _) h2 (Nat.le_refl _) (by omega) (by omega)).mono ?_
    rintro e wa ⟨zs, cz, vz, lz, a, c, rfl, o, k⟩
    have HV : Hid (sg b (val zs) = sg b (val xs) + sg b (val ys)) := by
      unfold Hid; rw [vz]; unfold sg; split <;> omega
    clear vz
    go_wp2
    refine bodyPost_ret (v := .tuple #[.slice a zs.length c, .bool b]) (by simp [results, Tryz.results90, go_sem]) rfl ?_
    exact ⟨k, zs, a, c, b, rfl, cz, by omega, HV, o⟩
  · have hbb : (b == u) = false := by rw [beq_eq_false_iff_ne]; exact hbu
    have HS : Hid (sg b (val xs) + sg u (val ys) = sg b (val xs - val ys) ∧ sg b (val xs) + sg u (val ys) = sg u (val ys - val xs)) := by
      unfold Hid sg
      cases b <;> cases u <;> simp at hbu ⊢ <;> omega
    clear hbu
    go_wp2_with fail
    refine (refCompare_rd h1 h2 (Nat.le_refl _) (by omega) (by omega)).mono ?_
    rintro e wa ⟨rfl, ka⟩
    replace h1 := (h1.below ka).mono ka.size
    replace h2 := (h2.below ka).mono ka.size
    by_cases hle : val ys ≤ val xs
    · have HL : Hid (val ys ≤ val xs) := hle
      have hcm := cmp_ge hle
      clear hle
      generalize hq : cmpI (val xs) (val ys) = q at *
      clear hq
      go_wp2_with fail
      refine (refMinus_any h1 (Nat.le_refl _) h2 (Nat.le_refl _) (by omega) (by omega)).mono ?_
      rintro e wb ⟨kb, hm⟩
      rw [if_neg (by have := HL.out; omega)] at hm
      obtain ⟨zs, a, c, cz, vz, rfl, oz⟩ := hm
      have lz : zs.length ≤ L := by
        have h5 := (can_len_pw HC.out.1 L).1 l1
        rw [can_len_pw cz, vz]
        have := HC.out
        omega
      have HV : Hid (sg b (val zs) = sg b (val xs) + sg u (val ys)) := by unfold Hid; rw [HS.out.1, vz]
      clear vz
      go_wp2
      refine bodyPost_ret (v := .tuple #[.slice a zs.length c, .bool b]) (by simp [results, Tryz.results90, go_sem]) rfl ?_
      exact ⟨ka.trans (kb.mono ka.size), zs, a, c, b, rfl, cz, by omega, HV, oz.mono ka.size⟩
    · have HL : Hid (val xs < val ys) := by unfold Hid; omega
      have hcm := cmp_nge HL.out
      clear hle
      generalize hq : cmpI (val xs) (val ys) = q at *
      clear hq
      go_wp2_with fail
      refine (refMinus_any h2 (Nat.le_refl _) h1 (Nat.le_refl _) (by omega) (by omega)).mono ?_
      rintro e wb ⟨kb, hm⟩
      rw [if_neg (by have := HL.out; omega)] at hm
      obtain ⟨zs, a, c, cz, vz, rfl, oz⟩ := hm
      have lz : zs.length ≤ L := by
        have h5 := (can_len_pw HC.out.2.1 L).1 l2
        rw [can_len_pw cz, vz]
        have := HC.out
        omega
      have HV : Hid (sg u (val zs) = sg b (val xs) + sg u (val ys)) := by unfold Hid; rw [HS.out.2, vz]
      clear vz
      go_wp2
      refine bodyPost_ret (v := .tuple #[.slice a zs.length c, .bool u]) (by simp [results, Tryz.results90, go_sem]) rfl ?_
      exact ⟨ka.trans (kb.mono ka.size), zs, a, c, u, rfl, cz, by omega, HV, oz.mono ka.size⟩
end
end Go.Proofs.YtidbebfendjnlaaGreatDoor

/- The document's Compare. -/
namespace Go.Proofs.YtidbebfendjnlaaGreatDoor
set_option linter.unusedVariables false
set_option linter.unusedSimpArgs false
open Go.RowKit

theorem signed_cmp {b : Bool} {zs : List Int} {A B : Int} (cz : can zs) (h : sg b (val zs) = A - B) : (zs.length = 0 → cmpI A B = 0) ∧ (¬ zs.length = 0 → b = true → cmpI A B = -1) ∧ (¬ zs.length = 0 → b = false → cmpI A B = 1) := by
  have hz := can_zero cz
  have hp := (val_bound cz.1).1
  refine ⟨fun h0 => ?_, fun h0 hb => ?_, fun h0 hb => ?_⟩
  · rw [hz.1 h0, sg_zero] at h; exact cmpI_eq (by omega)
  · subst hb
    have h1 : ¬ val zs = 0 := fun e => h0 (hz.2 e)
    have h2 : sg true (val zs) = -(val zs) := by simp [sg]
    exact cmpI_lt (by omega)
  · subst hb
    have h1 : ¬ val zs = 0 := fun e => h0 (hz.2 e)
    rw [sg_false] at h
    exact cmpI_gt (by omega)

section
variable {w : World} {bx cy : Bool} {a1 a2 a3 a4 : Option Addr} {c1 c2 c3 c4 : Nat} {xn xd yn yd : List Int}
set_option maxRecDepth 100000 in
set_option maxHeartbeats 16000000 in
theorem refCompare_rat (h1 : Rd w.heap.size w (.slice a1 xn.length c1) xn) (h2 : Rd w.heap.size w (.slice a2 xd.length c2) xd) (h3 : Rd w.heap.size w (.slice a3 yn.length c3) yn) (h4 : Rd w.heap.size w (.slice a4 yd.length c4) yd) :
    Calls Tryz.prog 42 #[.agg #[.bool bx, .slice a1 xn.length c1, .slice a2 xd.length c2], .agg #[.bool cy, .slice a3 yn.length c3, .slice a4 yd.length c4]] w fun e w' => Below w.heap.size w w' ∧ Compares (RightP bx xn xd ∧ RightP cy yn yd) (sg bx (val xn) * val yd) (sg cy (val yn) * val xd) e := by
  obtain ⟨X, Y, g⟩ := nvar_in2 (bx := bx) (cy := cy) h1 h2 h3 h4
  clear h1 h2 h3 h4
  obtain ⟨X0, X1, X2⟩ := X.cells
  go_enter Tryz.func42, Tryz.ntmps42
  go_wp2_with fail
  clear X0 X1 X2
  generalize hA : (w.alloc (.cells #[.bool bx, .slice a1 xn.length c1, .slice a2 xd.length c2] 25)).alloc (.cells #[.bool cy, .slice a3 yn.length c3, .slice a4 yd.length c4] 25) = v at *
  clear hA
  refine (refRight_rat X.rn X.rd).mono ?_
  rintro e wa ⟨⟨r, rfl, hr⟩, ka⟩
  replace X := X.below ka
  replace Y := Y.below ka
  replace g := g.trans (ka.mono g.size)
  clear ka
  cases r with
  | false =>
    have HP : Hid (¬ RightP bx xn xd) := fun h => by have := hr.2 h; cases this
    clear hr
    go_wp2
    go_ret
    exact ⟨g, 0, rfl, fun _ => rfl, fun h => absurd h.1 HP.out⟩
  | true =>
    have HX : Hid (RightP bx xn xd) := hr.1 rfl
    clear hr
    obtain ⟨Y0, Y1, Y2⟩ := Y.cells
    go_wp2_with fail
    clear Y0 Y1 Y2
    refine (refRight_rat Y.rn Y.rd).mono ?_
    rintro e wb ⟨⟨r, rfl, hr⟩, kb⟩
    replace X := X.below kb
    replace Y := Y.below kb
    replace g := g.trans (kb.mono g.size)
    clear kb
    cases r with
    | false =>
      have HP : Hid (¬ RightP cy yn yd) := fun h => by have := hr.2 h; cases this
      clear hr
      go_wp2
      go_ret
      exact ⟨g, 0, rfl, fun _ => rfl, fun h => absurd h.2 HP.out⟩
    | true =>
      have HY : Hid (RightP cy yn yd) := hr.1 rfl
      clear hr
      have l1 := HX.out.1
      have l2 := HX.out.2.1
      have l3 := HY.out.1
      have l4 := HY.out.2.1
      go_wp2
      have hcells : ∀ {w' : World}, Below wb.heap.size wb w' → w'.cell? ⟨w.heap.size, 0, none⟩ = some (.bool bx) ∧ w'.cell? ⟨w.heap.size, 1, none⟩ = some (.slice a1 xn.length c1) ∧ w'.cell? ⟨w.heap.size, 2, none⟩ = some (.slice a2 xd.length c2) ∧ w'.cell? ⟨(w.heap.size + 1), 0, none⟩ = some (.bool cy) ∧ w'.cell? ⟨(w.heap.size + 1), 1, none⟩ = some (.slice a3 yn.length c3) ∧ w'.cell? ⟨(w.heap.size + 1), 2, none⟩ = some (.slice a4 yd.length c4) := fun hb => ⟨(X.below hb).k0, (X.below hb).k1, (X.below hb).k2, (Y.below hb).k0, (Y.below hb).k1, (Y.below hb).k2⟩
      obtain ⟨s0, s1, s2, s3, s4, s5⟩ := hcells (Below.refl _ _)
      go_region_held3 (fun w' => w'.cell? ⟨w.heap.size, 0, none⟩ = some (.bool bx) ∧ w'.cell? ⟨w.heap.size, 1, none⟩ = some (.slice a1 xn.length c1) ∧ w'.cell? ⟨w.heap.size, 2, none⟩ = some (.slice a2 xd.length c2) ∧ w'.cell? ⟨(w.heap.size + 1), 0, none⟩ = some (.bool cy) ∧ w'.cell? ⟨(w.heap.size + 1), 1, none⟩ = some (.slice a3 yn.length c3) ∧ w'.cell? ⟨(w.heap.size + 1), 2, none⟩ = some (.slice a4 yd.length c4))
        (first | (go_keep; done) | exact tw1 | exact tw2 | exact tw3)
        (first
          | (go_at_call_of 84 (Value.slice a1 xn.length c1); refine (refMul_any (w := wb.drew) X.rn (Nat.le_refl _) Y.rd (Nat.le_refl _) (by omega) (by omega)).mono ?_; rintro e u1 ⟨zs, cz, vz, lz, z1, z2, rfl, oz, j1⟩; have t1 : Below wb.heap.size wb u1 := below_undrew (w := wb) (B := wb.heap.size) j1; have tw1 := hcells t1; have HZ : Hid (can zs ∧ val zs = val xn * val yd) := ⟨cz, vz⟩; clear vz cz; have lz2 : zs.length ≤ 65 := (by omega); clear lz)
          | (have j := tw1; go_at_call_of 84 (Value.slice a3 yn.length c3); refine (refMul_any (Y.below t1).rn (Nat.le_refl _) (X.below t1).rd (Nat.le_refl _) (by omega) (by omega)).mono ?_; rintro e u2 ⟨ts, ct, vt, lt, z3, z4, rfl, ot, j2⟩; have t2 : Below wb.heap.size wb u2 := t1.trans (j2.mono t1.size); have tw2 := hcells t2; have HT : Hid (can ts ∧ val ts = val yn * val xd) := ⟨ct, vt⟩; clear vt ct; have lt2 : ts.length ≤ 65 := (by omega); clear lt; have Z := (oz.rd.below j2).mono j2.size)
          | (have j := tw2; go_at_call 90; refine (refSigned_any Z ot.rd 65 lz2 lt2 (by decide) HZ.out.1 HT.out.1).mono ?_; rintro e u3 ⟨j3, ss, z5, z6, bs, rfl, cs, ls, hs, os⟩; have t3 : Below wb.heap.size wb u3 := t2.trans (j3.mono t2.size); have tw3 := hcells t3; have HS : Hid ((ss.length = 0 → cmpI (sg bx (val xn) * val yd) (sg cy (val yn) * val xd) = 0) ∧ (¬ ss.length = 0 → bs = true → cmpI (sg bx (val xn) * val yd) (sg cy (val yn) * val xd) = -1) ∧ (¬ ss.length = 0 → bs = false → cmpI (sg bx (val xn) * val yd) (sg cy (val yn) * val xd) = 1)) := (signed_cmp cs (by rw [hs.out, HZ.out.2, HT.out.2, sg_not, sg_mul, sg_mul]; omega)); clear hs))
      all_goals
        have gg := g.trans (t3.mono g.size)
        by_cases h0 : ss.length = 0
        · have hb0 : ((ss.length : Int) == 0) = true := by rw [beq_iff_eq]; omega
          go_wp2
          go_ret
          exact ⟨gg, 0, rfl, fun _ => rfl, fun _ => (HS.out.1 h0).symm⟩
        · have hb0 : ((ss.length : Int) == 0) = false := by rw [beq_eq_false_iff_ne]; omega
          cases bs with
          | true =>
            go_wp2
            go_ret
            exact ⟨gg, -1, rfl, fun h => absurd ⟨HX.out, HY.out⟩ h, fun _ => (HS.out.2.1 h0 (by trivial)).symm⟩
          | false =>
            go_wp2
            go_ret
            exact ⟨gg, 1, rfl, fun h => absurd ⟨HX.out, HY.out⟩ h, fun _ => (HS.out.2.2 h0 (by trivial)).symm⟩
end
end Go.Proofs.YtidbebfendjnlaaGreatDoor

/- The document's neg, Neg, Abs. -/
namespace Go.Proofs.YtidbebfendjnlaaGreatDoor
set_option linter.unusedVariables false
set_option linter.unusedSimpArgs false
open Go.RowKit
section
variable {w : World} {b : Bool} {a1 a2 : Option Addr} {c1 c2 : Nat} {ns ds : List Int}
set_option maxRecDepth 100000 in
set_option maxHeartbeats 8000000 in
theorem refNeg_num (h1 : Rd w.heap.size w (.slice a1 ns.length c1) ns) (h2 : Rd w.heap.size w (.slice a2 ds.length c2) ds) (l1 : ns.length ≤ 10000) (l2 : ds.length ≤ 10000) (C : Hid (can ns ∧ can ds)) :
    Calls Tryz.prog 82 #[.agg #[.bool b, .slice a1 ns.length c1, .slice a2 ds.length c2]] w fun e w' => NumAns w (!b && decide (0 < ns.length)) ns ds e w' := by
  obtain ⟨X, R, g⟩ := in1_new (b := b) w h1 h2
  have s0 : w.heap.size ≤ w.heap.size + 1 := by omega
  clear h1 h2
  obtain ⟨x0, x1, x2⟩ := X.cells
  go_enter Tryz.func82, Tryz.ntmps82
  go_wp2_with fail
  clear x0 x1 x2
  generalize hA : (w.alloc (.cells #[.bool b, .slice a1 ns.length c1, .slice a2 ds.length c2] 25)).alloc (.cells #[.bool false, .slice none 0 0, .slice none 0 0] 25) = v at *
  clear hA
  refine (refCopied_any X.rn X.rd l1 l2 C).mono ?_
  rintro e wb ⟨kb, z1, y1, z2, y2, rfl, on, od⟩
  have g0 := g
  have s1 : w.heap.size ≤ v.heap.size := g.size
  cases b with
  | true =>
    have kc := below_alloc wb (.cells #[.bool false, .slice z1 ns.length y1, .slice z2 ds.length y2] 25)
    have R2 := (R.below kb).below kc
    have q0 := R2.box.c0
    have q1 := R2.box.c1
    have q2 := R2.box.c2
    have p0 := R2.box.f0
    have p1 := R2.box.f1
    have p2 := R2.box.f2
    go_wp2
    have hR3 := R2.box.set (.bool false) (.slice z1 ns.length y1) (.slice z2 ds.length y2)
    have r0 := hR3.c0
    have r1 := hR3.c1
    have r2 := hR3.c2
    refine bodyPost_ret (v := .agg #[.bool false, .slice z1 ns.length y1, .slice z2 ds.length y2]) (by simp [results, Tryz.results82, go_sem, r0, r1, r2]) rfl ?_
    have hbb : (!true && decide (0 < ns.length)) = false := by simp
    rw [hbb]
    exact ⟨Below.set3 (g0.trans ((kb.trans (kc.mono kb.size)).mono s1)) s0 _ _ _, z1, y1, z2, y2, rfl, (Own.set3 (on.alloc _) R.lt _ _ _).mono s1, (Own.set3 (od.alloc _) R.lt _ _ _).mono s1⟩
  | false =>
    by_cases hl : 0 < ns.length
    · have hlb : decide (0 < (ns.length : Int)) = true := decide_eq_true (by omega)
      have hln : decide (0 < ns.length) = true := decide_eq_true hl
      have kc := below_alloc wb (.cells #[.bool true, .slice z1 ns.length y1, .slice z2 ds.length y2] 25)
      have R2 := (R.below kb).below kc
      have q0 := R2.box.c0
      have q1 := R2.box.c1
      have q2 := R2.box.c2
      have p0 := R2.box.f0
      have p1 := R2.box.f1
      have p2 := R2.box.f2
      go_wp2
      have hR3 := R2.box.set (.bool true) (.slice z1 ns.length y1) (.slice z2 ds.length y2)
      have r0 := hR3.c0
      have r1 := hR3.c1
      have r2 := hR3.c2
      refine bodyPost_ret (v := .agg #[.bool true, .slice z1 ns.length y1, .slice z2 ds.length y2]) (by simp [results, Tryz.results82, go_sem, r0, r1, r2]) rfl ?_
      have hbb : (!false && decide (0 < ns.length)) = true := by rw [hln]; rfl
      rw [hbb]
      exact ⟨Below.set3 (g0.trans ((kb.trans (kc.mono kb.size)).mono s1)) s0 _ _ _, z1, y1, z2, y2, rfl, (Own.set3 (on.alloc _) R.lt _ _ _).mono s1, (Own.set3 (od.alloc _) R.lt _ _ _).mono s1⟩
    · have hlb : decide (0 < (ns.length : Int)) = false := decide_eq_false (by omega)
      have hln : decide (0 < ns.length) = false := decide_eq_false hl
      have kc := below_alloc wb (.cells #[.bool false, .slice z1 ns.length y1, .slice z2 ds.length y2] 25)
      have R2 := (R.below kb).below kc
      have q0 := R2.box.c0
      have q1 := R2.box.c1
      have q2 := R2.box.c2
      have p0 := R2.box.f0
      have p1 := R2.box.f1
      have p2 := R2.box.f2
      go_wp2
      have hR3 := R2.box.set (.bool false) (.slice z1 ns.length y1) (.slice z2 ds.length y2)
      have r0 := hR3.c0
      have r1 := hR3.c1
      have r2 := hR3.c2
      refine bodyPost_ret (v := .agg #[.bool false, .slice z1 ns.length y1, .slice z2 ds.length y2]) (by simp [results, Tryz.results82, go_sem, r0, r1, r2]) rfl ?_
      have hbb : (!false && decide (0 < ns.length)) = false := by rw [hln]; rfl
      rw [hbb]
      exact ⟨Below.set3 (g0.trans ((kb.trans (kc.mono kb.size)).mono s1)) s0 _ _ _, z1, y1, z2, y2, rfl, (Own.set3 (on.alloc _) R.lt _ _ _).mono s1, (Own.set3 (od.alloc _) R.lt _ _ _).mono s1⟩
set_option maxRecDepth 100000 in
set_option maxHeartbeats 8000000 in
theorem refNeg_rat (h1 : Rd w.heap.size w (.slice a1 ns.length c1) ns) (h2 : Rd w.heap.size w (.slice a2 ds.length c2) ds) :
    Calls Tryz.prog 34 #[.agg #[.bool b, .slice a1 ns.length c1, .slice a2 ds.length c2]] w fun e w' => Gives w (RightP b ns ds) (-(sg b (val ns))) (val ds) e w' := by
  obtain ⟨X, R, g⟩ := in1_new (b := b) w h1 h2
  have s0 : w.heap.size ≤ w.heap.size + 1 := by omega
  clear h1 h2
  obtain ⟨x0, x1, x2⟩ := X.cells
  go_enter Tryz.func34, Tryz.ntmps34
  go_wp2_with fail
  clear x0 x1 x2
  generalize hA : (w.alloc (.cells #[.bool b, .slice a1 ns.length c1, .slice a2 ds.length c2] 25)).alloc (.cells #[.bool false, .slice none 0 0, .slice none 0 0] 25) = v at *
  clear hA
  refine (refRight_rat X.rn X.rd).mono ?_
  rintro e wa ⟨⟨r, rfl, hr⟩, ka⟩
  replace X := X.below ka
  replace R := R.below ka
  replace g := g.trans (ka.mono g.size)
  clear ka
  cases r with
  | false =>
    have HP : Hid (¬ RightP b ns ds) := fun h => by have := hr.2 h; cases this
    clear hr
    have q0 := R.box.c0
    have q1 := R.box.c1
    have q2 := R.box.c2
    have p0 := R.box.f0
    have p1 := R.box.f1
    have p2 := R.box.f2
    go_wp2
    have hR3 := R.box.set (.bool false) (.slice none 0 0) (.slice none 0 0)
    have r0 := hR3.c0
    have r1 := hR3.c1
    have r2 := hR3.c2
    refine bodyPost_ret (v := .tuple #[.agg #[.bool false, .slice none 0 0, .slice none 0 0], .int .i64 22]) (by simp [results, Tryz.results34, go_sem, r0, r1, r2]) rfl ?_
    exact gives_err HP.out (Below.set3 g s0 _ _ _)
  | true =>
    have HP : Hid (RightP b ns ds) := hr.1 rfl
    clear hr
    have l1 : ns.length ≤ 10000 := Nat.le_trans HP.out.1 (by decide)
    have l2 : ds.length ≤ 10000 := Nat.le_trans HP.out.2.1 (by decide)
    have C : Hid (can ns ∧ can ds) := ⟨HP.out.2.2.1, HP.out.2.2.2.1⟩
    obtain ⟨x0, x1, x2⟩ := X.cells
    go_wp2_with fail
    clear x0 x1 x2
    refine (refNeg_num X.rn X.rd l1 l2 C).mono ?_
    rintro e wb ⟨kb, z1, y1, z2, y2, rfl, on, od⟩
    have HB := right_with (!b) HP.out
    have R' := R
    replace R := R.below kb
    replace g := g.trans (kb.mono g.size)
    have q0 := R.box.c0
    have q1 := R.box.c1
    have q2 := R.box.c2
    have p0 := R.box.f0
    have p1 := R.box.f1
    have p2 := R.box.f2
    go_wp2
    have hR3 := R.box.set (.bool (!b && decide (0 < ns.length))) (.slice z1 ns.length y1) (.slice z2 ds.length y2)
    have r0 := hR3.c0
    have r1 := hR3.c1
    have r2 := hR3.c2
    refine bodyPost_ret (v := .tuple #[.agg #[.bool (!b && decide (0 < ns.length)), .slice z1 ns.length y1, .slice z2 ds.length y2], .int .i64 0]) (by simp [results, Tryz.results34, go_sem, r0, r1, r2]) rfl ?_
    exact gives_num HP.out (Below.set3 g s0 _ _ _) ((Own.set3 on R'.lt _ _ _).mono (Nat.le_trans s0 (Nat.le_of_lt R'.lt))) ((Own.set3 od R'.lt _ _ _).mono (Nat.le_trans s0 (Nat.le_of_lt R'.lt))) HB.1 (by rw [HB.2, sg_not])
set_option maxRecDepth 100000 in
set_option maxHeartbeats 8000000 in
theorem refAbs_rat (h1 : Rd w.heap.size w (.slice a1 ns.length c1) ns) (h2 : Rd w.heap.size w (.slice a2 ds.length c2) ds) :
    Calls Tryz.prog 36 #[.agg #[.bool b, .slice a1 ns.length c1, .slice a2 ds.length c2]] w fun e w' => Gives w (RightP b ns ds) (val ns) (val ds) e w' := by
  obtain ⟨X, R, g⟩ := in1_new (b := b) w h1 h2
  have s0 : w.heap.size ≤ w.heap.size + 1 := by omega
  clear h1 h2
  obtain ⟨x0, x1, x2⟩ := X.cells
  go_enter Tryz.func36, Tryz.ntmps36
  go_wp2_with fail
  clear x0 x1 x2
  generalize hA : (w.alloc (.cells #[.bool b, .slice a1 ns.length c1, .slice a2 ds.length c2] 25)).alloc (.cells #[.bool false, .slice none 0 0, .slice none 0 0] 25) = v at *
  clear hA
  refine (refRight_rat X.rn X.rd).mono ?_
  rintro e wa ⟨⟨r, rfl, hr⟩, ka⟩
  replace X := X.below ka
  replace R := R.below ka
  replace g := g.trans (ka.mono g.size)
  clear ka
  cases r with
  | false =>
    have HP : Hid (¬ RightP b ns ds) := fun h => by have := hr.2 h; cases this
    clear hr
    have q0 := R.box.c0
    have q1 := R.box.c1
    have q2 := R.box.c2
    have p0 := R.box.f0
    have p1 := R.box.f1
    have p2 := R.box.f2
    go_wp2
    have hR3 := R.box.set (.bool false) (.slice none 0 0) (.slice none 0 0)
    have r0 := hR3.c0
    have r1 := hR3.c1
    have r2 := hR3.c2
    refine bodyPost_ret (v := .tuple #[.agg #[.bool false, .slice none 0 0, .slice none 0 0], .int .i64 22]) (by simp [results, Tryz.results36, go_sem, r0, r1, r2]) rfl ?_
    exact gives_err HP.out (Below.set3 g s0 _ _ _)
  | true =>
    have HP : Hid (RightP b ns ds) := hr.1 rfl
    clear hr
    have l1 : ns.length ≤ 10000 := Nat.le_trans HP.out.1 (by decide)
    have l2 : ds.length ≤ 10000 := Nat.le_trans HP.out.2.1 (by decide)
    have C : Hid (can ns ∧ can ds) := ⟨HP.out.2.2.1, HP.out.2.2.2.1⟩
    obtain ⟨x0, x1, x2⟩ := X.cells
    go_wp2_with fail
    clear x0 x1 x2
    refine (refCopied_any X.rn X.rd l1 l2 C).mono ?_
    rintro e wb ⟨kb, z1, y1, z2, y2, rfl, on, od⟩
    have HB : RightP false ns ds := by have h := (right_with false HP.out).1; rw [Bool.false_and] at h; exact h
    have s1 : w.heap.size ≤ wa.heap.size := g.size
    have g0 := g
    have kc := below_alloc wb (.cells #[.bool false, .slice z1 ns.length y1, .slice z2 ds.length y2] 25)
    have R2 := (R.below kb).below kc
    have q0 := R2.box.c0
    have q1 := R2.box.c1
    have q2 := R2.box.c2
    have p0 := R2.box.f0
    have p1 := R2.box.f1
    have p2 := R2.box.f2
    go_wp2
    have hR3 := R2.box.set (.bool false) (.slice z1 ns.length y1) (.slice z2 ds.length y2)
    have r0 := hR3.c0
    have r1 := hR3.c1
    have r2 := hR3.c2
    refine bodyPost_ret (v := .tuple #[.agg #[.bool false, .slice z1 ns.length y1, .slice z2 ds.length y2], .int .i64 0]) (by simp [results, Tryz.results36, go_sem, r0, r1, r2]) rfl ?_
    exact gives_num HP.out (Below.set3 (g0.trans ((kb.trans (kc.mono kb.size)).mono s1)) s0 _ _ _) ((Own.set3 (on.alloc _) R.lt _ _ _).mono s1) ((Own.set3 (od.alloc _) R.lt _ _ _).mono s1) HB (by rw [sg_false])
end
end Go.Proofs.YtidbebfendjnlaaGreatDoor

/- The document's Floor: the whole number next to it. -/
namespace Go.Proofs.YtidbebfendjnlaaGreatDoor
set_option linter.unusedVariables false
set_option linter.unusedSimpArgs false
open Go.RowKit

theorem RMakes.from' {w0 w w' : World} {N D : Int} {e : Ending} (t : Below w0.heap.size w0 w) (h : RMakes w N D e w') : RMakes w0 N D e w' := by
  obtain ⟨hb, h⟩ := h
  refine ⟨t.trans (hb.mono t.size), ?_⟩
  rcases h with h | ⟨b, ns, ds, a1, c1, a2, c2, he, on, od, hr, hv⟩
  · exact Or.inl h
  · exact Or.inr ⟨b, ns, ds, a1, c1, a2, c2, he, on.mono t.size, od.mono t.size, hr, hv⟩

section
variable {w : World} {bx : Bool} {a1 a2 : Option Addr} {c1 c2 : Nat} {xn xd : List Int}
theorem in1_new' (w : World) (h1 : Rd w.heap.size w (.slice a1 xn.length c1) xn) (h2 : Rd w.heap.size w (.slice a2 xd.length c2) xd) :
    NVar ((w.alloc (.cells #[.bool bx, .slice a1 xn.length c1, .slice a2 xd.length c2] 25)).alloc (.cells #[.bool false, .slice none 0 0, .slice none 0 0] 25)) w.heap.size bx a1 xn c1 a2 xd c2 ∧ RVar ((w.alloc (.cells #[.bool bx, .slice a1 xn.length c1, .slice a2 xd.length c2] 25)).alloc (.cells #[.bool false, .slice none 0 0, .slice none 0 0] 25)) (w.heap.size + 1) ∧ Below w.heap.size w ((w.alloc (.cells #[.bool bx, .slice a1 xn.length c1, .slice a2 xd.length c2] 25)).alloc (.cells #[.bool false, .slice none 0 0, .slice none 0 0] 25)) := in1_new (b := bx) w h1 h2

set_option maxRecDepth 100000 in
set_option maxHeartbeats 8000000 in
theorem refFloor_whole (h1 : Rd w.heap.size w (.slice a1 xn.length c1) xn) (h2 : Rd w.heap.size w (.slice a2 xd.length c2) xd) :
    Calls Tryz.prog 40 #[.agg #[.bool bx, .slice a1 xn.length c1, .slice a2 xd.length c2]] w fun e w' => Gives w (RightP bx xn xd) (sg bx (wholeM bx (val xn) (val xd))) 1 e w' := by
  obtain ⟨X, R, g⟩ := in1_new' (bx := bx) w h1 h2
  have s0 : w.heap.size ≤ w.heap.size + 1 := by omega
  clear h1 h2
  obtain ⟨x0, x1, x2⟩ := X.cells
  go_enter Tryz.func40, Tryz.ntmps40
  go_wp2_with fail
  clear x0 x1 x2
  generalize hA : (w.alloc (.cells #[.bool bx, .slice a1 xn.length c1, .slice a2 xd.length c2] 25)).alloc (.cells #[.bool false, .slice none 0 0, .slice none 0 0] 25) = v at *
  clear hA
  refine (refRight_rat X.rn X.rd).mono ?_
  rintro e wa ⟨⟨r, rfl, hr⟩, ka⟩
  replace X := X.below ka
  replace R := R.below ka
  replace g := g.trans (ka.mono g.size)
  clear ka
  cases r with
  | false =>
    have HP : Hid (¬ RightP bx xn xd) := fun h => by have := hr.2 h; cases this
    clear hr
    have q0 := R.box.c0
    have q1 := R.box.c1
    have q2 := R.box.c2
    have p0 := R.box.f0
    have p1 := R.box.f1
    have p2 := R.box.f2
    go_wp2
    have hR3 := R.box.set (.bool false) (.slice none 0 0) (.slice none 0 0)
    have r0 := hR3.c0
    have r1 := hR3.c1
    have r2 := hR3.c2
    refine bodyPost_ret (v := .tuple #[.agg #[.bool false, .slice none 0 0, .slice none 0 0], .int .i64 22]) (by simp [results, Tryz.results40, go_sem, r0, r1, r2]) rfl ?_
    exact gives_err HP.out (Below.set3 g s0 _ _ _)
  | true =>
    have HP : Hid (RightP bx xn xd) := hr.1 rfl
    clear hr
    have l1 := HP.out.1
    have l2 := HP.out.2.1
    have ga := g
    have Ra := R
    have s1 : w.heap.size ≤ wa.heap.size := g.size
    have hcells2 : ∀ {w' : World}, Below wa.heap.size wa w' → w'.cell? ⟨w.heap.size, 0, none⟩ = some (.bool bx) := fun hb => (X.below hb).k0
    have X2 : ∀ {w' : World}, Below wa.heap.size wa w' → NVar w' w.heap.size bx a1 xn c1 a2 xd c2 := fun hb => X.below hb
    obtain ⟨x0, x1, x2⟩ := X.cells
    go_wp2_with fail
    clear x0 x1 x2
    refine (refDivMod_form X.rn (Nat.le_refl _) X.rd (Nat.le_refl _) (by omega) (by omega)).mono ?_
    rintro e wb ⟨qs, rs, a5, c5, a6, c6, bq, rfl, oq, or, HQ0, kb⟩
    have HQ : Hid (bq = true ∧ can qs ∧ can rs ∧ val qs = val xn / val xd ∧ val rs = val xn % val xd) := by
      rcases HQ0.out with ⟨h5, _⟩ | ⟨_, hb5, cq, cr, hv5, hl5⟩
      · have := (right_pos HP.out).1; omega
      · have h6 := div_unique hv5 (val_bound cr.1).1 hl5
        exact ⟨hb5, cq, cr, h6.1, h6.2⟩
    clear HQ0
    have lq : qs.length ≤ 32 := by
      rw [can_len_pw HQ.out.2.1, HQ.out.2.2.2.1]
      exact Int.lt_of_le_of_lt (Int.ediv_le_self _ (right_pos HP.out).2) ((can_len_pw HP.out.2.2.1 32).1 HP.out.1)
    replace X := X.below kb
    have t1 : Below wa.heap.size wa wb := kb
    clear kb R g
    have HRS : Hid (0 < rs.length ↔ ¬ val rs = 0) := can_add_one (q := qs) HQ.out.2.2.1
    by_cases hcs : bx = true ∧ 0 < rs.length
    · obtain ⟨rfl, hrl⟩ := hcs
      have HM : Hid (wholeM true (val xn) (val xd) = val qs + 1) := by
        unfold Hid wholeM
        rw [if_pos ⟨rfl, by rw [← HQ.out.2.2.2.2]; exact HRS.out.1 hrl⟩, HQ.out.2.2.2.1]
      go_wp2_with fail
      refine (refOne_any _).mono ?_
      rintro e wc ⟨os, a7, c7, HO, rfl, o7, kc⟩
      have lo : os.length ≤ 1 := by rw [HO.out]; simp
      replace X := X.below kc
      have t3 : Below wa.heap.size wa wc := t1.trans (kc.mono t1.size)
      have oqc := oq.below kc (Nat.le_refl _)
      go_wp2_with fail
      refine (refAdd_any oqc.rd (Nat.le_refl _) o7.rd (Nat.le_refl _) (by omega) (by omega)).mono ?_
      rintro e wd ⟨zs, cz, vz, lz, a8, c8, rfl, o8, kd⟩
      have HZ : Hid (val zs = wholeM true (val xn) (val xd)) := by
        unfold Hid; rw [vz, HM.out, HO.out, one_val]
      clear vz
      replace X := X.below kd
      have t4 : Below wa.heap.size wa wd := t3.trans (kd.mono t3.size)
      have x0 := X.k0
      have hcells : ∀ {w' : World}, Below wd.heap.size wd w' → w'.cell? ⟨w.heap.size, 0, none⟩ = some (.bool true) := fun hb => (X.below hb).k0
      have hne : w.heap.size + 1 ≠ w.heap.size := by omega
      have lz2 : zs.length ≤ 10000 := by omega
      go_wp2
      go_region_held3 (fun w' => w'.cell? ⟨w.heap.size, 0, none⟩ = some (.bool true))
        (first | (go_keep; done) | exact tw | exact tw2 | exact tws)
        (first
          | (go_at_call 66; refine (refOne_any _).mono ?_; rintro e we ⟨es, x2, y2, HE, rfl, o3, bf'⟩; have bf : Below wd.heap.size wd we := below_undrew (w := wd) (B := wd.heap.size) bf'; have tw := hcells bf; have t2 : Below wa.heap.size wa we := t4.trans (bf.mono t4.size); have le1 : es.length ≤ 10000 := (by rw [HE.out]; simp))
          | (have j := tw; go_at_call 11; refine (refMake_rat (b := true) ((o8.rd.below bf).mono bf.size) o3.rd (by exact lz2) (by exact le1) (by rw [HE.out, one_val]; decide)).mono ?_; intro e wf hm6; rw [HE.out, one_val, HZ.out] at hm6; obtain ⟨bm6, b6, x5, n5, y5, x6, n6, y6, err, rfl, hform⟩ := (RMakes.from' t2 hm6).form; have tw2 := hcells2 bm6; have Xf := X2 bm6; have Rf := Ra.below bm6; have tws := (((Xf.box.apart (p := ⟨w.heap.size + 1, 0, none⟩) hne (.bool b6)).apart (p := ⟨w.heap.size + 1, 1, none⟩) hne (.slice x5 n5 y5)).apart (p := ⟨w.heap.size + 1, 2, none⟩) hne (.slice x6 n6 y6)).c0; have q0 := Rf.box.c0; have q1 := Rf.box.c1; have q2 := Rf.box.c2; have p0 := Rf.box.f0; have p1 := Rf.box.f1; have p2 := Rf.box.f2))
      all_goals
        go_wp2
        have hR3 := Rf.box.set (.bool b6) (.slice x5 n5 y5) (.slice x6 n6 y6)
        have r0 := hR3.c0
        have r1 := hR3.c1
        have r2 := hR3.c2
        refine bodyPost_ret (v := .tuple #[.agg #[.bool b6, .slice x5 n5 y5, .slice x6 n6 y6], .int .i64 err]) (by simp [results, Tryz.results40, go_sem, r0, r1, r2]) rfl ?_
        exact (rform_done ga s0 Ra.lt bm6 hform).gives HP.out
    · have HM : Hid (val qs = wholeM bx (val xn) (val xd)) := by
        unfold Hid wholeM
        rw [if_neg, Int.add_zero]
        · exact HQ.out.2.2.2.1
        · rintro ⟨hf, h0⟩
          exact hcs ⟨hf, HRS.out.2 (by rw [HQ.out.2.2.2.2]; exact h0)⟩
      have hcs2 : bx = false ∨ (bx = true ∧ ¬ 0 < rs.length) := by
        cases bx with
        | false => exact Or.inl rfl
        | true => exact Or.inr ⟨rfl, fun h => hcs ⟨rfl, h⟩⟩
      clear hcs
      rcases hcs2 with rfl | ⟨rfl, hr0⟩
      · have x0 := X.k0
        have hcells : ∀ {w' : World}, Below wb.heap.size wb w' → w'.cell? ⟨w.heap.size, 0, none⟩ = some (.bool false) := fun hb => (X.below hb).k0
        have hne : w.heap.size + 1 ≠ w.heap.size := by omega
        have lz2 : qs.length ≤ 10000 := by omega
        go_wp2
        go_region_held3 (fun w' => w'.cell? ⟨w.heap.size, 0, none⟩ = some (.bool false))
          (first | (go_keep; done) | exact tw | exact tw2 | exact tws)
          (first
            | (go_at_call 66; refine (refOne_any _).mono ?_; rintro e we ⟨es, x2, y2, HE, rfl, o3, bf'⟩; have bf : Below wb.heap.size wb we := below_undrew (w := wb) (B := wb.heap.size) bf'; have tw := hcells bf; have t2 : Below wa.heap.size wa we := t1.trans (bf.mono t1.size); have le1 : es.length ≤ 10000 := (by rw [HE.out]; simp))
            | (have j := tw; go_at_call 11; refine (refMake_rat (b := false) ((oq.rd.below bf).mono bf.size) o3.rd (by exact lz2) (by exact le1) (by rw [HE.out, one_val]; decide)).mono ?_; intro e wf hm6; rw [HE.out, one_val, HM.out] at hm6; obtain ⟨bm6, b6, x5, n5, y5, x6, n6, y6, err, rfl, hform⟩ := (RMakes.from' t2 hm6).form; have tw2 := hcells2 bm6; have Xf := X2 bm6; have Rf := Ra.below bm6; have tws := (((Xf.box.apart (p := ⟨w.heap.size + 1, 0, none⟩) hne (.bool b6)).apart (p := ⟨w.heap.size + 1, 1, none⟩) hne (.slice x5 n5 y5)).apart (p := ⟨w.heap.size + 1, 2, none⟩) hne (.slice x6 n6 y6)).c0; have q0 := Rf.box.c0; have q1 := Rf.box.c1; have q2 := Rf.box.c2; have p0 := Rf.box.f0; have p1 := Rf.box.f1; have p2 := Rf.box.f2))
        all_goals
          go_wp2
          have hR3 := Rf.box.set (.bool b6) (.slice x5 n5 y5) (.slice x6 n6 y6)
          have r0 := hR3.c0
          have r1 := hR3.c1
          have r2 := hR3.c2
          refine bodyPost_ret (v := .tuple #[.agg #[.bool b6, .slice x5 n5 y5, .slice x6 n6 y6], .int .i64 err]) (by simp [results, Tryz.results40, go_sem, r0, r1, r2]) rfl ?_
          exact (rform_done ga s0 Ra.lt bm6 hform).gives HP.out
      · have x0 := X.k0
        have hcells : ∀ {w' : World}, Below wb.heap.size wb w' → w'.cell? ⟨w.heap.size, 0, none⟩ = some (.bool true) := fun hb => (X.below hb).k0
        have hne : w.heap.size + 1 ≠ w.heap.size := by omega
        have lz2 : qs.length ≤ 10000 := by omega
        go_wp2
        go_region_held3 (fun w' => w'.cell? ⟨w.heap.size, 0, none⟩ = some (.bool true))
          (first | (go_keep; done) | exact tw | exact tw2 | exact tws)
          (first
            | (go_at_call 66; refine (refOne_any _).mono ?_; rintro e we ⟨es, x2, y2, HE, rfl, o3, bf'⟩; have bf : Below wb.heap.size wb we := below_undrew (w := wb) (B := wb.heap.size) bf'; have tw := hcells bf; have t2 : Below wa.heap.size wa we := t1.trans (bf.mono t1.size); have le1 : es.length ≤ 10000 := (by rw [HE.out]; simp))
            | (have j := tw; go_at_call 11; refine (refMake_rat (b := true) ((oq.rd.below bf).mono bf.size) o3.rd (by exact lz2) (by exact le1) (by rw [HE.out, one_val]; decide)).mono ?_; intro e wf hm6; rw [HE.out, one_val, HM.out] at hm6; obtain ⟨bm6, b6, x5, n5, y5, x6, n6, y6, err, rfl, hform⟩ := (RMakes.from' t2 hm6).form; have tw2 := hcells2 bm6; have Xf := X2 bm6; have Rf := Ra.below bm6; have tws := (((Xf.box.apart (p := ⟨w.heap.size + 1, 0, none⟩) hne (.bool b6)).apart (p := ⟨w.heap.size + 1, 1, none⟩) hne (.slice x5 n5 y5)).apart (p := ⟨w.heap.size + 1, 2, none⟩) hne (.slice x6 n6 y6)).c0; have q0 := Rf.box.c0; have q1 := Rf.box.c1; have q2 := Rf.box.c2; have p0 := Rf.box.f0; have p1 := Rf.box.f1; have p2 := Rf.box.f2))
        all_goals
          go_wp2
          have hR3 := Rf.box.set (.bool b6) (.slice x5 n5 y5) (.slice x6 n6 y6)
          have r0 := hR3.c0
          have r1 := hR3.c1
          have r2 := hR3.c2
          refine bodyPost_ret (v := .tuple #[.agg #[.bool b6, .slice x5 n5 y5, .slice x6 n6 y6], .int .i64 err]) (by simp [results, Tryz.results40, go_sem, r0, r1, r2]) rfl ?_
          exact (rform_done ga s0 Ra.lt bm6 hform).gives HP.out

theorem refFloor_rat (h1 : Rd w.heap.size w (.slice a1 xn.length c1) xn) (h2 : Rd w.heap.size w (.slice a2 xd.length c2) xd) :
    Calls Tryz.prog 40 #[.agg #[.bool bx, .slice a1 xn.length c1, .slice a2 xd.length c2]] w fun e w' => Gives w (RightP bx xn xd) (sg bx (val xn) / val xd) 1 e w' := by
  refine (refFloor_whole h1 h2).mono ?_
  intro e w' hd
  by_cases hP : RightP bx xn xd
  · rw [floor_whole bx _ _ (right_pos hP).2 (right_pos hP).1] at hd
    exact hd
  · obtain ⟨k1, c, z1, n, z2, z3, m, z4, er, he, hO⟩ := hd
    refine ⟨k1, c, z1, n, z2, z3, m, z4, er, he, ?_⟩
    rcases hO.out with h | ⟨h, _⟩ | ⟨h, _⟩
    · exact Or.inl h
    · exact absurd h hP
    · exact absurd h hP
end
end Go.Proofs.YtidbebfendjnlaaGreatDoor

/- The document's Ceil. -/
namespace Go.Proofs.YtidbebfendjnlaaGreatDoor
set_option linter.unusedVariables false
set_option linter.unusedSimpArgs false
open Go.RowKit
section
variable {w : World} {b : Bool} {a1 a2 : Option Addr} {c1 c2 : Nat} {ns ds : List Int}
set_option maxRecDepth 100000 in
set_option maxHeartbeats 8000000 in
theorem refCeil_rat (h1 : Rd w.heap.size w (.slice a1 ns.length c1) ns) (h2 : Rd w.heap.size w (.slice a2 ds.length c2) ds) :
    Calls Tryz.prog 38 #[.agg #[.bool b, .slice a1 ns.length c1, .slice a2 ds.length c2]] w fun e w' => Gives w (RightP b ns ds) (-((-(sg b (val ns))) / val ds)) 1 e w' := by
  obtain ⟨X, R, g⟩ := in1_new (b := b) w h1 h2
  have s0 : w.heap.size ≤ w.heap.size + 1 := by omega
  clear h1 h2
  obtain ⟨x0, x1, x2⟩ := X.cells
  go_enter Tryz.func38, Tryz.ntmps38
  go_wp2_with fail
  clear x0 x1 x2
  generalize hA : (w.alloc (.cells #[.bool b, .slice a1 ns.length c1, .slice a2 ds.length c2] 25)).alloc (.cells #[.bool false, .slice none 0 0, .slice none 0 0] 25) = v at *
  clear hA
  refine (refRight_rat X.rn X.rd).mono ?_
  rintro e wa ⟨⟨r, rfl, hr⟩, ka⟩
  replace X := X.below ka
  replace R := R.below ka
  replace g := g.trans (ka.mono g.size)
  clear ka
  cases r with
  | false =>
    have HP : Hid (¬ RightP b ns ds) := fun h => by have := hr.2 h; cases this
    clear hr
    have q0 := R.box.c0
    have q1 := R.box.c1
    have q2 := R.box.c2
    have p0 := R.box.f0
    have p1 := R.box.f1
    have p2 := R.box.f2
    go_wp2
    have hR3 := R.box.set (.bool false) (.slice none 0 0) (.slice none 0 0)
    have r0 := hR3.c0
    have r1 := hR3.c1
    have r2 := hR3.c2
    refine bodyPost_ret (v := .tuple #[.agg #[.bool false, .slice none 0 0, .slice none 0 0], .int .i64 22]) (by simp [results, Tryz.results38, go_sem, r0, r1, r2]) rfl ?_
    exact gives_err HP.out (Below.set3 g s0 _ _ _)
  | true =>
    have HP : Hid (RightP b ns ds) := hr.1 rfl
    clear hr
    have l1 : ns.length ≤ 10000 := Nat.le_trans HP.out.1 (by decide)
    have l2 : ds.length ≤ 10000 := Nat.le_trans HP.out.2.1 (by decide)
    have C : Hid (can ns ∧ can ds) := ⟨HP.out.2.2.1, HP.out.2.2.2.1⟩
    have HB := right_with (!b) HP.out
    rw [sg_not] at HB
    obtain ⟨x0, x1, x2⟩ := X.cells
    go_wp2_with fail
    clear x0 x1 x2
    refine (refNeg_num X.rn X.rd l1 l2 C).mono ?_
    rintro e wb ⟨kb, z1, y1, z2, y2, rfl, on, od⟩
    replace R := R.below kb
    replace g := g.trans (kb.mono g.size)
    generalize (!b && decide (0 < ns.length)) = c at *
    go_wp2_with fail
    refine (refFloor_rat on.rd od.rd).mono ?_
    intro e wc hm
    rcases gives_or hm HB.1 with ⟨kc, ⟨rfl, hbig⟩ | ⟨c2, ms, es, z5, z6, z7, z8, rfl, om, oe, hr, hv⟩⟩
    · replace R := R.below kc
      replace g := g.trans (kc.mono g.size)
      have HG : Hid (Big (-((-(sg b (val ns))) / val ds)) 1) := (by rw [HB.2] at hbig; exact big_neg hbig)
      have kd := below_alloc wc (.cells #[.bool false, .slice none 0 0, .slice none 0 0] 25)
      replace R := R.below kd
      replace g := g.trans (kd.mono g.size)
      have q0 := R.box.c0
      have q1 := R.box.c1
      have q2 := R.box.c2
      have p0 := R.box.f0
      have p1 := R.box.f1
      have p2 := R.box.f2
      go_wp2
      have hR3 := R.box.set (.bool false) (.slice none 0 0) (.slice none 0 0)
      have r0 := hR3.c0
      have r1 := hR3.c1
      have r2 := hR3.c2
      refine bodyPost_ret (v := .tuple #[.agg #[.bool false, .slice none 0 0, .slice none 0 0], .int .i64 8]) (by simp [results, Tryz.results38, go_sem, r0, r1, r2]) rfl ?_
      exact RMakes.gives (show RMakes w _ _ _ _ from ⟨Below.set3 g s0 _ _ _, Or.inl ⟨rfl, HG.out⟩⟩) HP.out
    · replace R := R.below kc
      replace g := g.trans (kc.mono g.size)
      have HR : Hid (RightP c2 ms es ∧ sg c2 (val ms) * 1 = (-(sg b (val ns))) / val ds * val es) := ⟨hr, by rw [HB.2] at hv; exact hv⟩
      clear hr hv hm
      have F := nvar_new (b := c2) om.rd oe.rd
      have kd := below_alloc wc (.cells #[.bool c2, .slice z5 ms.length z6, .slice z7 es.length z8] 25)
      replace R := R.below kd
      replace g := g.trans (kd.mono g.size)
      clear kd
      have m1 : ms.length ≤ 10000 := Nat.le_trans HR.out.1.1 (by decide)
      have m2 : es.length ≤ 10000 := Nat.le_trans HR.out.1.2.1 (by decide)
      have M : Hid (can ms ∧ can es) := ⟨HR.out.1.2.2.1, HR.out.1.2.2.2.1⟩
      obtain ⟨x0, x1, x2⟩ := F.cells
      go_wp2_with fail
      clear x0 x1 x2
      generalize hA : wc.alloc (.cells #[.bool c2, .slice z5 ms.length z6, .slice z7 es.length z8] 25) = wd at *
      clear hA
      refine (refNeg_num F.rn F.rd m1 m2 M).mono ?_
      rintro e we ⟨ke, t1, u1, t2, u2, rfl, ot, ou⟩
      have HC := right_with (!c2) HR.out.1
      have R' := R
      replace R := R.below ke
      replace g := g.trans (ke.mono g.size)
      have q0 := R.box.c0
      have q1 := R.box.c1
      have q2 := R.box.c2
      have p0 := R.box.f0
      have p1 := R.box.f1
      have p2 := R.box.f2
      go_wp2
      have hR3 := R.box.set (.bool (!c2 && decide (0 < ms.length))) (.slice t1 ms.length u1) (.slice t2 es.length u2)
      have r0 := hR3.c0
      have r1 := hR3.c1
      have r2 := hR3.c2
      refine bodyPost_ret (v := .tuple #[.agg #[.bool (!c2 && decide (0 < ms.length)), .slice t1 ms.length u1, .slice t2 es.length u2], .int .i64 0]) (by simp [results, Tryz.results38, go_sem, r0, r1, r2]) rfl ?_
      exact gives_num HP.out (Below.set3 g s0 _ _ _) ((Own.set3 ot R'.lt _ _ _).mono (Nat.le_trans s0 (Nat.le_of_lt R'.lt))) ((Own.set3 ou R'.lt _ _ _).mono (Nat.le_trans s0 (Nat.le_of_lt R'.lt))) HC.1 (by rw [HC.2, sg_not, Int.neg_mul, HR.out.2, Int.neg_mul])
end
end Go.Proofs.YtidbebfendjnlaaGreatDoor

/- The document's Times. -/
namespace Go.Proofs.YtidbebfendjnlaaGreatDoor
set_option linter.unusedVariables false
set_option linter.unusedSimpArgs false
open Go.RowKit
section
variable {w : World} {bx cy : Bool} {a1 a2 a3 a4 : Option Addr} {c1 c2 c3 c4 : Nat} {xn xd yn yd : List Int}
theorem in2_r (w : World) (h1 : Rd w.heap.size w (.slice a1 xn.length c1) xn) (h2 : Rd w.heap.size w (.slice a2 xd.length c2) xd) (h3 : Rd w.heap.size w (.slice a3 yn.length c3) yn) (h4 : Rd w.heap.size w (.slice a4 yd.length c4) yd) :
    NVar (((w.alloc (.cells #[.bool bx, .slice a1 xn.length c1, .slice a2 xd.length c2] 25)).alloc (.cells #[.bool cy, .slice a3 yn.length c3, .slice a4 yd.length c4] 25)).alloc (.cells #[.bool false, .slice none 0 0, .slice none 0 0] 25)) w.heap.size bx a1 xn c1 a2 xd c2 ∧ NVar (((w.alloc (.cells #[.bool bx, .slice a1 xn.length c1, .slice a2 xd.length c2] 25)).alloc (.cells #[.bool cy, .slice a3 yn.length c3, .slice a4 yd.length c4] 25)).alloc (.cells #[.bool false, .slice none 0 0, .slice none 0 0] 25)) (w.heap.size + 1) cy a3 yn c3 a4 yd c4 ∧ RVar (((w.alloc (.cells #[.bool bx, .slice a1 xn.length c1, .slice a2 xd.length c2] 25)).alloc (.cells #[.bool cy, .slice a3 yn.length c3, .slice a4 yd.length c4] 25)).alloc (.cells #[.bool false, .slice none 0 0, .slice none 0 0] 25)) (w.heap.size + 1 + 1) ∧ Below w.heap.size w (((w.alloc (.cells #[.bool bx, .slice a1 xn.length c1, .slice a2 xd.length c2] 25)).alloc (.cells #[.bool cy, .slice a3 yn.length c3, .slice a4 yd.length c4] 25)).alloc (.cells #[.bool false, .slice none 0 0, .slice none 0 0] 25)) := by
  obtain ⟨X, Y, g⟩ := nvar_in2 (bx := bx) (cy := cy) h1 h2 h3 h4
  have kz := below_alloc ((w.alloc (.cells #[.bool bx, .slice a1 xn.length c1, .slice a2 xd.length c2] 25)).alloc (.cells #[.bool cy, .slice a3 yn.length c3, .slice a4 yd.length c4] 25)) (.cells #[.bool false, .slice none 0 0, .slice none 0 0] 25)
  have R := rvar_new ((w.alloc (.cells #[.bool bx, .slice a1 xn.length c1, .slice a2 xd.length c2] 25)).alloc (.cells #[.bool cy, .slice a3 yn.length c3, .slice a4 yd.length c4] 25))
  rw [World.size_alloc, World.size_alloc] at R
  exact ⟨X.below kz, Y.below kz, R, g.trans (kz.mono g.size)⟩
theorem sg_bne (b c : Bool) (x y : Int) : sg (!(b == c)) (x * y) = sg b x * sg c y := by
  unfold sg
  cases b <;> cases c <;> simp [Int.neg_mul, Int.mul_neg]

set_option maxRecDepth 100000 in
set_option maxHeartbeats 16000000 in
theorem refTimes_rat (h1 : Rd w.heap.size w (.slice a1 xn.length c1) xn) (h2 : Rd w.heap.size w (.slice a2 xd.length c2) xd) (h3 : Rd w.heap.size w (.slice a3 yn.length c3) yn) (h4 : Rd w.heap.size w (.slice a4 yd.length c4) yd) (hx : Hid (RightP bx xn xd)) (hy : Hid (RightP cy yn yd)) :
    Calls Tryz.prog 80 #[.agg #[.bool bx, .slice a1 xn.length c1, .slice a2 xd.length c2], .agg #[.bool cy, .slice a3 yn.length c3, .slice a4 yd.length c4]] w fun e w' => RMakes w (sg bx (val xn) * sg cy (val yn)) (val xd * val yd) e w' := by
  obtain ⟨X, Y, R, g⟩ := in2_r (bx := bx) (cy := cy) w h1 h2 h3 h4
  have sr : w.heap.size ≤ w.heap.size + 1 + 1 := by omega
  have nx : w.heap.size ≠ w.heap.size + 1 + 1 := by omega
  have ny : w.heap.size + 1 ≠ w.heap.size + 1 + 1 := by omega
  clear h1 h2 h3 h4
  go_enter Tryz.func80, Tryz.ntmps80
  have l1 := hx.out.1
  have l2 := hx.out.2.1
  have l3 := hy.out.1
  have l4 := hy.out.2.1
  go_wp2
  generalize hA : ((w.alloc (.cells #[.bool bx, .slice a1 xn.length c1, .slice a2 xd.length c2] 25)).alloc (.cells #[.bool cy, .slice a3 yn.length c3, .slice a4 yd.length c4] 25)).alloc (.cells #[.bool false, .slice none 0 0, .slice none 0 0] 25) = v at *
  clear hA
  have hcells : ∀ {w' : World}, Below v.heap.size v w' → w'.cell? ⟨w.heap.size, 0, none⟩ = some (.bool bx) ∧ w'.cell? ⟨w.heap.size, 1, none⟩ = some (.slice a1 xn.length c1) ∧ w'.cell? ⟨w.heap.size, 2, none⟩ = some (.slice a2 xd.length c2) ∧ w'.cell? ⟨(w.heap.size + 1), 0, none⟩ = some (.bool cy) ∧ w'.cell? ⟨(w.heap.size + 1), 1, none⟩ = some (.slice a3 yn.length c3) ∧ w'.cell? ⟨(w.heap.size + 1), 2, none⟩ = some (.slice a4 yd.length c4) := fun hb => ⟨(X.below hb).k0, (X.below hb).k1, (X.below hb).k2, (Y.below hb).k0, (Y.below hb).k1, (Y.below hb).k2⟩
  obtain ⟨s0, s1, s2, s3, s4, s5⟩ := hcells (Below.refl _ _)
  go_region_held3 (fun w' => w'.cell? ⟨w.heap.size, 0, none⟩ = some (.bool bx) ∧ w'.cell? ⟨w.heap.size, 1, none⟩ = some (.slice a1 xn.length c1) ∧ w'.cell? ⟨w.heap.size, 2, none⟩ = some (.slice a2 xd.length c2) ∧ w'.cell? ⟨(w.heap.size + 1), 0, none⟩ = some (.bool cy) ∧ w'.cell? ⟨(w.heap.size + 1), 1, none⟩ = some (.slice a3 yn.length c3) ∧ w'.cell? ⟨(w.heap.size + 1), 2, none⟩ = some (.slice a4 yd.length c4))
    (first | (go_keep; done) | exact tw1 | exact tw2 | exact tw3 | exact tws)
    (first
      | (have j := tw2; go_at_call 11; refine (refMake_rat Z ot.rd lz2 lt2 (by rw [HT.out.2]; exact Int.mul_pos (right_pos hx.out).1 (right_pos hy.out).1)).mono ?_; intro e u3 hm6; rw [HZ.out.2, HT.out.2] at hm6; obtain ⟨bm6, b6, x5, n5, y5, x6, n6, y6, err, rfl, hform⟩ := (RMakes.from' t2 hm6).form; have tw3 := hcells bm6; have XF := X.below bm6; have YF := Y.below bm6; have RF := R.below bm6; have tws := And.intro (XF.box.other nx (.bool b6) (.slice x5 n5 y5) (.slice x6 n6 y6)).c0 (And.intro (XF.box.other nx (.bool b6) (.slice x5 n5 y5) (.slice x6 n6 y6)).c1 (And.intro (XF.box.other nx (.bool b6) (.slice x5 n5 y5) (.slice x6 n6 y6)).c2 (And.intro (YF.box.other ny (.bool b6) (.slice x5 n5 y5) (.slice x6 n6 y6)).c0 (And.intro (YF.box.other ny (.bool b6) (.slice x5 n5 y5) (.slice x6 n6 y6)).c1 (YF.box.other ny (.bool b6) (.slice x5 n5 y5) (.slice x6 n6 y6)).c2)))); have q0 := RF.box.c0; have q1 := RF.box.c1; have q2 := RF.box.c2; have p0 := RF.box.f0; have p1 := RF.box.f1; have p2 := RF.box.f2)
      | (have j := tw1; go_at_call_of 84 (Value.slice a2 xd.length c2); refine (refMul_any (X.below t1).rd (Nat.le_refl _) (Y.below t1).rd (Nat.le_refl _) (by omega) (by omega)).mono ?_; rintro e u2 ⟨ts, ct, vt, lt, z3, z4, rfl, ot, j2⟩; have t2 : Below v.heap.size v u2 := t1.trans (j2.mono t1.size); have tw2 := hcells t2; have HT : Hid (can ts ∧ val ts = val xd * val yd) := ⟨ct, vt⟩; clear vt ct; have lt2 : ts.length ≤ 10000 := (by omega); clear lt; have Z := (oz.rd.below j2).mono j2.size)
      | (go_at_call_of 84 (Value.slice a1 xn.length c1); refine (refMul_any (w := v.drew) X.rn (Nat.le_refl _) Y.rn (Nat.le_refl _) (by omega) (by omega)).mono ?_; rintro e u1 ⟨zs, cz, vz, lz, z1, z2, rfl, oz, j1⟩; have t1 : Below v.heap.size v u1 := below_undrew (w := v) (B := v.heap.size) j1; have tw1 := hcells t1; have HZ : Hid (can zs ∧ val zs = val xn * val yn) := ⟨cz, vz⟩; clear vz cz; have lz2 : zs.length ≤ 10000 := (by omega); clear lz))
  all_goals
    go_wp2
    have hR3 := RF.box.set (.bool b6) (.slice x5 n5 y5) (.slice x6 n6 y6)
    have r0 := hR3.c0
    have r1 := hR3.c1
    have r2 := hR3.c2
    refine bodyPost_ret (v := .tuple #[.agg #[.bool b6, .slice x5 n5 y5, .slice x6 n6 y6], .int .i64 err]) (by simp [results, Tryz.results80, go_sem, r0, r1, r2]) rfl ?_
    have hd := rform_done g sr R.lt bm6 hform
    rw [sg_bne] at hd
    exact hd
end
end Go.Proofs.YtidbebfendjnlaaGreatDoor

/- The document's Two: the sum of two. -/
namespace Go.Proofs.YtidbebfendjnlaaGreatDoor
set_option linter.unusedVariables false
set_option linter.unusedSimpArgs false
open Go.RowKit
section
variable {w : World} {bx cy : Bool} {a1 a2 a3 a4 : Option Addr} {c1 c2 c3 c4 : Nat} {xn xd yn yd : List Int}
set_option maxRecDepth 100000 in
set_option maxHeartbeats 16000000 in
theorem refTwo_rat (h1 : Rd w.heap.size w (.slice a1 xn.length c1) xn) (h2 : Rd w.heap.size w (.slice a2 xd.length c2) xd) (h3 : Rd w.heap.size w (.slice a3 yn.length c3) yn) (h4 : Rd w.heap.size w (.slice a4 yd.length c4) yd) (hx : Hid (RightP bx xn xd)) (hy : Hid (RightP cy yn yd)) :
    Calls Tryz.prog 78 #[.agg #[.bool bx, .slice a1 xn.length c1, .slice a2 xd.length c2], .agg #[.bool cy, .slice a3 yn.length c3, .slice a4 yd.length c4]] w fun e w' => RMakes w (sg bx (val xn) * val yd + sg cy (val yn) * val xd) (val xd * val yd) e w' := by
  obtain ⟨X, Y, R, g⟩ := in2_r (bx := bx) (cy := cy) w h1 h2 h3 h4
  have sr : w.heap.size ≤ w.heap.size + 1 + 1 := by omega
  have nx : w.heap.size ≠ w.heap.size + 1 + 1 := by omega
  have ny : w.heap.size + 1 ≠ w.heap.size + 1 + 1 := by omega
  clear h1 h2 h3 h4
  go_enter Tryz.func78, Tryz.ntmps78
  have l1 := hx.out.1
  have l2 := hx.out.2.1
  have l3 := hy.out.1
  have l4 := hy.out.2.1
  go_wp2
  generalize hA : ((w.alloc (.cells #[.bool bx, .slice a1 xn.length c1, .slice a2 xd.length c2] 25)).alloc (.cells #[.bool cy, .slice a3 yn.length c3, .slice a4 yd.length c4] 25)).alloc (.cells #[.bool false, .slice none 0 0, .slice none 0 0] 25) = v at *
  clear hA
  have hcells : ∀ {w' : World}, Below v.heap.size v w' → w'.cell? ⟨w.heap.size, 0, none⟩ = some (.bool bx) ∧ w'.cell? ⟨w.heap.size, 1, none⟩ = some (.slice a1 xn.length c1) ∧ w'.cell? ⟨w.heap.size, 2, none⟩ = some (.slice a2 xd.length c2) ∧ w'.cell? ⟨(w.heap.size + 1), 0, none⟩ = some (.bool cy) ∧ w'.cell? ⟨(w.heap.size + 1), 1, none⟩ = some (.slice a3 yn.length c3) ∧ w'.cell? ⟨(w.heap.size + 1), 2, none⟩ = some (.slice a4 yd.length c4) := fun hb => ⟨(X.below hb).k0, (X.below hb).k1, (X.below hb).k2, (Y.below hb).k0, (Y.below hb).k1, (Y.below hb).k2⟩
  obtain ⟨s0, s1, s2, s3, s4, s5⟩ := hcells (Below.refl _ _)
  go_region_held3 (fun w' => w'.cell? ⟨w.heap.size, 0, none⟩ = some (.bool bx) ∧ w'.cell? ⟨w.heap.size, 1, none⟩ = some (.slice a1 xn.length c1) ∧ w'.cell? ⟨w.heap.size, 2, none⟩ = some (.slice a2 xd.length c2) ∧ w'.cell? ⟨(w.heap.size + 1), 0, none⟩ = some (.bool cy) ∧ w'.cell? ⟨(w.heap.size + 1), 1, none⟩ = some (.slice a3 yn.length c3) ∧ w'.cell? ⟨(w.heap.size + 1), 2, none⟩ = some (.slice a4 yd.length c4))
    (first | (go_keep; done) | exact tw1 | exact tw2 | exact tw3)
    (first
      | (have j := tw2; go_at_call 90; refine (refSigned_any Z ot.rd 65 lz2 lt2 (by decide) HZ.out.1 HT.out.1).mono ?_; rintro e u3 ⟨j3, ss, z5, z6, bs, rfl, cs, ls, hs, os⟩; have t3 : Below v.heap.size v u3 := t2.trans (j3.mono t2.size); have tw3 := hcells t3; have HS : Hid (sg bs (val ss) = sg bx (val xn) * val yd + sg cy (val yn) * val xd) := (by unfold Hid; rw [hs.out, HZ.out.2, HT.out.2, sg_mul, sg_mul]); clear hs cs)
      | (have j := tw1; go_at_call_of 84 (Value.slice a3 yn.length c3); refine (refMul_any (Y.below t1).rn (Nat.le_refl _) (X.below t1).rd (Nat.le_refl _) (by omega) (by omega)).mono ?_; rintro e u2 ⟨ts, ct, vt, lt, z3, z4, rfl, ot, j2⟩; have t2 : Below v.heap.size v u2 := t1.trans (j2.mono t1.size); have tw2 := hcells t2; have HT : Hid (can ts ∧ val ts = val yn * val xd) := ⟨ct, vt⟩; clear vt ct; have lt2 : ts.length ≤ 65 := (by omega); clear lt; have Z := (oz.rd.below j2).mono j2.size)
      | (go_at_call_of 84 (Value.slice a1 xn.length c1); refine (refMul_any (w := v.drew) X.rn (Nat.le_refl _) Y.rd (Nat.le_refl _) (by omega) (by omega)).mono ?_; rintro e u1 ⟨zs, cz, vz, lz, z1, z2, rfl, oz, j1⟩; have t1 : Below v.heap.size v u1 := below_undrew (w := v) (B := v.heap.size) j1; have tw1 := hcells t1; have HZ : Hid (can zs ∧ val zs = val xn * val yd) := ⟨cz, vz⟩; clear vz cz; have lz2 : zs.length ≤ 65 := (by omega); clear lz))
  have NS := os.rd
  clear hcells s0 s1 s2 s3 s4 s5 tw1 tw2 tw3 Z os oz ot HZ HT j1 j2 j3 t1 t2 lz2 lt2
  replace X := X.below t3
  replace Y := Y.below t3
  replace R := R.below t3
  replace g := g.trans (t3.mono g.size)
  obtain ⟨X0, X1, X2⟩ := X.cells
  obtain ⟨Y0, Y1, Y2⟩ := Y.cells
  clear t3
  go_wp2_with fail
  clear X0 X1 X2 Y0 Y1 Y2
  refine (refMul_any X.rd (Nat.le_refl _) Y.rd (Nat.le_refl _) (by omega) (by omega)).mono ?_
  rintro e u4 ⟨ds, cd, vd, ld, d1, d2, rfl, od, k4⟩
  replace NS := (NS.below k4).mono k4.size
  replace X := X.below k4
  replace Y := Y.below k4
  replace R := R.below k4
  replace g := g.trans (k4.mono g.size)
  clear k4
  have HD : Hid (val ds = val xd * val yd ∧ 0 < val xd * val yd) := ⟨vd, Int.mul_pos (right_pos hx.out).1 (right_pos hy.out).1⟩
  clear vd cd
  go_wp2_with fail
  refine (refMake_rat NS od.rd (by omega) (by omega) (by rw [HD.out.1]; exact HD.out.2)).mono ?_
  intro e u5 hm6
  rw [HS.out, HD.out.1] at hm6
  obtain ⟨bm6, b6, x5, n5, y5, x6, n6, y6, err, rfl, hform⟩ := hm6.form
  have RF := R.below bm6
  have q0 := RF.box.c0
  have q1 := RF.box.c1
  have q2 := RF.box.c2
  have p0 := RF.box.f0
  have p1 := RF.box.f1
  have p2 := RF.box.f2
  go_wp2
  have hR3 := RF.box.set (.bool b6) (.slice x5 n5 y5) (.slice x6 n6 y6)
  have r0 := hR3.c0
  have r1 := hR3.c1
  have r2 := hR3.c2
  refine bodyPost_ret (v := .tuple #[.agg #[.bool b6, .slice x5 n5 y5, .slice x6 n6 y6], .int .i64 err]) (by simp [results, Tryz.results78, go_sem, r0, r1, r2]) rfl ?_
  exact rform_done g sr R.lt bm6 hform
end
end Go.Proofs.YtidbebfendjnlaaGreatDoor

/- The document's Sub. -/
namespace Go.Proofs.YtidbebfendjnlaaGreatDoor
set_option linter.unusedVariables false
set_option linter.unusedSimpArgs false
open Go.RowKit
section
variable {w : World} {bx cy : Bool} {a1 a2 a3 a4 : Option Addr} {c1 c2 c3 c4 : Nat} {xn xd yn yd : List Int}
set_option maxRecDepth 100000 in
set_option maxHeartbeats 16000000 in
theorem refSub_rat (h1 : Rd w.heap.size w (.slice a1 xn.length c1) xn) (h2 : Rd w.heap.size w (.slice a2 xd.length c2) xd) (h3 : Rd w.heap.size w (.slice a3 yn.length c3) yn) (h4 : Rd w.heap.size w (.slice a4 yd.length c4) yd) :
    Calls Tryz.prog 30 #[.agg #[.bool bx, .slice a1 xn.length c1, .slice a2 xd.length c2], .agg #[.bool cy, .slice a3 yn.length c3, .slice a4 yd.length c4]] w fun e w' => Gives w (RightP bx xn xd ∧ RightP cy yn yd) (sg bx (val xn) * val yd + sg (!cy) (val yn) * val xd) (val xd * val yd) e w' := by
  obtain ⟨X, Y, R, g⟩ := in2_r (bx := bx) (cy := cy) w h1 h2 h3 h4
  have sr : w.heap.size ≤ w.heap.size + 1 + 1 := by omega
  have nx : w.heap.size ≠ w.heap.size + 1 + 1 := by omega
  have ny : w.heap.size + 1 ≠ w.heap.size + 1 + 1 := by omega
  clear h1 h2 h3 h4
  go_enter Tryz.func30, Tryz.ntmps30
  obtain ⟨X0, X1, X2⟩ := X.cells
  go_wp2_with fail
  clear X0 X1 X2
  generalize hA : ((w.alloc (.cells #[.bool bx, .slice a1 xn.length c1, .slice a2 xd.length c2] 25)).alloc (.cells #[.bool cy, .slice a3 yn.length c3, .slice a4 yd.length c4] 25)).alloc (.cells #[.bool false, .slice none 0 0, .slice none 0 0] 25) = v at *
  clear hA
  refine (refRight_rat X.rn X.rd).mono ?_
  rintro e wa ⟨⟨r, rfl, hr⟩, ka⟩
  replace X := X.below ka
  replace Y := Y.below ka
  replace R := R.below ka
  replace g := g.trans (ka.mono g.size)
  clear ka
  cases r with
  | false =>
    have HP : Hid (¬ RightP bx xn xd) := fun h => by have := hr.2 h; cases this
    clear hr
    have q0 := R.box.c0
    have q1 := R.box.c1
    have q2 := R.box.c2
    have p0 := R.box.f0
    have p1 := R.box.f1
    have p2 := R.box.f2
    go_wp2
    have hR3 := R.box.set (.bool false) (.slice none 0 0) (.slice none 0 0)
    have r0 := hR3.c0
    have r1 := hR3.c1
    have r2 := hR3.c2
    refine bodyPost_ret (v := .tuple #[.agg #[.bool false, .slice none 0 0, .slice none 0 0], .int .i64 22]) (by simp [results, Tryz.results30, go_sem, r0, r1, r2]) rfl ?_
    exact gives_err (fun h => HP.out h.1) (Below.set3 g sr _ _ _)
  | true =>
    have hx : Hid (RightP bx xn xd) := hr.1 rfl
    clear hr
    obtain ⟨Y0, Y1, Y2⟩ := Y.cells
    go_wp2_with fail
    clear Y0 Y1 Y2
    refine (refRight_rat Y.rn Y.rd).mono ?_
    rintro e wb ⟨⟨r, rfl, hr⟩, kb⟩
    replace X := X.below kb
    replace Y := Y.below kb
    replace R := R.below kb
    replace g := g.trans (kb.mono g.size)
    clear kb
    cases r with
    | false =>
      have HP : Hid (¬ RightP cy yn yd) := fun h => by have := hr.2 h; cases this
      clear hr
      have q0 := R.box.c0
      have q1 := R.box.c1
      have q2 := R.box.c2
      have p0 := R.box.f0
      have p1 := R.box.f1
      have p2 := R.box.f2
      go_wp2
      have hR3 := R.box.set (.bool false) (.slice none 0 0) (.slice none 0 0)
      have r0 := hR3.c0
      have r1 := hR3.c1
      have r2 := hR3.c2
      refine bodyPost_ret (v := .tuple #[.agg #[.bool false, .slice none 0 0, .slice none 0 0], .int .i64 22]) (by simp [results, Tryz.results30, go_sem, r0, r1, r2]) rfl ?_
      exact gives_err (fun h => HP.out h.2) (Below.set3 g sr _ _ _)
    | true =>
      have hy : Hid (RightP cy yn yd) := hr.1 rfl
      clear hr
      have l1 := hx.out.1
      have l2 := hx.out.2.1
      have l3 := hy.out.1
      have l4 := hy.out.2.1
      have HB := right_with (!cy) hy.out
      go_wp2
      have hcells : ∀ {w' : World}, Below wb.heap.size wb w' → w'.cell? ⟨w.heap.size, 0, none⟩ = some (.bool bx) ∧ w'.cell? ⟨w.heap.size, 1, none⟩ = some (.slice a1 xn.length c1) ∧ w'.cell? ⟨w.heap.size, 2, none⟩ = some (.slice a2 xd.length c2) ∧ w'.cell? ⟨(w.heap.size + 1), 0, none⟩ = some (.bool cy) ∧ w'.cell? ⟨(w.heap.size + 1), 1, none⟩ = some (.slice a3 yn.length c3) ∧ w'.cell? ⟨(w.heap.size + 1), 2, none⟩ = some (.slice a4 yd.length c4) := fun hb => ⟨(X.below hb).k0, (X.below hb).k1, (X.below hb).k2, (Y.below hb).k0, (Y.below hb).k1, (Y.below hb).k2⟩
      obtain ⟨s0, s1, s2, s3, s4, s5⟩ := hcells (Below.refl _ _)
      have m1 : yn.length ≤ 10000 := by omega
      have m2 : yd.length ≤ 10000 := by omega
      have M : Hid (can yn ∧ can yd) := ⟨hy.out.2.2.1, hy.out.2.2.2.1⟩
      go_region_held3 (fun w' => w'.cell? ⟨w.heap.size, 0, none⟩ = some (.bool bx) ∧ w'.cell? ⟨w.heap.size, 1, none⟩ = some (.slice a1 xn.length c1) ∧ w'.cell? ⟨w.heap.size, 2, none⟩ = some (.slice a2 xd.length c2) ∧ w'.cell? ⟨(w.heap.size + 1), 0, none⟩ = some (.bool cy) ∧ w'.cell? ⟨(w.heap.size + 1), 1, none⟩ = some (.slice a3 yn.length c3) ∧ w'.cell? ⟨(w.heap.size + 1), 2, none⟩ = some (.slice a4 yd.length c4))
        (first | (go_keep; done) | exact tw1 | exact tw2 | exact tws)
        (first
          | (have j := tw1; go_at_call 78; refine (refTwo_rat (X.below t1).rn (X.below t1).rd on.rd od.rd hx HB.1).mono ?_; intro e u2 hm6; rw [HB.2] at hm6; obtain ⟨bm6, b6, x5, n5, y5, x6, n6, y6, err, rfl, hform⟩ := (RMakes.from' t1 hm6).form; have tw2 := hcells bm6; have XF := X.below bm6; have YF := Y.below bm6; have RF := R.below bm6; have tws := And.intro (XF.box.other nx (.bool b6) (.slice x5 n5 y5) (.slice x6 n6 y6)).c0 (And.intro (XF.box.other nx (.bool b6) (.slice x5 n5 y5) (.slice x6 n6 y6)).c1 (And.intro (XF.box.other nx (.bool b6) (.slice x5 n5 y5) (.slice x6 n6 y6)).c2 (And.intro (YF.box.other ny (.bool b6) (.slice x5 n5 y5) (.slice x6 n6 y6)).c0 (And.intro (YF.box.other ny (.bool b6) (.slice x5 n5 y5) (.slice x6 n6 y6)).c1 (YF.box.other ny (.bool b6) (.slice x5 n5 y5) (.slice x6 n6 y6)).c2)))); have q0 := RF.box.c0; have q1 := RF.box.c1; have q2 := RF.box.c2; have p0 := RF.box.f0; have p1 := RF.box.f1; have p2 := RF.box.f2)
          | (go_at_call 82; refine (refNeg_num (w := wb.drew) Y.rn Y.rd m1 m2 M).mono ?_; rintro e u1 ⟨j1, z1, y1, z2, y2, rfl, on, od⟩; have t1 : Below wb.heap.size wb u1 := below_undrew (w := wb) (B := wb.heap.size) j1; have tw1 := hcells t1))
      all_goals
        go_wp2
        have hR3 := RF.box.set (.bool b6) (.slice x5 n5 y5) (.slice x6 n6 y6)
        have r0 := hR3.c0
        have r1 := hR3.c1
        have r2 := hR3.c2
        refine bodyPost_ret (v := .tuple #[.agg #[.bool b6, .slice x5 n5 y5, .slice x6 n6 y6], .int .i64 err]) (by simp [results, Tryz.results30, go_sem, r0, r1, r2]) rfl ?_
        exact (rform_done g sr R.lt bm6 hform).gives ⟨hx.out, hy.out⟩
end
end Go.Proofs.YtidbebfendjnlaaGreatDoor

/- The document's Div, and rat.Div by 0. -/
namespace Go.Proofs.YtidbebfendjnlaaGreatDoor
set_option linter.unusedVariables false
set_option linter.unusedSimpArgs false
open Go.RowKit

/-- What a division by 0 answers. -/
def DivZ (P : Prop) (xn : List Int) (b : Bool) (ns ds : List Int) (err : Int) : Prop :=
  (¬ P ∧ err = 22 ∧ b = false ∧ ns = [] ∧ ds = []) ∨ (P ∧ 0 < xn.length ∧ err = 3 ∧ b = false ∧ ns = [] ∧ ds = []) ∨ (P ∧ xn.length = 0 ∧ err = 0 ∧ b = false ∧ ns = [1] ∧ ds = [1])
theorem DivZ.unique {P : Prop} {xn : List Int} {b c : Bool} {ns ds ms es : List Int} {e f : Int} (h : DivZ P xn b ns ds e) (k : DivZ P xn c ms es f) : c = b ∧ ms = ns ∧ es = ds ∧ f = e := by
  rcases h with ⟨hp, rfl, rfl, rfl, rfl⟩ | ⟨hp, h0, rfl, rfl, rfl, rfl⟩ | ⟨hp, h0, rfl, rfl, rfl, rfl⟩ <;> rcases k with ⟨kp, rfl, rfl, rfl, rfl⟩ | ⟨kp, k0, rfl, rfl, rfl, rfl⟩ | ⟨kp, k0, rfl, rfl, rfl, rfl⟩
  · exact ⟨rfl, rfl, rfl, rfl⟩
  · exact absurd kp hp
  · exact absurd kp hp
  · exact absurd hp kp
  · exact ⟨rfl, rfl, rfl, rfl⟩
  · omega
  · exact absurd hp kp
  · omega
  · exact ⟨rfl, rfl, rfl, rfl⟩
theorem whole_one {b : Bool} {ns ds : List Int} (h : WholeIs 1 b ns ds) : b = false ∧ ns = [1] ∧ ds = [1] := by
  obtain ⟨hb, cn, vn, _, hd⟩ := h
  exact ⟨hb, can_inj cn can_one (by rw [vn, one_val]; rfl), hd⟩

section
variable {w : World} {bx cy : Bool} {a1 a2 a3 a4 : Option Addr} {c1 c2 c3 c4 : Nat} {xn xd yn yd : List Int}
set_option maxRecDepth 100000 in
set_option maxHeartbeats 16000000 in
theorem refDiv_nz (h1 : Rd w.heap.size w (.slice a1 xn.length c1) xn) (h2 : Rd w.heap.size w (.slice a2 xd.length c2) xd) (h3 : Rd w.heap.size w (.slice a3 yn.length c3) yn) (h4 : Rd w.heap.size w (.slice a4 yd.length c4) yd) (h0 : 0 < yn.length) :
    Calls Tryz.prog 32 #[.agg #[.bool bx, .slice a1 xn.length c1, .slice a2 xd.length c2], .agg #[.bool cy, .slice a3 yn.length c3, .slice a4 yd.length c4]] w fun e w' => Gives w (RightP bx xn xd ∧ RightP cy yn yd) (sg bx (val xn) * sg cy (val yd)) (val xd * val yn) e w' := by
  obtain ⟨X, Y, R, g⟩ := in2_r (bx := bx) (cy := cy) w h1 h2 h3 h4
  have sr : w.heap.size ≤ w.heap.size + 1 + 1 := by omega
  have nx : w.heap.size ≠ w.heap.size + 1 + 1 := by omega
  have ny : w.heap.size + 1 ≠ w.heap.size + 1 + 1 := by omega
  clear h1 h2 h3 h4
  go_enter Tryz.func32, Tryz.ntmps32
  obtain ⟨X0, X1, X2⟩ := X.cells
  go_wp2_with fail
  clear X0 X1 X2
  generalize hA : ((w.alloc (.cells #[.bool bx, .slice a1 xn.length c1, .slice a2 xd.length c2] 25)).alloc (.cells #[.bool cy, .slice a3 yn.length c3, .slice a4 yd.length c4] 25)).alloc (.cells #[.bool false, .slice none 0 0, .slice none 0 0] 25) = v at *
  clear hA
  refine (refRight_rat X.rn X.rd).mono ?_
  rintro e wa ⟨⟨r, rfl, hr⟩, ka⟩
  replace X := X.below ka
  replace Y := Y.below ka
  replace R := R.below ka
  replace g := g.trans (ka.mono g.size)
  clear ka
  cases r with
  | false =>
    have HP : Hid (¬ RightP bx xn xd) := fun h => by have := hr.2 h; cases this
    clear hr
    have q0 := R.box.c0
    have q1 := R.box.c1
    have q2 := R.box.c2
    have p0 := R.box.f0
    have p1 := R.box.f1
    have p2 := R.box.f2
    go_wp2
    have hR3 := R.box.set (.bool false) (.slice none 0 0) (.slice none 0 0)
    have r0 := hR3.c0
    have r1 := hR3.c1
    have r2 := hR3.c2
    refine bodyPost_ret (v := .tuple #[.agg #[.bool false, .slice none 0 0, .slice none 0 0], .int .i64 22]) (by simp [results, Tryz.results32, go_sem, r0, r1, r2]) rfl ?_
    exact gives_err (fun h => HP.out h.1) (Below.set3 g sr _ _ _)
  | true =>
    have hx : Hid (RightP bx xn xd) := hr.1 rfl
    clear hr
    obtain ⟨Y0, Y1, Y2⟩ := Y.cells
    go_wp2_with fail
    clear Y0 Y1 Y2
    refine (refRight_rat Y.rn Y.rd).mono ?_
    rintro e wb ⟨⟨r, rfl, hr⟩, kb⟩
    replace X := X.below kb
    replace Y := Y.below kb
    replace R := R.below kb
    replace g := g.trans (kb.mono g.size)
    clear kb
    cases r with
    | false =>
      have HP : Hid (¬ RightP cy yn yd) := fun h => by have := hr.2 h; cases this
      clear hr
      have q0 := R.box.c0
      have q1 := R.box.c1
      have q2 := R.box.c2
      have p0 := R.box.f0
      have p1 := R.box.f1
      have p2 := R.box.f2
      go_wp2
      have hR3 := R.box.set (.bool false) (.slice none 0 0) (.slice none 0 0)
      have r0 := hR3.c0
      have r1 := hR3.c1
      have r2 := hR3.c2
      refine bodyPost_ret (v := .tuple #[.agg #[.bool false, .slice none 0 0, .slice none 0 0], .int .i64 22]) (by simp [results, Tryz.results32, go_sem, r0, r1, r2]) rfl ?_
      exact gives_err (fun h => HP.out h.2) (Below.set3 g sr _ _ _)
    | true =>
      have hy : Hid (RightP cy yn yd) := hr.1 rfl
      clear hr
      have l1 := hx.out.1
      have l2 := hx.out.2.1
      have l3 := hy.out.1
      have l4 := hy.out.2.1
      have hb0 : ((yn.length : Int) == 0) = false := by rw [beq_eq_false_iff_ne]; omega
      have HY0 : Hid (0 < val yn) := by
        have h5 := can_zero hy.out.2.2.1
        have h6 := (right_pos hy.out).2
        have h7 : ¬ val yn = 0 := fun e => by have := h5.2 e; omega
        unfold Hid; omega
      obtain ⟨X0, X1, X2⟩ := X.cells
      obtain ⟨Y0, Y1, Y2⟩ := Y.cells
      go_wp2
      clear X0 X1 X2 Y0 Y1 Y2
      have hcells : ∀ {w' : World}, Below wb.heap.size wb w' → w'.cell? ⟨w.heap.size, 0, none⟩ = some (.bool bx) ∧ w'.cell? ⟨w.heap.size, 1, none⟩ = some (.slice a1 xn.length c1) ∧ w'.cell? ⟨w.heap.size, 2, none⟩ = some (.slice a2 xd.length c2) ∧ w'.cell? ⟨(w.heap.size + 1), 0, none⟩ = some (.bool cy) ∧ w'.cell? ⟨(w.heap.size + 1), 1, none⟩ = some (.slice a3 yn.length c3) ∧ w'.cell? ⟨(w.heap.size + 1), 2, none⟩ = some (.slice a4 yd.length c4) := fun hb => ⟨(X.below hb).k0, (X.below hb).k1, (X.below hb).k2, (Y.below hb).k0, (Y.below hb).k1, (Y.below hb).k2⟩
      obtain ⟨s0, s1, s2, s3, s4, s5⟩ := hcells (Below.refl _ _)
      go_region_held3 (fun w' => w'.cell? ⟨w.heap.size, 0, none⟩ = some (.bool bx) ∧ w'.cell? ⟨w.heap.size, 1, none⟩ = some (.slice a1 xn.length c1) ∧ w'.cell? ⟨w.heap.size, 2, none⟩ = some (.slice a2 xd.length c2) ∧ w'.cell? ⟨(w.heap.size + 1), 0, none⟩ = some (.bool cy) ∧ w'.cell? ⟨(w.heap.size + 1), 1, none⟩ = some (.slice a3 yn.length c3) ∧ w'.cell? ⟨(w.heap.size + 1), 2, none⟩ = some (.slice a4 yd.length c4))
        (first | (go_keep; done) | exact tw1 | exact tw2 | exact tw3 | exact tws)
        (first
          | (have j := tw2; go_at_call 11; refine (refMake_rat Z ot.rd lz2 lt2 (by rw [HT.out.2]; exact Int.mul_pos (right_pos hx.out).1 HY0.out)).mono ?_; intro e u3 hm6; rw [HZ.out.2, HT.out.2] at hm6; obtain ⟨bm6, b6, x5, n5, y5, x6, n6, y6, err, rfl, hform⟩ := (RMakes.from' t2 hm6).form; have tw3 := hcells bm6; have XF := X.below bm6; have YF := Y.below bm6; have RF := R.below bm6; have tws := And.intro (XF.box.other nx (.bool b6) (.slice x5 n5 y5) (.slice x6 n6 y6)).c0 (And.intro (XF.box.other nx (.bool b6) (.slice x5 n5 y5) (.slice x6 n6 y6)).c1 (And.intro (XF.box.other nx (.bool b6) (.slice x5 n5 y5) (.slice x6 n6 y6)).c2 (And.intro (YF.box.other ny (.bool b6) (.slice x5 n5 y5) (.slice x6 n6 y6)).c0 (And.intro (YF.box.other ny (.bool b6) (.slice x5 n5 y5) (.slice x6 n6 y6)).c1 (YF.box.other ny (.bool b6) (.slice x5 n5 y5) (.slice x6 n6 y6)).c2)))); have q0 := RF.box.c0; have q1 := RF.box.c1; have q2 := RF.box.c2; have p0 := RF.box.f0; have p1 := RF.box.f1; have p2 := RF.box.f2)
          | (have j := tw1; go_at_call_of 84 (Value.slice a2 xd.length c2); refine (refMul_any (X.below t1).rd (Nat.le_refl _) (Y.below t1).rn (Nat.le_refl _) (by omega) (by omega)).mono ?_; rintro e u2 ⟨ts, ct, vt, lt, z3, z4, rfl, ot, j2⟩; have t2 : Below wb.heap.size wb u2 := t1.trans (j2.mono t1.size); have tw2 := hcells t2; have HT : Hid (can ts ∧ val ts = val xd * val yn) := ⟨ct, vt⟩; clear vt ct; have lt2 : ts.length ≤ 10000 := (by omega); clear lt; have Z := (oz.rd.below j2).mono j2.size)
          | (go_at_call_of 84 (Value.slice a1 xn.length c1); refine (refMul_any (w := wb.drew) X.rn (Nat.le_refl _) Y.rd (Nat.le_refl _) (by omega) (by omega)).mono ?_; rintro e u1 ⟨zs, cz, vz, lz, z1, z2, rfl, oz, j1⟩; have t1 : Below wb.heap.size wb u1 := below_undrew (w := wb) (B := wb.heap.size) j1; have tw1 := hcells t1; have HZ : Hid (can zs ∧ val zs = val xn * val yd) := ⟨cz, vz⟩; clear vz cz; have lz2 : zs.length ≤ 10000 := (by omega); clear lz))
      all_goals
        go_wp2
        have hR3 := RF.box.set (.bool b6) (.slice x5 n5 y5) (.slice x6 n6 y6)
        have r0 := hR3.c0
        have r1 := hR3.c1
        have r2 := hR3.c2
        refine bodyPost_ret (v := .tuple #[.agg #[.bool b6, .slice x5 n5 y5, .slice x6 n6 y6], .int .i64 err]) (by simp [results, Tryz.results32, go_sem, r0, r1, r2]) rfl ?_
        have hd := rform_done g sr R.lt bm6 hform
        rw [sg_bne] at hd
        exact hd.gives ⟨hx.out, hy.out⟩
set_option maxRecDepth 100000 in
set_option maxHeartbeats 16000000 in
theorem refDiv_z (h1 : Rd w.heap.size w (.slice a1 xn.length c1) xn) (h2 : Rd w.heap.size w (.slice a2 xd.length c2) xd) (h3 : Rd w.heap.size w (.slice a3 yn.length c3) yn) (h4 : Rd w.heap.size w (.slice a4 yd.length c4) yd) (h0 : yn.length = 0) :
    Calls Tryz.prog 32 #[.agg #[.bool bx, .slice a1 xn.length c1, .slice a2 xd.length c2], .agg #[.bool cy, .slice a3 yn.length c3, .slice a4 yd.length c4]] w fun e w' => ∃ b ns ds err, Hid (DivZ (RightP bx xn xd ∧ RightP cy yn yd) xn b ns ds err) ∧ RAns w b ns ds err e w' := by
  have hb0 : ((yn.length : Int) == 0) = true := by rw [beq_iff_eq]; omega
  clear h0
  obtain ⟨X, Y, R, g⟩ := in2_r (bx := bx) (cy := cy) w h1 h2 h3 h4
  have sr : w.heap.size ≤ w.heap.size + 1 + 1 := by omega
  have nx : w.heap.size ≠ w.heap.size + 1 + 1 := by omega
  have ny : w.heap.size + 1 ≠ w.heap.size + 1 + 1 := by omega
  clear h1 h2 h3 h4
  go_enter Tryz.func32, Tryz.ntmps32
  obtain ⟨X0, X1, X2⟩ := X.cells
  go_wp2_with fail
  clear X0 X1 X2
  generalize hA : ((w.alloc (.cells #[.bool bx, .slice a1 xn.length c1, .slice a2 xd.length c2] 25)).alloc (.cells #[.bool cy, .slice a3 yn.length c3, .slice a4 yd.length c4] 25)).alloc (.cells #[.bool false, .slice none 0 0, .slice none 0 0] 25) = v at *
  clear hA
  refine (refRight_rat X.rn X.rd).mono ?_
  rintro e wa ⟨⟨r, rfl, hr⟩, ka⟩
  replace X := X.below ka
  replace Y := Y.below ka
  replace R := R.below ka
  replace g := g.trans (ka.mono g.size)
  clear ka
  cases r with
  | false =>
    have HP : Hid (¬ RightP bx xn xd) := fun h => by have := hr.2 h; cases this
    clear hr
    have q0 := R.box.c0
    have q1 := R.box.c1
    have q2 := R.box.c2
    have p0 := R.box.f0
    have p1 := R.box.f1
    have p2 := R.box.f2
    go_wp2
    have hR3 := R.box.set (.bool false) (.slice none 0 0) (.slice none 0 0)
    have r0 := hR3.c0
    have r1 := hR3.c1
    have r2 := hR3.c2
    refine bodyPost_ret (v := .tuple #[.agg #[.bool false, .slice none 0 0, .slice none 0 0], .int .i64 22]) (by simp [results, Tryz.results32, go_sem, r0, r1, r2]) rfl ?_
    exact ⟨false, [], [], 22, Or.inl ⟨fun h => HP.out h.1, rfl, rfl, rfl, rfl⟩, Below.set3 g sr _ _ _, none, 0, none, 0, rfl, nil_rd _, nil_rd _⟩
  | true =>
    have hx : Hid (RightP bx xn xd) := hr.1 rfl
    clear hr
    obtain ⟨Y0, Y1, Y2⟩ := Y.cells
    go_wp2_with fail
    clear Y0 Y1 Y2
    refine (refRight_rat Y.rn Y.rd).mono ?_
    rintro e wb ⟨⟨r, rfl, hr⟩, kb⟩
    replace X := X.below kb
    replace Y := Y.below kb
    replace R := R.below kb
    replace g := g.trans (kb.mono g.size)
    clear kb
    cases r with
    | false =>
      have HP : Hid (¬ RightP cy yn yd) := fun h => by have := hr.2 h; cases this
      clear hr
      have q0 := R.box.c0
      have q1 := R.box.c1
      have q2 := R.box.c2
      have p0 := R.box.f0
      have p1 := R.box.f1
      have p2 := R.box.f2
      go_wp2
      have hR3 := R.box.set (.bool false) (.slice none 0 0) (.slice none 0 0)
      have r0 := hR3.c0
      have r1 := hR3.c1
      have r2 := hR3.c2
      refine bodyPost_ret (v := .tuple #[.agg #[.bool false, .slice none 0 0, .slice none 0 0], .int .i64 22]) (by simp [results, Tryz.results32, go_sem, r0, r1, r2]) rfl ?_
      exact ⟨false, [], [], 22, Or.inl ⟨fun h => HP.out h.2, rfl, rfl, rfl, rfl⟩, Below.set3 g sr _ _ _, none, 0, none, 0, rfl, nil_rd _, nil_rd _⟩
    | true =>
      have hy : Hid (RightP cy yn yd) := hr.1 rfl
      clear hr
      have l1 := hx.out.1
      have l2 := hx.out.2.1
      have l3 := hy.out.1
      have l4 := hy.out.2.1
      by_cases hx0 : xn.length = 0
      · have hx1 : ((xn.length : Int) == 0) = true := by rw [beq_iff_eq]; omega
        obtain ⟨X0, X1, X2⟩ := X.cells
        obtain ⟨Y0, Y1, Y2⟩ := Y.cells
        go_wp2_with fail
        clear X0 X1 X2 Y0 Y1 Y2
        refine (refOfInt_any 1 (by decide) (by decide) _).mono ?_
        rintro e wc ⟨k9, bo, os, od, o1, o2, o3, o4, HO, rfl, oo, oe⟩
        have R9 := R
        replace X := X.below k9
        replace Y := Y.below k9
        replace R := R.below k9
        replace g := g.trans (k9.mono g.size)
        have q0 := R.box.c0
        have q1 := R.box.c1
        have q2 := R.box.c2
        have p0 := R.box.f0
        have p1 := R.box.f1
        have p2 := R.box.f2
        go_wp2
        have hR3 := R.box.set (.bool bo) (.slice o1 os.length o2) (.slice o3 od.length o4)
        have r0 := hR3.c0
        have r1 := hR3.c1
        have r2 := hR3.c2
        refine bodyPost_ret (v := .tuple #[.agg #[.bool bo, .slice o1 os.length o2, .slice o3 od.length o4], .int .i64 0]) (by simp [results, Tryz.results32, go_sem, r0, r1, r2]) rfl ?_
        obtain ⟨e1, e2, e3⟩ := whole_one HO.out
        exact ⟨bo, os, od, 0, Or.inr (Or.inr ⟨⟨hx.out, hy.out⟩, hx0, rfl, e1, e2, e3⟩), Below.set3 g sr _ _ _, o1, o2, o3, o4, rfl, (Own.set3 oo R9.lt _ _ _).rd, (Own.set3 oe R9.lt _ _ _).rd⟩
      · have hx1 : ((xn.length : Int) == 0) = false := by rw [beq_eq_false_iff_ne]; omega
        obtain ⟨X0, X1, X2⟩ := X.cells
        obtain ⟨Y0, Y1, Y2⟩ := Y.cells
        have q0 := R.box.c0
        have q1 := R.box.c1
        have q2 := R.box.c2
        have p0 := R.box.f0
        have p1 := R.box.f1
        have p2 := R.box.f2
        go_wp2
        have hR3 := R.box.set (.bool false) (.slice none 0 0) (.slice none 0 0)
        have r0 := hR3.c0
        have r1 := hR3.c1
        have r2 := hR3.c2
        refine bodyPost_ret (v := .tuple #[.agg #[.bool false, .slice none 0 0, .slice none 0 0], .int .i64 3]) (by simp [results, Tryz.results32, go_sem, r0, r1, r2]) rfl ?_
        exact ⟨false, [], [], 3, Or.inr (Or.inl ⟨⟨hx.out, hy.out⟩, by omega, rfl, rfl, rfl, rfl⟩), Below.set3 g sr _ _ _, none, 0, none, 0, rfl, nil_rd _, nil_rd _⟩
end
end Go.Proofs.YtidbebfendjnlaaGreatDoor

/- rat.Div by 0. -/
namespace Go.Proofs.YtidbebfendjnlaaGreatDoor
set_option linter.unusedVariables false
set_option linter.unusedSimpArgs false
open Go.RowKit
section
variable {w : World} {bx cy : Bool} {a1 a2 a3 a4 : Option Addr} {c1 c2 c3 c4 : Nat} {xn xd yn yd : List Int}
set_option maxRecDepth 100000 in
set_option maxHeartbeats 16000000 in
theorem div_z (h1 : Rd w.heap.size w (.slice a1 xn.length c1) xn) (h2 : Rd w.heap.size w (.slice a2 xd.length c2) xd) (h3 : Rd w.heap.size w (.slice a3 yn.length c3) yn) (h4 : Rd w.heap.size w (.slice a4 yd.length c4) yd) (h0 : yn.length = 0) :
    Calls Tryz.prog 31 #[.agg #[.bool bx, .slice a1 xn.length c1, .slice a2 xd.length c2], .agg #[.bool cy, .slice a3 yn.length c3, .slice a4 yd.length c4]] w fun e w' => ∃ b ns ds err, Hid (DivZ (RightP bx xn xd ∧ RightP cy yn yd) xn b ns ds err) ∧ RAns w b ns ds err e w' := by
  have I := in2_new w (.bool bx) (.slice a1 xn.length c1) (.slice a2 xd.length c2) (.bool cy) (.slice a3 yn.length c3) (.slice a4 yd.length c4)
  have hb0 : decide ((yn.length : Int) > 0) = false := decide_eq_false (by omega)
  have hb1 : decide ((0 : Int) < yn.length) = false := decide_eq_false (by omega)
  have hb2 : decide (0 < yn.length) = false := decide_eq_false (by omega)
  clear h0
  go_enter Tryz.func31, Tryz.ntmps31
  go_wp2_with fail
  generalize hA : ((((w.alloc (.cells #[.bool bx, .slice a1 xn.length c1, .slice a2 xd.length c2] 25)).alloc (.cells #[.bool cy, .slice a3 yn.length c3, .slice a4 yd.length c4] 25)).alloc (.cells #[.bool false, .slice none 0 0, .slice none 0 0] 25)).alloc (.cells #[.bool bx, .slice a1 xn.length c1, .slice a2 xd.length c2, .bool cy, .slice a3 yn.length c3, .slice a4 yd.length c4] 25)) = v0 at *
  clear hA
  obtain ⟨hX, hY, hR, hT, g, s0⟩ := I
  have X : NVar v0 w.heap.size bx a1 xn c1 a2 xd c2 := ⟨by omega, hX, (h1.below g).mono g.size, (h2.below g).mono g.size⟩
  have Y : NVar v0 (w.heap.size + 1) cy a3 yn c3 a4 yd c4 := ⟨by omega, hY, (h3.below g).mono g.size, (h4.below g).mono g.size⟩
  have R : RVar v0 (w.heap.size + 1 + 1) := ⟨by omega, hR⟩
  have sr : w.heap.size ≤ w.heap.size + 1 + 1 := by omega
  clear hX hY hR h1 h2 h3 h4 s0
  refine (allRight2 hT X.rn X.rd Y.rn Y.rd (Nat.le_refl _)).mono ?_
  rintro e w0 ⟨⟨r, rfl, hr⟩, k0⟩
  replace X := X.below k0
  replace Y := Y.below k0
  replace R := R.below k0
  replace g := g.trans (k0.mono g.size)
  clear hT k0
  cases r with
  | false =>
    have HP : Hid (¬ (RightP bx xn xd ∧ RightP cy yn yd)) := fun h => by have := hr.2 h; cases this
    clear hr
    have q0 := R.box.c0
    have q1 := R.box.c1
    have q2 := R.box.c2
    have p0 := R.box.f0
    have p1 := R.box.f1
    have p2 := R.box.f2
    go_wp2
    have hR3 := R.box.set (.bool false) (.slice none 0 0) (.slice none 0 0)
    have r0 := hR3.c0
    have r1 := hR3.c1
    have r2 := hR3.c2
    refine bodyPost_ret (v := .tuple #[.agg #[.bool false, .slice none 0 0, .slice none 0 0], .int .i64 22]) (by simp [results, Tryz.results31, go_sem, r0, r1, r2]) rfl ?_
    exact ⟨false, [], [], 22, Or.inl ⟨HP.out, rfl, rfl, rfl, rfl⟩, Below.set3 g sr _ _ _, none, 0, none, 0, rfl, nil_rd _, nil_rd _⟩
  | true =>
    have HP : Hid (RightP bx xn xd ∧ RightP cy yn yd) := hr.1 rfl
    clear hr
    by_cases hx0 : xn.length = 0
    · have hx1 : decide ((xn.length : Int) > 0) = false := decide_eq_false (by omega)
      have hx2 : decide ((0 : Int) < xn.length) = false := decide_eq_false (by omega)
      have hx3 : decide (0 < xn.length) = false := decide_eq_false (by omega)
      have HX0 : Hid (xn.length = 0) := hx0
      clear hx0
      obtain ⟨X0, X1, X2⟩ := X.cells
      obtain ⟨Y0, Y1, Y2⟩ := Y.cells
      go_wp2_with fail
      clear X0 X1 X2 Y0 Y1 Y2
      refine (ofInt_any 1 (by decide) (by decide) _).mono ?_
      rintro e wc ⟨k9, bo, os, od, o1, o2, o3, o4, HO, rfl, oo, oe⟩
      have R9 := R
      replace X := X.below k9
      replace Y := Y.below k9
      replace R := R.below k9
      replace g := g.trans (k9.mono g.size)
      have q0 := R.box.c0
      have q1 := R.box.c1
      have q2 := R.box.c2
      have p0 := R.box.f0
      have p1 := R.box.f1
      have p2 := R.box.f2
      go_wp2
      have hR3 := R.box.set (.bool bo) (.slice o1 os.length o2) (.slice o3 od.length o4)
      have r0 := hR3.c0
      have r1 := hR3.c1
      have r2 := hR3.c2
      refine bodyPost_ret (v := .tuple #[.agg #[.bool bo, .slice o1 os.length o2, .slice o3 od.length o4], .int .i64 0]) (by simp [results, Tryz.results31, go_sem, r0, r1, r2]) rfl ?_
      obtain ⟨e1, e2, e3⟩ := whole_one HO.out
      exact ⟨bo, os, od, 0, Or.inr (Or.inr ⟨HP.out, HX0.out, rfl, e1, e2, e3⟩), Below.set3 g sr _ _ _, o1, o2, o3, o4, rfl, (Own.set3 oo R9.lt _ _ _).rd, (Own.set3 oe R9.lt _ _ _).rd⟩
    · have hx1 : decide ((xn.length : Int) > 0) = true := decide_eq_true (by omega)
      have hx2 : decide ((0 : Int) < xn.length) = true := decide_eq_true (by omega)
      have hx3 : decide (0 < xn.length) = true := decide_eq_true (by omega)
      obtain ⟨X0, X1, X2⟩ := X.cells
      obtain ⟨Y0, Y1, Y2⟩ := Y.cells
      have q0 := R.box.c0
      have q1 := R.box.c1
      have q2 := R.box.c2
      have p0 := R.box.f0
      have p1 := R.box.f1
      have p2 := R.box.f2
      go_wp2
      have hR3 := R.box.set (.bool false) (.slice none 0 0) (.slice none 0 0)
      have r0 := hR3.c0
      have r1 := hR3.c1
      have r2 := hR3.c2
      refine bodyPost_ret (v := .tuple #[.agg #[.bool false, .slice none 0 0, .slice none 0 0], .int .i64 3]) (by simp [results, Tryz.results31, go_sem, r0, r1, r2]) rfl ?_
      exact ⟨false, [], [], 3, Or.inr (Or.inl ⟨HP.out, by omega, rfl, rfl, rfl, rfl⟩), Below.set3 g sr _ _ _, none, 0, none, 0, rfl, nil_rd _, nil_rd _⟩
end
end Go.Proofs.YtidbebfendjnlaaGreatDoor

/- The document's Residue. -/
namespace Go.Proofs.YtidbebfendjnlaaGreatDoor
set_option linter.unusedVariables false
set_option linter.unusedSimpArgs false
open Go.RowKit

theorem RVar.by' {w : World} {j k : Nat} {c : Bool} {a3 a4 : Option Addr} {c3 c4 : Nat} {ms es : List Int} (R : RVar w j) (P : NVar w k c a3 ms c3 a4 es c4) (h : j ≠ k) (x y z : Value) : RVar (((w.setCell ⟨k, 0, none⟩ x).setCell ⟨k, 1, none⟩ y).setCell ⟨k, 2, none⟩ z) j := by
  have szz : (((w.setCell ⟨k, 0, none⟩ x).setCell ⟨k, 1, none⟩ y).setCell ⟨k, 2, none⟩ z).heap.size = w.heap.size := by simp [World.setCell]
  exact ⟨by rw [szz]; exact R.lt, R.box.other h _ _ _⟩

section
variable {w : World} {bx cy : Bool} {a1 a2 a3 a4 : Option Addr} {c1 c2 c3 c4 : Nat} {xn xd yn yd : List Int}
set_option maxRecDepth 100000 in
set_option maxHeartbeats 32000000 in
theorem refResidue_rat (h1 : Rd w.heap.size w (.slice a1 xn.length c1) xn) (h2 : Rd w.heap.size w (.slice a2 xd.length c2) xd) (h3 : Rd w.heap.size w (.slice a3 yn.length c3) yn) (h4 : Rd w.heap.size w (.slice a4 yd.length c4) yd) :
    Calls Tryz.prog 46 #[.agg #[.bool bx, .slice a1 xn.length c1, .slice a2 xd.length c2], .agg #[.bool cy, .slice a3 yn.length c3, .slice a4 yd.length c4]] w fun e w' => ResGives w (RightP bx xn xd ∧ RightP cy yn yd) bx xn xd cy yn yd e w' := by
  obtain ⟨X, Y, R, g⟩ := in2_r (bx := bx) (cy := cy) w h1 h2 h3 h4
  have sr : w.heap.size ≤ w.heap.size + 1 + 1 := by omega
  have nx : w.heap.size ≠ w.heap.size + 1 + 1 := by omega
  have ny : w.heap.size + 1 ≠ w.heap.size + 1 + 1 := by omega
  clear h1 h2 h3 h4
  go_enter Tryz.func46, Tryz.ntmps46
  obtain ⟨X0, X1, X2⟩ := X.cells
  go_wp2_with fail
  clear X0 X1 X2
  generalize hA : ((w.alloc (.cells #[.bool bx, .slice a1 xn.length c1, .slice a2 xd.length c2] 25)).alloc (.cells #[.bool cy, .slice a3 yn.length c3, .slice a4 yd.length c4] 25)).alloc (.cells #[.bool false, .slice none 0 0, .slice none 0 0] 25) = v at *
  clear hA
  refine (refRight_rat X.rn X.rd).mono ?_
  rintro e wa ⟨⟨r, rfl, hr⟩, ka⟩
  replace X := X.below ka
  replace Y := Y.below ka
  replace R := R.below ka
  replace g := g.trans (ka.mono g.size)
  clear ka
  cases r with
  | false =>
    have HP : Hid (¬ RightP bx xn xd) := fun h => by have := hr.2 h; cases this
    clear hr
    have q0 := R.box.c0
    have q1 := R.box.c1
    have q2 := R.box.c2
    have p0 := R.box.f0
    have p1 := R.box.f1
    have p2 := R.box.f2
    go_wp2
    have hR3 := R.box.set (.bool false) (.slice none 0 0) (.slice none 0 0)
    have r0 := hR3.c0
    have r1 := hR3.c1
    have r2 := hR3.c2
    refine bodyPost_ret (v := .tuple #[.agg #[.bool false, .slice none 0 0, .slice none 0 0], .int .i64 22]) (by simp [results, Tryz.results46, go_sem, r0, r1, r2]) rfl ?_
    exact res_small (Below.set3 g sr _ _ _) rfl (fun h => HP.out h.1)
  | true =>
    have hx : Hid (RightP bx xn xd) := hr.1 rfl
    clear hr
    obtain ⟨Y0, Y1, Y2⟩ := Y.cells
    go_wp2_with fail
    clear Y0 Y1 Y2
    refine (refRight_rat Y.rn Y.rd).mono ?_
    rintro e wb ⟨⟨r, rfl, hr⟩, kb⟩
    replace X := X.below kb
    replace Y := Y.below kb
    replace R := R.below kb
    replace g := g.trans (kb.mono g.size)
    clear kb
    cases r with
    | false =>
      have HP : Hid (¬ RightP cy yn yd) := fun h => by have := hr.2 h; cases this
      clear hr
      have q0 := R.box.c0
      have q1 := R.box.c1
      have q2 := R.box.c2
      have p0 := R.box.f0
      have p1 := R.box.f1
      have p2 := R.box.f2
      go_wp2
      have hR3 := R.box.set (.bool false) (.slice none 0 0) (.slice none 0 0)
      have r0 := hR3.c0
      have r1 := hR3.c1
      have r2 := hR3.c2
      refine bodyPost_ret (v := .tuple #[.agg #[.bool false, .slice none 0 0, .slice none 0 0], .int .i64 22]) (by simp [results, Tryz.results46, go_sem, r0, r1, r2]) rfl ?_
      exact res_small (Below.set3 g sr _ _ _) rfl (fun h => HP.out h.2)
    | true =>
      have hy : Hid (RightP cy yn yd) := hr.1 rfl
      clear hr
      have l1 := hx.out.1
      have l2 := hx.out.2.1
      have l3 := hy.out.1
      have l4 := hy.out.2.1
      have HP : Hid (RightP bx xn xd ∧ RightP cy yn yd) := ⟨hx.out, hy.out⟩
      by_cases hx0 : 0 < xn.length
      · have hxb : ((xn.length : Int) == 0) = false := by rw [beq_eq_false_iff_ne]; omega
        have HX0 : Hid (0 < val xn) := by
          have h5 := can_low HP.out.1.2.2.1 hx0
          have h6 := pw_pos (xn.length - 1)
          unfold Hid
          omega
        have HD1 : Hid (0 < val yd * val xn) := Int.mul_pos (right_pos HP.out.2).1 HX0.out
        obtain ⟨X0, X1, X2⟩ := X.cells
        obtain ⟨Y0, Y1, Y2⟩ := Y.cells
        go_wp2_with fail
        clear X0 X1 X2 Y0 Y1 Y2
        refine (refDiv_nz Y.rn Y.rd X.rn X.rd hx0).mono ?_
        intro e w1 hm
        obtain ⟨k2, ⟨rfl, hbig⟩ | ⟨bq, nq, dq, xq, yq, uq, tq, rfl, oq, qq, Pq, hq⟩⟩ := gives_or hm ⟨HP.out.2, HP.out.1⟩
        · replace X := X.below k2
          replace Y := Y.below k2
          replace R := R.below k2
          replace g := g.trans (k2.mono g.size)
          have HB : Hid (ResBig (sg cy (val yn) * sg bx (val xd)) (val yd * val xn) (sg bx (val xn)) (val xd) (sg cy (val yn)) (val yd)) := Or.inl hbig
          clear hbig hm
          have kz3 := below_alloc w1 (.cells #[.bool false, .slice none 0 0, .slice none 0 0] 25)
          replace X := X.below kz3
          replace Y := Y.below kz3
          replace R := R.below kz3
          replace g := g.trans (kz3.mono g.size)
          clear kz3
          have q0 := R.box.c0
          have q1 := R.box.c1
          have q2 := R.box.c2
          have p0 := R.box.f0
          have p1 := R.box.f1
          have p2 := R.box.f2
          go_wp2
          have hR3 := R.box.set (.bool false) (.slice none 0 0) (.slice none 0 0)
          have r0 := hR3.c0
          have r1 := hR3.c1
          have r2 := hR3.c2
          refine bodyPost_ret (v := .tuple #[.agg #[.bool false, .slice none 0 0, .slice none 0 0], .int .i64 8]) (by simp [results, Tryz.results46, go_sem, r0, r1, r2]) rfl ?_
          exact res_big (Below.set3 g sr _ _ _) rfl HP.out hx0 HB.out
        · replace X := X.below k2
          replace Y := Y.below k2
          replace R := R.below k2
          replace g := g.trans (k2.mono g.size)
          clear hm
          have HQ : Hid (RightP bq nq dq ∧ sg bq (val nq) / val dq = (sg cy (val yn) * sg bx (val xd)) / (val yd * val xn) ∧ ¬ Big (sg cy (val yn) * sg bx (val xd)) (val yd * val xn)) := ⟨Pq, floor_cross HD1.out (right_pos Pq).1 hq, not_big Pq hq HD1.out⟩
          clear Pq hq
          have neX : w.heap.size ≠ w1.heap.size := Nat.ne_of_lt X.lt
          have neY : w.heap.size + 1 ≠ w1.heap.size := Nat.ne_of_lt Y.lt
          have neR : w.heap.size + 1 + 1 ≠ w1.heap.size := Nat.ne_of_lt R.lt
          have leQ : w.heap.size ≤ w1.heap.size := g.size
          have ka4 := below_alloc w1 (.cells #[.bool bq, .slice xq nq.length yq, .slice uq dq.length tq] 25)
          have Q := nvar_new (b := bq) oq.rd qq.rd
          replace X := X.below ka4
          replace Y := Y.below ka4
          replace R := R.below ka4
          replace g := g.trans (ka4.mono g.size)
          clear ka4
          obtain ⟨Q0, Q1, Q2⟩ := Q.cells
          go_wp2_with fail
          clear Q0 Q1 Q2
          generalize hA : (w1.alloc (.cells #[.bool bq, .slice xq nq.length yq, .slice uq dq.length tq] 25)) = v5 at *
          clear hA
          refine (refFloor_rat Q.rn Q.rd).mono ?_
          intro e w6 hm
          obtain ⟨k7, ⟨rfl, hbig⟩ | ⟨bf, nf, df, xf, yf, uf, tf, rfl, of, qf, Pf, hf⟩⟩ := gives_or hm HQ.out.1
          · replace X := X.below k7
            replace Y := Y.below k7
            replace Q := Q.below k7
            replace R := R.below k7
            replace g := g.trans (k7.mono g.size)
            have HB : Hid (ResBig (sg cy (val yn) * sg bx (val xd)) (val yd * val xn) (sg bx (val xn)) (val xd) (sg cy (val yn)) (val yd)) := Or.inr (Or.inl (by rw [HQ.out.2.1] at hbig; exact hbig))
            clear hbig hm
            have z0 := Q.box.c0
            have z1 := Q.box.c1
            have z2 := Q.box.c2
            have y0 := Q.box.f0
            have y1 := Q.box.f1
            have y2 := Q.box.f2
            replace R := R.by' Q neR (.bool false) (.slice none 0 0) (.slice none 0 0)
            replace g := Below.set3 g leQ (.bool false) (.slice none 0 0) (.slice none 0 0)
            have q0 := R.box.c0
            have q1 := R.box.c1
            have q2 := R.box.c2
            have p0 := R.box.f0
            have p1 := R.box.f1
            have p2 := R.box.f2
            go_wp2
            have hR3 := R.box.set (.bool false) (.slice none 0 0) (.slice none 0 0)
            have r0 := hR3.c0
            have r1 := hR3.c1
            have r2 := hR3.c2
            refine bodyPost_ret (v := .tuple #[.agg #[.bool false, .slice none 0 0, .slice none 0 0], .int .i64 8]) (by simp [results, Tryz.results46, go_sem, r0, r1, r2]) rfl ?_
            exact res_big (Below.set3 g sr _ _ _) rfl HP.out hx0 HB.out
          · replace X := X.below k7
            replace Y := Y.below k7
            replace Q := Q.below k7
            replace R := R.below k7
            replace g := g.trans (k7.mono g.size)
            clear hm
            rw [HQ.out.2.1] at hf
            have HF : Hid (RightP bf nf df ∧ df = [1] ∧ sg bf (val nf) = (sg cy (val yn) * sg bx (val xd)) / (val yd * val xn) ∧ ¬ Big ((sg cy (val yn) * sg bx (val xd)) / (val yd * val xn)) 1) := by
              have h5 := not_big Pf hf (by decide)
              rw [Int.mul_one] at hf
              have e2 := whole_den Pf.2.2.1 Pf.2.2.2.1 Pf.2.2.2.2.2.1 Pf.2.2.2.2.2.2 hf
              refine ⟨Pf, e2, ?_, h5⟩
              rw [hf, e2, one_val, Int.mul_one]
            clear Pf hf
            have z0 := Q.box.c0
            have z1 := Q.box.c1
            have z2 := Q.box.c2
            have y0 := Q.box.f0
            have y1 := Q.box.f1
            have y2 := Q.box.f2
            replace X := X.by' Q neX (.bool bf) (.slice xf nf.length yf) (.slice uf df.length tf)
            replace Y := Y.by' Q neY (.bool bf) (.slice xf nf.length yf) (.slice uf df.length tf)
            replace R := R.by' Q neR (.bool bf) (.slice xf nf.length yf) (.slice uf df.length tf)
            replace Q := Q.put (c := bf) of.rd qf.rd
            replace g := Below.set3 g leQ (.bool bf) (.slice xf nf.length yf) (.slice uf df.length tf)
            obtain ⟨X0, X1, X2⟩ := X.cells
            obtain ⟨Q0, Q1, Q2⟩ := Q.cells
            go_wp2_with fail
            clear X0 X1 X2 Q0 Q1 Q2
            clear z0 z1 z2 y0 y1 y2
            generalize hA : (((w6.setCell ⟨w1.heap.size, 0, none⟩ (.bool bf)).setCell ⟨w1.heap.size, 1, none⟩ (.slice xf nf.length yf)).setCell ⟨w1.heap.size, 2, none⟩ (.slice uf df.length tf)) = v8 at *
            clear hA
            have hf1 : Hid (RightP bf nf df) := HF.out.1
            refine (refTimes_rat X.rn X.rd Q.rn Q.rd hx hf1).mono ?_
            intro e w9 hm
            obtain ⟨k10, ⟨rfl, hbig⟩ | ⟨bt, nt, dt, xt, yt, ut, tt, rfl, ot, qt, Pt, ht⟩⟩ := gives_or (hm.gives True.intro) True.intro
            · replace X := X.below k10
              replace Y := Y.below k10
              replace Q := Q.below k10
              replace R := R.below k10
              replace g := g.trans (k10.mono g.size)
              have HB : Hid (ResBig (sg cy (val yn) * sg bx (val xd)) (val yd * val xn) (sg bx (val xn)) (val xd) (sg cy (val yn)) (val yd)) := Or.inr (Or.inr (Or.inl (by rw [HF.out.2.1, one_val, Int.mul_one, HF.out.2.2.1] at hbig; exact hbig)))
              clear hbig hm
              have kz11 := below_alloc w9 (.cells #[.bool false, .slice none 0 0, .slice none 0 0] 25)
              replace X := X.below kz11
              replace Y := Y.below kz11
              replace Q := Q.below kz11
              replace R := R.below kz11
              replace g := g.trans (kz11.mono g.size)
              clear kz11
              have q0 := R.box.c0
              have q1 := R.box.c1
              have q2 := R.box.c2
              have p0 := R.box.f0
              have p1 := R.box.f1
              have p2 := R.box.f2
              go_wp2
              have hR3 := R.box.set (.bool false) (.slice none 0 0) (.slice none 0 0)
              have r0 := hR3.c0
              have r1 := hR3.c1
              have r2 := hR3.c2
              refine bodyPost_ret (v := .tuple #[.agg #[.bool false, .slice none 0 0, .slice none 0 0], .int .i64 8]) (by simp [results, Tryz.results46, go_sem, r0, r1, r2]) rfl ?_
              exact res_big (Below.set3 g sr _ _ _) rfl HP.out hx0 HB.out
            · replace X := X.below k10
              replace Y := Y.below k10
              replace Q := Q.below k10
              replace R := R.below k10
              replace g := g.trans (k10.mono g.size)
              clear hm
              have neV : w9.heap.size ≠ w.heap.size + 1 + 1 := Nat.ne_of_gt R.lt
              have HT : Hid (RightP bt nt dt ∧ sg bt (val nt) * val xd = sg bx (val xn) * ((sg cy (val yn) * sg bx (val xd)) / (val yd * val xn)) * val dt ∧ ¬ Big (sg bx (val xn) * ((sg cy (val yn) * sg bx (val xd)) / (val yd * val xn))) (val xd)) := by
                rw [HF.out.2.1, one_val, Int.mul_one, HF.out.2.2.1] at ht
                exact ⟨Pt, ht, not_big Pt ht (right_pos HP.out.1).1⟩
              clear Pt ht
              have ka12 := below_alloc w9 (.cells #[.bool bt, .slice xt nt.length yt, .slice ut dt.length tt] 25)
              have V := nvar_new (b := bt) ot.rd qt.rd
              replace X := X.below ka12
              replace Y := Y.below ka12
              replace Q := Q.below ka12
              replace R := R.below ka12
              replace g := g.trans (ka12.mono g.size)
              clear ka12
              go_wp2
              generalize hA : (w9.alloc (.cells #[.bool bt, .slice xt nt.length yt, .slice ut dt.length tt] 25)) = v13 at *
              clear hA
              have hcells : ∀ {w' : World}, Below v13.heap.size v13 w' → w'.cell? ⟨(w.heap.size + 1), 0, none⟩ = some (.bool cy) ∧ w'.cell? ⟨(w.heap.size + 1), 1, none⟩ = some (.slice a3 yn.length c3) ∧ w'.cell? ⟨(w.heap.size + 1), 2, none⟩ = some (.slice a4 yd.length c4) ∧ w'.cell? ⟨w9.heap.size, 0, none⟩ = some (.bool bt) ∧ w'.cell? ⟨w9.heap.size, 1, none⟩ = some (.slice xt nt.length yt) ∧ w'.cell? ⟨w9.heap.size, 2, none⟩ = some (.slice ut dt.length tt) := fun hb => ⟨(Y.below hb).k0, (Y.below hb).k1, (Y.below hb).k2, (V.below hb).k0, (V.below hb).k1, (V.below hb).k2⟩
              obtain ⟨s0, s1, s2, s3, s4, s5⟩ := hcells (Below.refl _ _)
              have m1 : nt.length ≤ 10000 := Nat.le_trans HT.out.1.1 (by decide)
              have m2 : dt.length ≤ 10000 := Nat.le_trans HT.out.1.2.1 (by decide)
              have M : Hid (can nt ∧ can dt) := ⟨HT.out.1.2.2.1, HT.out.1.2.2.2.1⟩
              have HN := right_with (!bt) HT.out.1
              have HC : Hid ((sg cy (val yn) * val dt + sg (!bt) (val nt) * val yd) * (val yd * val xd) = (sg cy (val yn) * val xd + -(sg bx (val xn) * ((sg cy (val yn) * sg bx (val xd)) / (val yd * val xn))) * val yd) * (val yd * val dt)) := by
                unfold Hid
                rw [sg_not]
                exact res_cross HT.out.2.1
              have HDt : Hid (0 < val yd * val dt) := Int.mul_pos (right_pos HP.out.2).1 (right_pos HT.out.1).1
              have HDx : Hid (0 < val yd * val xd) := Int.mul_pos (right_pos HP.out.2).1 (right_pos HP.out.1).1
              have nv : w9.heap.size ≠ w.heap.size + 1 + 1 := by have h5 := neV; exact h5
              go_region_held3 (fun w' => w'.cell? ⟨(w.heap.size + 1), 0, none⟩ = some (.bool cy) ∧ w'.cell? ⟨(w.heap.size + 1), 1, none⟩ = some (.slice a3 yn.length c3) ∧ w'.cell? ⟨(w.heap.size + 1), 2, none⟩ = some (.slice a4 yd.length c4) ∧ w'.cell? ⟨w9.heap.size, 0, none⟩ = some (.bool bt) ∧ w'.cell? ⟨w9.heap.size, 1, none⟩ = some (.slice xt nt.length yt) ∧ w'.cell? ⟨w9.heap.size, 2, none⟩ = some (.slice ut dt.length tt))
                (first | (go_keep; done) | exact tw1 | exact tw2 | exact tws)
                (first
                  | (have j := tw1; go_at_call 78; refine (refTwo_rat (Y.below t1).rn (Y.below t1).rd on.rd od.rd hy HN.1).mono ?_; intro e u2 hm6; rw [HN.2] at hm6; obtain ⟨bm6, b6, x5, n5, y5, x6, n6, y6, err, rfl, hform⟩ := (RMakes.from' t1 hm6).form; have tw2 := hcells bm6; have YF := Y.below bm6; have VF := V.below bm6; have RF := R.below bm6; have tws := And.intro (YF.box.other ny (.bool b6) (.slice x5 n5 y5) (.slice x6 n6 y6)).c0 (And.intro (YF.box.other ny (.bool b6) (.slice x5 n5 y5) (.slice x6 n6 y6)).c1 (And.intro (YF.box.other ny (.bool b6) (.slice x5 n5 y5) (.slice x6 n6 y6)).c2 (And.intro (VF.box.other nv (.bool b6) (.slice x5 n5 y5) (.slice x6 n6 y6)).c0 (And.intro (VF.box.other nv (.bool b6) (.slice x5 n5 y5) (.slice x6 n6 y6)).c1 (VF.box.other nv (.bool b6) (.slice x5 n5 y5) (.slice x6 n6 y6)).c2)))); have q0 := RF.box.c0; have q1 := RF.box.c1; have q2 := RF.box.c2; have p0 := RF.box.f0; have p1 := RF.box.f1; have p2 := RF.box.f2)
                  | (go_at_call 82; refine (refNeg_num (w := v13.drew) V.rn V.rd m1 m2 M).mono ?_; rintro e u1 ⟨j1, z1, y1, z2, y2, rfl, on, od⟩; have t1 : Below v13.heap.size v13 u1 := below_undrew (w := v13) (B := v13.heap.size) j1; have tw1 := hcells t1))
              all_goals
                go_wp2
                have hR3 := RF.box.set (.bool b6) (.slice x5 n5 y5) (.slice x6 n6 y6)
                have r0 := hR3.c0
                have r1 := hR3.c1
                have r2 := hR3.c2
                refine bodyPost_ret (v := .tuple #[.agg #[.bool b6, .slice x5 n5 y5, .slice x6 n6 y6], .int .i64 err]) (by simp [results, Tryz.results46, go_sem, r0, r1, r2]) rfl ?_
                obtain ⟨gb, hor⟩ := gives_or ((rform_done g sr R.lt bm6 hform).gives True.intro) True.intro
                rcases hor with ⟨he, hbig⟩ | ⟨b7, ns, ds, x7, y7, x8, y8, he, on7, od7, hr, hv⟩
                · exact res_big gb he HP.out hx0 (Or.inr (Or.inr (Or.inr (big_cross HDt.out HC.out hbig))))
                · have hv2 : sg b7 (val ns) * (val yd * val xd) = (sg cy (val yn) * val xd + -(sg bx (val xn) * ((sg cy (val yn) * sg bx (val xd)) / (val yd * val xn))) * val yd) * val ds := by
                    refine cancel HDt.out ?_
                    have e1 : sg b7 (val ns) * (val yd * val xd) * (val yd * val dt) = sg b7 (val ns) * (val yd * val dt) * (val yd * val xd) := by ac_rfl
                    have e2 : (sg cy (val yn) * val xd + -(sg bx (val xn) * ((sg cy (val yn) * sg bx (val xd)) / (val yd * val xn))) * val yd) * val ds * (val yd * val dt) = (sg cy (val yn) * val xd + -(sg bx (val xn) * ((sg cy (val yn) * sg bx (val xd)) / (val yd * val xn))) * val yd) * (val yd * val dt) * val ds := by ac_rfl
                    rw [e1, hv, e2, ← HC.out]
                    ac_rfl
                  refine ⟨gb, b7, x7, ns.length, y7, x8, ds.length, y8, 0, he, Or.inr (Or.inr (Or.inr ⟨HP.out, hx0, rfl, ?_, ns, ds, rfl, rfl, on7, od7, hr, hv2⟩))⟩
                  rintro (h | h | h | h)
                  · exact HQ.out.2.2 h
                  · exact HF.out.2.2.2 h
                  · exact HT.out.2.2 h
                  · exact not_big hr hv2 HDx.out h
      · have hxb : ((xn.length : Int) == 0) = true := by rw [beq_iff_eq]; omega
        have Hz : Hid (xn.length = 0) := by unfold Hid; omega
        have m1 : yn.length ≤ 10000 := by omega
        have m2 : yd.length ≤ 10000 := by omega
        have M : Hid (can yn ∧ can yd) := ⟨hy.out.2.2.1, hy.out.2.2.2.1⟩
        obtain ⟨X0, X1, X2⟩ := X.cells
        obtain ⟨Y0, Y1, Y2⟩ := Y.cells
        go_wp2_with fail
        clear X0 X1 X2 Y0 Y1 Y2
        have gk := g
        have Rk := R
        refine (refCopied_any Y.rn Y.rd m1 m2 M).mono ?_
        rintro e wz ⟨kz, x5, y5, x6, y6, rfl, on, od⟩
        replace X := X.below kz
        replace Y := Y.below kz
        replace R := R.below kz
        replace g := g.trans (kz.mono g.size)
        have q0 := R.box.c0
        have q1 := R.box.c1
        have q2 := R.box.c2
        have p0 := R.box.f0
        have p1 := R.box.f1
        have p2 := R.box.f2
        go_wp2
        have hR3 := R.box.set (.bool cy) (.slice x5 yn.length y5) (.slice x6 yd.length y6)
        have r0 := hR3.c0
        have r1 := hR3.c1
        have r2 := hR3.c2
        refine bodyPost_ret (v := .tuple #[.agg #[.bool cy, .slice x5 yn.length y5, .slice x6 yd.length y6], .int .i64 0]) (by simp [results, Tryz.results46, go_sem, r0, r1, r2]) rfl ?_
        exact ⟨Below.set3 g sr _ _ _, cy, x5, yn.length, y5, x6, yd.length, y6, 0, rfl, Or.inr (Or.inl ⟨HP.out, Hz.out, rfl, rfl, rfl, rfl, (Own.set3 on Rk.lt _ _ _).mono gk.size, (Own.set3 od Rk.lt _ _ _).mono gk.size⟩)⟩
end
end Go.Proofs.YtidbebfendjnlaaGreatDoor

/- rat.Binomial of every two numbers. -/
namespace Go.Proofs.YtidbebfendjnlaaGreatDoor
set_option linter.unusedVariables false
set_option linter.unusedSimpArgs false
open Go.RowKit

/-- What a number of sets answers: N of them. -/
def CountSpec (P C : Prop) (N : Nat) (b : Bool) (ns ds : List Int) (err : Int) : Prop :=
  (¬ P ∧ err = 22 ∧ b = false ∧ ns = [] ∧ ds = []) ∨ (P ∧ ¬ C ∧ err = 3 ∧ b = false ∧ ns = [] ∧ ds = []) ∨ (P ∧ C ∧ pw 32 ≤ (N : Int) ∧ err = 8 ∧ b = false ∧ ns = [] ∧ ds = []) ∨ (P ∧ C ∧ (N : Int) < pw 32 ∧ err = 0 ∧ b = false ∧ can ns ∧ val ns = (N : Int) ∧ ds = [1])
theorem CountSpec.unique {P C : Prop} {N : Nat} {b c : Bool} {ns ds ms es : List Int} {e f : Int} (h : CountSpec P C N b ns ds e) (k : CountSpec P C N c ms es f) : c = b ∧ ms = ns ∧ es = ds ∧ f = e := by
  rcases h with ⟨hp, rfl, rfl, rfl, rfl⟩ | ⟨hp, hc, rfl, rfl, rfl, rfl⟩ | ⟨hp, hc, h1, rfl, rfl, rfl, rfl⟩ | ⟨hp, hc, h1, rfl, rfl, cn, vn, rfl⟩ <;> rcases k with ⟨kp, rfl, rfl, rfl, rfl⟩ | ⟨kp, kc, rfl, rfl, rfl, rfl⟩ | ⟨kp, kc, k1, rfl, rfl, rfl, rfl⟩ | ⟨kp, kc, k1, rfl, rfl, cm, vm, rfl⟩
  all_goals first | exact ⟨rfl, rfl, rfl, rfl⟩ | exact absurd kp hp | exact absurd hp kp | exact absurd kc hc | exact absurd hc kc | (exfalso; omega) | exact ⟨rfl, can_inj cm cn (by rw [vn, vm]), rfl, rfl⟩

section
variable {w : World} {bx cy : Bool} {a1 a2 a3 a4 : Option Addr} {c1 c2 c3 c4 : Nat} {xn xd yn yd : List Int}
set_option maxRecDepth 100000 in
set_option maxHeartbeats 16000000 in
theorem binomial_err (h1 : Rd w.heap.size w (.slice a1 xn.length c1) xn) (h2 : Rd w.heap.size w (.slice a2 xd.length c2) xd) (h3 : Rd w.heap.size w (.slice a3 yn.length c3) yn) (h4 : Rd w.heap.size w (.slice a4 yd.length c4) yd) (hno : Hid (¬ ((RightP bx xn xd ∧ RightP cy yn yd) ∧ IsCount bx xd ∧ IsCount cy yd))) :
    Calls Tryz.prog 51 #[.agg #[.bool bx, .slice a1 xn.length c1, .slice a2 xd.length c2], .agg #[.bool cy, .slice a3 yn.length c3, .slice a4 yd.length c4]] w fun e w' => ∃ b ns ds err, Hid (CountSpec (RightP bx xn xd ∧ RightP cy yn yd) (IsCount bx xd ∧ IsCount cy yd) (binom (val yn).toNat (val xn).toNat) b ns ds err) ∧ RAns w b ns ds err e w' := by
  have I := in2_new w (.bool bx) (.slice a1 xn.length c1) (.slice a2 xd.length c2) (.bool cy) (.slice a3 yn.length c3) (.slice a4 yd.length c4)
  go_enter Tryz.func51, Tryz.ntmps51
  go_wp2_with fail
  generalize hA : ((((w.alloc (.cells #[.bool bx, .slice a1 xn.length c1, .slice a2 xd.length c2] 25)).alloc (.cells #[.bool cy, .slice a3 yn.length c3, .slice a4 yd.length c4] 25)).alloc (.cells #[.bool false, .slice none 0 0, .slice none 0 0] 25)).alloc (.cells #[.bool bx, .slice a1 xn.length c1, .slice a2 xd.length c2, .bool cy, .slice a3 yn.length c3, .slice a4 yd.length c4] 25)) = v0 at *
  clear hA
  obtain ⟨hX, hY, hR, hT, g, s0⟩ := I
  have X : NVar v0 w.heap.size bx a1 xn c1 a2 xd c2 := ⟨by omega, hX, (h1.below g).mono g.size, (h2.below g).mono g.size⟩
  have Y : NVar v0 (w.heap.size + 1) cy a3 yn c3 a4 yd c4 := ⟨by omega, hY, (h3.below g).mono g.size, (h4.below g).mono g.size⟩
  have R : RVar v0 (w.heap.size + 1 + 1) := ⟨by omega, hR⟩
  have sr : w.heap.size ≤ w.heap.size + 1 + 1 := by omega
  clear hX hY hR h1 h2 h3 h4 s0
  refine (allRight2 hT X.rn X.rd Y.rn Y.rd (Nat.le_refl _)).mono ?_
  rintro e w0 ⟨⟨r, rfl, hr⟩, k0⟩
  replace X := X.below k0
  replace Y := Y.below k0
  replace R := R.below k0
  replace g := g.trans (k0.mono g.size)
  clear hT k0
  cases r with
  | false =>
    have HP : Hid (¬ (RightP bx xn xd ∧ RightP cy yn yd)) := fun h => by have := hr.2 h; cases this
    clear hr
    have q0 := R.box.c0
    have q1 := R.box.c1
    have q2 := R.box.c2
    have p0 := R.box.f0
    have p1 := R.box.f1
    have p2 := R.box.f2
    go_wp2
    have hR3 := R.box.set (.bool false) (.slice none 0 0) (.slice none 0 0)
    have r0 := hR3.c0
    have r1 := hR3.c1
    have r2 := hR3.c2
    refine bodyPost_ret (v := .tuple #[.agg #[.bool false, .slice none 0 0, .slice none 0 0], .int .i64 22]) (by simp [results, Tryz.results51, go_sem, r0, r1, r2]) rfl ?_
    exact ⟨false, [], [], 22, Or.inl ⟨HP.out, rfl, rfl, rfl, rfl⟩, Below.set3 g sr _ _ _, none, 0, none, 0, rfl, nil_rd _, nil_rd _⟩
  | true =>
    have HP : Hid (RightP bx xn xd ∧ RightP cy yn yd) := hr.1 rfl
    clear hr
    obtain ⟨X0, X1, X2⟩ := X.cells
    obtain ⟨Y0, Y1, Y2⟩ := Y.cells
    go_wp2_with fail
    clear X0 X1 X2 Y0 Y1 Y2
    refine (isCount_any X.rn X.rd).mono ?_
    rintro e w1 ⟨⟨r, rfl, hr⟩, k1⟩
    replace X := X.below k1
    replace Y := Y.below k1
    replace R := R.below k1
    replace g := g.trans (k1.mono g.size)
    clear k1
    cases r with
    | false =>
      have HC : Hid (¬ IsCount bx xd) := fun h => by have := hr.2 h; cases this
      clear hr
      have q0 := R.box.c0
      have q1 := R.box.c1
      have q2 := R.box.c2
      have p0 := R.box.f0
      have p1 := R.box.f1
      have p2 := R.box.f2
      go_wp2
      have hR3 := R.box.set (.bool false) (.slice none 0 0) (.slice none 0 0)
      have r0 := hR3.c0
      have r1 := hR3.c1
      have r2 := hR3.c2
      refine bodyPost_ret (v := .tuple #[.agg #[.bool false, .slice none 0 0, .slice none 0 0], .int .i64 3]) (by simp [results, Tryz.results51, go_sem, r0, r1, r2]) rfl ?_
      exact ⟨false, [], [], 3, Or.inr (Or.inl ⟨HP.out, fun h => HC.out h.1, rfl, rfl, rfl, rfl⟩), Below.set3 g sr _ _ _, none, 0, none, 0, rfl, nil_rd _, nil_rd _⟩
    | true =>
      have HC : Hid (IsCount bx xd) := hr.1 rfl
      clear hr
      obtain ⟨X0, X1, X2⟩ := X.cells
      obtain ⟨Y0, Y1, Y2⟩ := Y.cells
      go_wp2_with fail
      clear X0 X1 X2 Y0 Y1 Y2
      refine (isCount_any Y.rn Y.rd).mono ?_
      rintro e w2 ⟨⟨r, rfl, hr⟩, k2⟩
      replace X := X.below k2
      replace Y := Y.below k2
      replace R := R.below k2
      replace g := g.trans (k2.mono g.size)
      clear k2
      cases r with
      | false =>
        have HD : Hid (¬ IsCount cy yd) := fun h => by have := hr.2 h; cases this
        clear hr
        have q0 := R.box.c0
        have q1 := R.box.c1
        have q2 := R.box.c2
        have p0 := R.box.f0
        have p1 := R.box.f1
        have p2 := R.box.f2
        go_wp2
        have hR3 := R.box.set (.bool false) (.slice none 0 0) (.slice none 0 0)
        have r0 := hR3.c0
        have r1 := hR3.c1
        have r2 := hR3.c2
        refine bodyPost_ret (v := .tuple #[.agg #[.bool false, .slice none 0 0, .slice none 0 0], .int .i64 3]) (by simp [results, Tryz.results51, go_sem, r0, r1, r2]) rfl ?_
        exact ⟨false, [], [], 3, Or.inr (Or.inl ⟨HP.out, fun h => HD.out h.2, rfl, rfl, rfl, rfl⟩), Below.set3 g sr _ _ _, none, 0, none, 0, rfl, nil_rd _, nil_rd _⟩
      | true =>
        exact absurd ⟨HP.out, HC.out, hr.1 rfl⟩ hno.out

theorem binomial_rat (h1 : Rd w.heap.size w (.slice a1 xn.length c1) xn) (h2 : Rd w.heap.size w (.slice a2 xd.length c2) xd) (h3 : Rd w.heap.size w (.slice a3 yn.length c3) yn) (h4 : Rd w.heap.size w (.slice a4 yd.length c4) yd) :
    Calls Tryz.prog 51 #[.agg #[.bool bx, .slice a1 xn.length c1, .slice a2 xd.length c2], .agg #[.bool cy, .slice a3 yn.length c3, .slice a4 yd.length c4]] w fun e w' => ∃ b ns ds err, Hid (CountSpec (RightP bx xn xd ∧ RightP cy yn yd) (IsCount bx xd ∧ IsCount cy yd) (binom (val yn).toNat (val xn).toNat) b ns ds err) ∧ RAns w b ns ds err e w' := by
  by_cases hc : (RightP bx xn xd ∧ RightP cy yn yd) ∧ IsCount bx xd ∧ IsCount cy yd
  · obtain ⟨⟨rx, ry⟩, cx, cc⟩ := hc
    obtain ⟨dx, hb⟩ := cx
    obtain ⟨dy, hb2⟩ := cc
    subst hb hb2
    have px := (right_pos rx).2
    have py := (right_pos ry).2
    refine (binomial_any h1 h2 h3 h4 ⟨rx, dx⟩ ⟨ry, dy⟩ (val xn).toNat (val yn).toNat (show val xn = _ by omega) (show val yn = _ by omega)).mono ?_
    rintro e w' ⟨hb, ⟨hg, he⟩ | ⟨hf, zs, ds, z1, z2, z3, z4, cz, vz, hd, he, on, od⟩⟩
    · exact ⟨false, [], [], 8, Or.inr (Or.inr (Or.inl ⟨⟨rx, ry⟩, ⟨⟨dx, rfl⟩, ⟨dy, rfl⟩⟩, hg, rfl, rfl, rfl, rfl⟩)), hb, none, 0, none, 0, he, nil_rd _, nil_rd _⟩
    · exact ⟨false, zs, ds, 0, Or.inr (Or.inr (Or.inr ⟨⟨rx, ry⟩, ⟨⟨dx, rfl⟩, ⟨dy, rfl⟩⟩, hf, rfl, rfl, cz, vz, hd.out⟩)), hb, z1, z2, z3, z4, he, on.rd, od.rd⟩
  · exact binomial_err h1 h2 h3 h4 hc
end
end Go.Proofs.YtidbebfendjnlaaGreatDoor
