/- array.copyOf of a number, array.Rat, array.Int. -/
import Derived.Test.YthfmicokddcglaaGreatDoorKX
import Derived.Test.YthfmicokddcglaaGreatDoorJ6
import Derived.Test.YthfmicokddcglaaGreatDoorKY
import Derived.Deep.RegionHeld3
import Derived.Test.YthfmicokddcglaaGreatDoorJ4
namespace Go.Proofs.YthfmicokddcglaaGreatDoor
set_option linter.unusedVariables false
set_option linter.unusedSimpArgs false
open Go.RowKit

section
variable {w : World} {b : Bool} {a1 a2 : Option Addr} {c1 c2 : Nat} {ns ds : List Int}
set_option maxRecDepth 100000 in
set_option maxHeartbeats 16000000 in
theorem copyOf_num (h1 : Rd w.heap.size w (.slice a1 ns.length c1) ns) (h2 : Rd w.heap.size w (.slice a2 ds.length c2) ds) (l1 : ns.length * 4 ≤ 140737488355328) (l2 : ds.length * 4 ≤ 140737488355328) :
    Calls Tryz.prog 77 #[.agg #[.int .u8 1, .bool b, .slice a1 ns.length c1, .slice a2 ds.length c2, .int .i32 0, .slice none 0 0]] w fun e w' => ∃ x1 y1 x2 y2, e = .returned (.agg #[.int .u8 1, .bool b, .slice x1 ns.length y1, .slice x2 ds.length y2, .int .i32 0, .slice none 0 0]) ∧ Own w.heap.size w' (.slice x1 ns.length y1) ns ∧ Own w.heap.size w' (.slice x2 ds.length y2) ds ∧ Below w.heap.size w w' := by
  have X0 := boxA_new w #[.int .u8 1, .bool b, .slice a1 ns.length c1, .slice a2 ds.length c2, .int .i32 0, .slice none 0 0] 45
  have k0 := below_alloc w (.cells #[.int .u8 1, .bool b, .slice a1 ns.length c1, .slice a2 ds.length c2, .int .i32 0, .slice none 0 0] 45)
  have k1 := below_alloc (w.alloc (.cells #[.int .u8 1, .bool b, .slice a1 ns.length c1, .slice a2 ds.length c2, .int .i32 0, .slice none 0 0] 45)) (.cells #[.int .u8 0, .bool false, .slice none 0 0, .slice none 0 0, .int .i32 0, .slice none 0 0] 45)
  have R := boxA_new (w.alloc (.cells #[.int .u8 1, .bool b, .slice a1 ns.length c1, .slice a2 ds.length c2, .int .i32 0, .slice none 0 0] 45)) #[.int .u8 0, .bool false, .slice none 0 0, .slice none 0 0, .int .i32 0, .slice none 0 0] 45
  rw [World.size_alloc] at R
  have X := X0.below k1 (by simp)
  have g : Below w.heap.size w _ := k0.trans (k1.mono (by simp))
  have sv : ((w.alloc (.cells #[.int .u8 1, .bool b, .slice a1 ns.length c1, .slice a2 ds.length c2, .int .i32 0, .slice none 0 0] 45)).alloc (.cells #[.int .u8 0, .bool false, .slice none 0 0, .slice none 0 0, .int .i32 0, .slice none 0 0] 45)).heap.size = w.heap.size + 1 + 1 := by simp
  replace h1 := h1.below g
  replace h2 := h2.below g
  obtain ⟨X0', X1, X2, X3, X4, X5⟩ := X.num
  go_enter Tryz.func77, Tryz.ntmps77
  go_upto_region 6 with fail
  generalize hA : (w.alloc (.cells #[.int .u8 1, .bool b, .slice a1 ns.length c1, .slice a2 ds.length c2, .int .i32 0, .slice none 0 0] 45)).alloc (.cells #[.int .u8 0, .bool false, .slice none 0 0, .slice none 0 0, .int .i32 0, .slice none 0 0] 45) = v at *
  clear hA k0 k1 X0
  have hcells : ∀ {w' : World}, Below v.heap.size v w' → w'.cell? ⟨w.heap.size, 1, none⟩ = some (.bool b) ∧ w'.cell? ⟨w.heap.size, 2, none⟩ = some (.slice a1 ns.length c1) ∧ w'.cell? ⟨w.heap.size, 3, none⟩ = some (.slice a2 ds.length c2) := fun hb => by
    obtain ⟨_, q1, q2, q3, _, _⟩ := (X.below hb (by omega)).num
    exact ⟨q1, q2, q3⟩
  have d0 : Below v.heap.size v v.drew := ⟨rfl, rfl, rfl, Nat.le_refl _, fun _ _ => rfl⟩
  have h1' : Rd v.drew.heap.size v.drew (.slice a1 ns.length c1) ns := h1.mono (by simp; omega)
  have h2' : Rd v.heap.size v (.slice a2 ds.length c2) ds := h2.mono (by omega)
  go_region_held3 (fun w' => w'.cell? ⟨w.heap.size, 1, none⟩ = some (.bool b) ∧ w'.cell? ⟨w.heap.size, 2, none⟩ = some (.slice a1 ns.length c1) ∧ w'.cell? ⟨w.heap.size, 3, none⟩ = some (.slice a2 ds.length c2))
    (first | (go_keep; done) | exact tw | exact tw2 | exact tw3)
    (first
      | (have j := tw2; go_at_call 78; refine number_any.mono ?_; rintro e wc ⟨rfl, kc⟩; have tc : Below v.heap.size v wc := tb.trans (kc.mono tb.size); have tw3 := hcells tc; have Rc := R.below tc (by omega); have q0 := Rc.cell 0 rfl; have q1 := Rc.cell 1 rfl; have q2 := Rc.cell 2 rfl; have q3 := Rc.cell 3 rfl; have q4 := Rc.cell 4 rfl; have q5 := Rc.cell 5 rfl; have p0 := Rc.frozen 0; have p1 := Rc.frozen 1; have p2 := Rc.frozen 2; have p3 := Rc.frozen 3; have p4 := Rc.frozen 4; have p5 := Rc.frozen 5)
      | (have j := tw; go_at_call 103; refine (copyLimbs_any ((h2'.below ka).mono ka.size) l2).mono ?_; rintro e wb ⟨x2, y2, rfl, o2, kb⟩; have tb : Below v.heap.size v wb := ka.trans (kb.mono ka.size); have tw2 := hcells tb; have o1b := o1.below kb (Nat.le_refl _))
      | (go_at_call 103; refine (copyLimbs_any h1' l1).mono ?_; rintro e wa ⟨x1, y1, rfl, o1, ka'⟩; have ka : Below v.heap.size v wa := d0.trans (ka'.mono d0.size); have tw := hcells ka))
  all_goals
    go_wp2
    have Rd6 := Rc.set6 (.int .u8 1) (.bool b) (.slice x1 ns.length y1) (.slice x2 ds.length y2) (.int .i32 0) (.slice none 0 0)
    obtain ⟨r0, r1, r2, r3, r4, r5⟩ := Rd6.num
    refine bodyPost_ret (v := .agg #[.int .u8 1, .bool b, .slice x1 ns.length y1, .slice x2 ds.length y2, .int .i32 0, .slice none 0 0]) (by simp [results, Tryz.results77, go_sem, r0, r1, r2, r3, r4, r5]) rfl ?_
    refine ⟨x1, y1, x2, y2, rfl, ?_, ?_, Below.set6 (g.trans (tc.mono (by omega))) (by omega) _ _ _ _ _ _⟩
    · exact (((o1b.below kc (Nat.le_refl _)).mono (base' := v.heap.size) (by simp)).set6 (by omega) _ _ _ _ _ _).mono (by omega)
    · exact (((o2.below kc (Nat.le_refl _)).mono (base' := v.heap.size) ka.size).set6 (by omega) _ _ _ _ _ _).mono (by omega)
end
end Go.Proofs.YthfmicokddcglaaGreatDoor

/- array.Rat and array.Int: scalars of numbers. -/
namespace Go.Proofs.YthfmicokddcglaaGreatDoor
set_option linter.unusedVariables false
set_option linter.unusedSimpArgs false
open Go.RowKit

/-- In block k lies an item: a number whose limbs are the call's own. -/
def NumAt (base : Nat) (w : World) (k : Nat) (b : Bool) (ns ds : List Int) : Prop :=
  base ≤ k ∧ ∃ x1 y1 x2 y2, BoxA w k 45 #[.int .u8 1, .bool b, .slice x1 ns.length y1, .slice x2 ds.length y2, .int .i32 0, .slice none 0 0] ∧ Own base w (.slice x1 ns.length y1) ns ∧ Own base w (.slice x2 ds.length y2) ds
section
variable {w w' : World} {base base' B k R : Nat} {b : Bool} {ns ds : List Int}
theorem NumAt.lt (h : NumAt base w k b ns ds) : k < w.heap.size := by
  obtain ⟨_, _, _, _, _, h, _⟩ := h
  exact h.lt
theorem NumAt.below (h : NumAt base w k b ns ds) (hb : Below B w w') (hB : w.heap.size ≤ B) : NumAt base w' k b ns ds := by
  obtain ⟨h0, x1, y1, x2, y2, h1, h2, h3⟩ := h
  exact ⟨h0, x1, y1, x2, y2, h1.below hb (Nat.lt_of_lt_of_le h1.lt hB), h2.below hb hB, h3.below hb hB⟩
theorem NumAt.mono (h : NumAt base w k b ns ds) (hB : base' ≤ base) : NumAt base' w k b ns ds := by
  obtain ⟨h0, x1, y1, x2, y2, h1, h2, h3⟩ := h
  exact ⟨Nat.le_trans hB h0, x1, y1, x2, y2, h1, h2.mono hB, h3.mono hB⟩
theorem BoxA.other {ty : Nat} {xs : Array Value} {p : Addr} (h : BoxA w k ty xs) (hp : p.block ≠ k) (v : Value) : BoxA (w.setCell p v) k ty xs := by
  unfold BoxA at *
  have hne : ¬ p.block = k := hp
  simp [World.setCell, Array.getElem?_modify, hne, h]
theorem NumAt.set2 (h : NumAt base w k b ns ds) (hR : R < base) (u v : Value) : NumAt base ((w.setCell ⟨R, 0, none⟩ u).setCell ⟨R, 1, none⟩ v) k b ns ds := by
  obtain ⟨h0, x1, y1, x2, y2, h1, h2, h3⟩ := h
  have hne : R ≠ k := by omega
  refine ⟨h0, x1, y1, x2, y2, (h1.other (p := ⟨R, 0, none⟩) hne _).other (p := ⟨R, 1, none⟩) hne _, ?_, ?_⟩
  · exact (h2.setCell (a := ⟨R, 0, none⟩) (ownBlock_ne h2 hR) _).setCell (a := ⟨R, 1, none⟩) (ownBlock_ne h2 hR) _
  · exact (h3.setCell (a := ⟨R, 0, none⟩) (ownBlock_ne h3 hR) _).setCell (a := ⟨R, 1, none⟩) (ownBlock_ne h3 hR) _
theorem BoxA.set2 {ty : Nat} {u0 u1 : Value} (h : BoxA w R ty #[u0, u1]) (u v : Value) : BoxA ((w.setCell ⟨R, 0, none⟩ u).setCell ⟨R, 1, none⟩ v) R ty #[u, v] := by
  unfold BoxA at h ⊢
  simp [World.setCell, Array.getElem?_modify, h]
theorem Below.set2 (h : Below base w w') (hB : base ≤ R) (u v : Value) : Below base w ((w'.setCell ⟨R, 0, none⟩ u).setCell ⟨R, 1, none⟩ v) :=
  (h.setCell (p := ⟨R, 0, none⟩) hB _).setCell (p := ⟨R, 1, none⟩) hB _
end

theorem ofInt_zero_is {b : Bool} {ns ds : List Int} (h : WholeIs 0 b ns ds) : b = false ∧ ns = [] ∧ ds = [1] := by
  obtain ⟨hb, cn, vn, _, hd⟩ := h
  exact ⟨by rw [hb]; decide, List.eq_nil_of_length_eq_zero ((can_zero cn).2 (by rw [vn]; decide)), hd⟩
/-- A scalar of a number is answered. -/
def ScalarAns (w : World) (b : Bool) (ns ds : List Int) (e : Ending) (w' : World) : Prop :=
  ∃ k, e = .returned (.agg #[.slice none 0 0, .slice (some ⟨k, 0, none⟩) 1 1]) ∧ NumAt w.heap.size w' k b ns ds ∧ Below w.heap.size w w'

set_option maxRecDepth 100000 in
set_option maxHeartbeats 6400000 in
theorem arrInt_zero (w : World) : Calls Tryz.prog 75 #[.int .i64 0] w fun e w' => ScalarAns w false [] [1] e w' := by
  have R := boxA_new w #[.slice none 0 0, .slice none 0 0] 35
  have g := below_alloc w (.cells #[.slice none 0 0, .slice none 0 0] 35)
  have s0 : w.heap.size < (w.alloc (.cells #[.slice none 0 0, .slice none 0 0] 35)).heap.size := by simp
  go_enter Tryz.func75, Tryz.ntmps75
  go_wp2_with fail
  generalize hA : w.alloc (.cells #[.slice none 0 0, .slice none 0 0] 35) = v at *
  clear hA
  refine (ofInt_any 0 (by decide) (by decide) _).mono ?_
  rintro e w1 ⟨k1, bo, on, od, o1, o2, o3, o4, HO, rfl, oo, oe⟩
  go_wp2_with fail
  refine number_any.mono ?_
  rintro e w2 ⟨rfl, k2⟩
  have s1 := k1.size
  have t2 : Below v.heap.size v w2 := k1.trans (k2.mono s1)
  have p1 := oo.below k2 (Nat.le_refl _)
  have p2 := oe.below k2 (Nat.le_refl _)
  go_wp2_with fail
  refine scalar_any.mono ?_
  rintro e w3 ⟨k, rfl, hk, hB, k3⟩
  have s2 := t2.size
  have t3 : Below v.heap.size v w3 := t2.trans (k3.mono s2)
  have hN : NumAt v.heap.size w3 k bo on od := ⟨by omega, _, _, _, _, hB, p1.below k3 (Nat.le_refl _), p2.below k3 (Nat.le_refl _)⟩
  have HN : Hid (NumAt v.heap.size w3 k false [] [1]) := by
    obtain ⟨rfl, rfl, rfl⟩ : bo = false ∧ on = [] ∧ od = [1] := ofInt_zero_is HO.out
    exact hN
  clear hN HO
  have R3 := R.below t3 s0
  have q0 := R3.cell 0 rfl
  have q1 := R3.cell 1 rfl
  have f0 := R3.frozen 0
  have f1 := R3.frozen 1
  go_wp2
  have R4 := R3.set2 (.slice none 0 0) (.slice (some ⟨k, 0, none⟩) 1 1)
  have r0 := R4.cell 0 rfl
  have r1 := R4.cell 1 rfl
  refine bodyPost_ret (v := .agg #[.slice none 0 0, .slice (some ⟨k, 0, none⟩) 1 1]) (by simp [results, Tryz.results75, go_sem, r0, r1]) rfl ?_
  exact ⟨k, rfl, (HN.out.set2 s0 _ _).mono (by omega), Below.set2 (g.trans (t3.mono (by omega))) (Nat.le_refl _) _ _⟩

set_option maxRecDepth 100000 in
set_option maxHeartbeats 6400000 in
theorem arrRat_any {w : World} {b : Bool} {a1 a2 : Option Addr} {c1 c2 : Nat} {ns ds : List Int} (h1 : Rd w.heap.size w (.slice a1 ns.length c1) ns) (h2 : Rd w.heap.size w (.slice a2 ds.length c2) ds) :
    Calls Tryz.prog 52 #[.agg #[.bool b, .slice a1 ns.length c1, .slice a2 ds.length c2]] w fun e w' => (RightP b ns ds ∧ ScalarAns w b ns ds e w') ∨ (¬ RightP b ns ds ∧ ScalarAns w false [] [1] e w') := by
  have X := nvar_new (b := b) h1 h2
  have g0 := below_alloc w (.cells #[.bool b, .slice a1 ns.length c1, .slice a2 ds.length c2] 42)
  have k0 := below_alloc (w.alloc (.cells #[.bool b, .slice a1 ns.length c1, .slice a2 ds.length c2] 42)) (.cells #[.slice none 0 0, .slice none 0 0] 35)
  have R := boxA_new (w.alloc (.cells #[.bool b, .slice a1 ns.length c1, .slice a2 ds.length c2] 42)) #[.slice none 0 0, .slice none 0 0] 35
  rw [World.size_alloc] at R
  have s0 : w.heap.size + 1 < ((w.alloc (.cells #[.bool b, .slice a1 ns.length c1, .slice a2 ds.length c2] 42)).alloc (.cells #[.slice none 0 0, .slice none 0 0] 35)).heap.size := by simp
  replace X := X.below k0
  have g := g0.trans (k0.mono (by simp))
  clear h1 h2 g0 k0
  obtain ⟨X0, X1, X2⟩ := X.cells
  go_enter Tryz.func52, Tryz.ntmps52
  go_wp2_with fail
  clear X0 X1 X2
  generalize hA : (w.alloc (.cells #[.bool b, .slice a1 ns.length c1, .slice a2 ds.length c2] 42)).alloc (.cells #[.slice none 0 0, .slice none 0 0] 35) = v at *
  clear hA
  refine (right_rat X.rn X.rd (Nat.le_refl _)).mono ?_
  rintro e w1 ⟨⟨r, rfl, hr⟩, k1⟩
  replace X := X.below k1
  have s1 := k1.size
  cases r with
  | false =>
    have HP : Hid (¬ RightP b ns ds) := fun h => by have := hr.2 h; cases this
    clear hr
    go_wp2_with fail
    refine (arrInt_zero _).mono ?_
    rintro e w2 ⟨k, rfl, hN, k2⟩
    have t2 : Below v.heap.size v w2 := k1.trans (k2.mono s1)
    have R3 := R.below t2 s0
    have q0 := R3.cell 0 rfl
    have q1 := R3.cell 1 rfl
    have f0 := R3.frozen 0
    have f1 := R3.frozen 1
    go_wp2
    have R4 := R3.set2 (.slice none 0 0) (.slice (some ⟨k, 0, none⟩) 1 1)
    have r0 := R4.cell 0 rfl
    have r1 := R4.cell 1 rfl
    refine bodyPost_ret (v := .agg #[.slice none 0 0, .slice (some ⟨k, 0, none⟩) 1 1]) (by simp [results, Tryz.results52, go_sem, r0, r1]) rfl ?_
    exact Or.inr ⟨HP.out, k, rfl, (hN.set2 (by omega) _ _).mono (by omega), Below.set2 (g.trans (t2.mono g.size)) (by omega) _ _⟩
  | true =>
    have HP : Hid (RightP b ns ds) := hr.1 rfl
    have l1 : ns.length * 4 ≤ 140737488355328 := by have := HP.out.1; omega
    have l2 : ds.length * 4 ≤ 140737488355328 := by have := HP.out.2.1; omega
    clear hr
    obtain ⟨X0, X1, X2⟩ := X.cells
    go_wp2_with fail
    clear X0 X1 X2
    refine number_any.mono ?_
    rintro e w2 ⟨rfl, k2⟩
    replace X := X.below k2
    have s2 := k2.size
    go_wp2_with fail
    refine (copyOf_num X.rn X.rd l1 l2).mono ?_
    rintro e w3 ⟨x1, y1, x2, y2, rfl, p1, p2, k3⟩
    have s3 := k3.size
    go_wp2_with fail
    refine scalar_any.mono ?_
    rintro e w4 ⟨k, rfl, hk, hB, k4⟩
    have t4 : Below v.heap.size v w4 := ((k1.trans (k2.mono s1)).trans (k3.mono (by omega))).trans (k4.mono (by omega))
    have hN : NumAt w2.heap.size w4 k b ns ds := ⟨by omega, _, _, _, _, hB, p1.below k4 (Nat.le_refl _), p2.below k4 (Nat.le_refl _)⟩
    have R3 := R.below t4 s0
    have q0 := R3.cell 0 rfl
    have q1 := R3.cell 1 rfl
    have f0 := R3.frozen 0
    have f1 := R3.frozen 1
    go_wp2
    have R4 := R3.set2 (.slice none 0 0) (.slice (some ⟨k, 0, none⟩) 1 1)
    have r0 := R4.cell 0 rfl
    have r1 := R4.cell 1 rfl
    refine bodyPost_ret (v := .agg #[.slice none 0 0, .slice (some ⟨k, 0, none⟩) 1 1]) (by simp [results, Tryz.results52, go_sem, r0, r1]) rfl ?_
    exact Or.inl ⟨HP.out, k, rfl, (hN.set2 (by omega) _ _).mono (by have := g.size; omega), Below.set2 (g.trans (t4.mono g.size)) (by omega) _ _⟩
end Go.Proofs.YthfmicokddcglaaGreatDoor

/- slices.Equal of limbs that read the same; of two nil shapes. -/
namespace Go.Proofs.YthfmicokddcglaaGreatDoor
set_option linter.unusedVariables false
set_option linter.unusedSimpArgs false
open Go.RowKit

section
variable {w : World} {base k : Nat} {b : Bool} {ns ds : List Int}
end
end Go.Proofs.YthfmicokddcglaaGreatDoor

/- array.Right of a scalar of a right number. -/
namespace Go.Proofs.YthfmicokddcglaaGreatDoor
set_option linter.unusedVariables false
set_option linter.unusedSimpArgs false
open Go.RowKit

section
variable {w : World} {b : Bool} {a1 a2 : Option Addr} {c1 c2 : Nat} {ns ds : List Int}
end
end Go.Proofs.YthfmicokddcglaaGreatDoor

/- array.measured: whether an array is right, how deep, how great. -/
namespace Go.Proofs.YthfmicokddcglaaGreatDoor
set_option linter.unusedVariables false
set_option linter.unusedSimpArgs false
open Go.RowKit

def okR (c : Int) : Prop := (0 ≤ c ∧ c < 55296) ∨ (57343 < c ∧ c ≤ 1114111)
/-- Has an item no number? -/
def noneB (t : Tr) : Bool := !t.b && decide (t.ns.length = 0) && decide (t.ds.length = 0)
/-- Is an array a scalar of a number or a character? -/
def simpB (t : Tr) : Bool := decide (t.ns.length = 0) && decide (t.kids.length = 1) && (decide ((t.kids.getD 0 tr0).k = 1) || decide ((t.kids.getD 0 tr0).k = 2))
open Classical in
/-- An item's measure, where M tells that of its array. -/
noncomputable def measI (M : Tr → Option (Int × Int)) (t : Tr) : Option (Int × Int) :=
  if t.k = 1 then (if RightP t.b t.ns t.ds ∧ t.c = 0 ∧ t.kids.length = 0 then some (0, 0) else none)
  else if t.k = 2 then (if okR t.c ∧ noneB t = true ∧ t.kids.length = 0 then some (0, 0) else none)
  else if t.k = 3 then (if noneB t = true ∧ t.c = 0 ∧ t.kids.length = 1 ∧ simpB (t.kids.getD 0 tr0) = false then M (t.kids.getD 0 tr0) else none)
  else none
def measL (I : Tr → Option (Int × Int)) : List Tr → Int × Int → Option (Int × Int)
  | [], w => some w
  | t :: r, w => match I t with
    | none => none
    | some p => if 16384 < w.2 + p.2 then none else measL I r (max w.1 (1 + p.1), w.2 + p.2)
/-- An array's measure, so many levels down. -/
noncomputable def measF : Nat → Tr → Option (Int × Int)
  | 0, _ => none
  | L + 1, t => if (sizeF t.ns).2 = 0 ∧ (t.kids.length : Int) = max (sizeF t.ns).1 1 then
      (match measL (measI (measF L)) t.kids (1, (t.kids.length : Int)) with
        | none => none
        | some p => some (if simpB t = true then 0 else p.1, p.2)) else none
/-- How a measure is told. -/
def mEnd (o : Option (Int × Int)) : Ending := .returned (.tuple #[.agg #[.int .i64 (o.getD (0, 0)).1, .int .i64 (o.getD (0, 0)).2], .bool o.isSome])
def inM (o : Option (Int × Int)) : Prop := ∀ p, o = some p → 0 ≤ p.1 ∧ p.1 ≤ 100 ∧ 0 ≤ p.2 ∧ p.2 ≤ 16384
section
variable {M : Tr → Option (Int × Int)} {t : Tr}
theorem measI_num (e1 : t.k = 1) (h : RightP t.b t.ns t.ds ∧ t.c = 0 ∧ t.kids.length = 0) : measI M t = some (0, 0) := by unfold measI; rw [if_pos e1, if_pos h]
theorem measI_num_no (e1 : t.k = 1) (h : ¬ (RightP t.b t.ns t.ds ∧ t.c = 0 ∧ t.kids.length = 0)) : measI M t = none := by unfold measI; rw [if_pos e1, if_neg h]
theorem measI_ch (e1 : t.k = 2) (h : okR t.c ∧ noneB t = true ∧ t.kids.length = 0) : measI M t = some (0, 0) := by unfold measI; rw [if_neg (by omega), if_pos e1, if_pos h]
theorem measI_ch_no (e1 : t.k = 2) (h : ¬ (okR t.c ∧ noneB t = true ∧ t.kids.length = 0)) : measI M t = none := by unfold measI; rw [if_neg (by omega), if_pos e1, if_neg h]
theorem measI_box (e1 : t.k = 3) (h : noneB t = true ∧ t.c = 0 ∧ t.kids.length = 1 ∧ simpB (t.kids.getD 0 tr0) = false) : measI M t = M (t.kids.getD 0 tr0) := by unfold measI; rw [if_neg (by omega), if_neg (by omega), if_pos e1, if_pos h]
theorem measI_box_no (e1 : t.k = 3) (h : ¬ (noneB t = true ∧ t.c = 0 ∧ t.kids.length = 1 ∧ simpB (t.kids.getD 0 tr0) = false)) : measI M t = none := by unfold measI; rw [if_neg (by omega), if_neg (by omega), if_pos e1, if_neg h]
theorem measI_else (h1 : ¬ t.k = 1) (h2 : ¬ t.k = 2) (h3 : ¬ t.k = 3) : measI M t = none := by unfold measI; rw [if_neg h1, if_neg h2, if_neg h3]
end
def TellsRune (c : Int) (e : Ending) : Prop := ∃ r, e = .returned (.bool r) ∧ (r = true ↔ okR c)
theorem validRune_any (c : Int) (w : World) : Calls Tryz.prog 104 #[.int .i32 c] w fun e w' => TellsRune c e ∧ Below w.heap.size w w' := by
  go_enter Tryz.func104, Tryz.ntmps104
  by_cases h1 : 0 ≤ c
  · by_cases h2 : c < 55296
    · go_wp2
      go_ret
      exact ⟨⟨true, rfl, fun _ => Or.inl ⟨h1, h2⟩, fun _ => rfl⟩, Below.refl _ _⟩
    · by_cases h3 : 57343 < c
      · by_cases h4 : c ≤ 1114111
        · go_wp2
          go_ret
          exact ⟨⟨true, rfl, fun _ => Or.inr ⟨h3, h4⟩, fun _ => rfl⟩, Below.refl _ _⟩
        · go_wp2
          go_ret
          exact ⟨⟨false, rfl, (fun h => by cases h), fun h => by unfold okR at h; omega⟩, Below.refl _ _⟩
      · go_wp2
        go_ret
        exact ⟨⟨false, rfl, (fun h => by cases h), fun h => by unfold okR at h; omega⟩, Below.refl _ _⟩
  · go_wp2
    go_ret
    exact ⟨⟨false, rfl, (fun h => by cases h), fun h => by unfold okR at h; omega⟩, Below.refl _ _⟩
end Go.Proofs.YthfmicokddcglaaGreatDoor
