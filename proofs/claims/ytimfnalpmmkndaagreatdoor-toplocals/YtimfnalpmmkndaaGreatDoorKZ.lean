/- rat.wholeNextTo, rat.Floor: the whole numbers next to a number. -/
import Derived.Test.YtimfnalpmmkndaaGreatDoorJ6
import Derived.Test.YtimfnalpmmkndaaGreatDoorJ7
import Derived.Test.YtimfnalpmmkndaaGreatDoorSA
import Derived.Deep.RegionHeld3
import Derived.Test.YtimfnalpmmkndaaGreatDoorJ4
namespace Go.Proofs.YtimfnalpmmkndaaGreatDoor
set_option linter.unusedVariables false
set_option linter.unusedSimpArgs false
open Go.RowKit

structure RVar (w : World) (k : Nat) : Prop where
 lt : k < w.heap.size
 box : Box3 w k 110 (.bool false) (.slice none 0 0) (.slice none 0 0)
theorem RVar.below {w w' : World} {k : Nat} (h : RVar w k) (hb : Below w.heap.size w w') : RVar w' k := ⟨Nat.lt_of_lt_of_le h.lt hb.size, h.box.below hb h.lt⟩
theorem rvar_new (w : World) : RVar (w.alloc (.cells #[.bool false, .slice none 0 0, .slice none 0 0] 110)) w.heap.size := ⟨by simp, box3_new _ _ _ _ _⟩

section
variable {B : Nat} {w : World} {bx : Bool} {a1 a2 : Option Addr} {c1 c2 : Nat} {xn xd : List Int}

end
theorem of_can (n : Int) (h0 : 0 ≤ n) (h1 : n < 18446744073709551616) : can (tr [n % 4294967296, n / 4294967296]) ∧ val (tr [n % 4294967296, n / 4294967296]) = n ∧ (tr [n % 4294967296, n / 4294967296]).length ≤ 2 := by
 refine ⟨tr_can (fun x hx => by simp at hx; omega), ?_, ?_⟩
 · rw [val_tr]; simp [val]; omega
 · have := tr_length_le [n % 4294967296, n / 4294967296]
   simpa using this
theorem of_num (n : Int) (h0 : 0 ≤ n) (h1 : n < 18446744073709551616) (w : World) : Calls Tryz.prog 88 #[.int .u64 n] w fun e w' => ∃ ns, can ns ∧ Hid (val ns = n) ∧ ns.length ≤ 2 ∧ Makes w e w' ns := by
 refine (of_any n h0 h1 w).mono ?_
 intro e w' h
 have hc := of_can n h0 h1
 exact ⟨_, hc.1, hc.2.1, hc.2.2, h⟩

def WholeIs (k : Int) (b : Bool) (ns ds : List Int) : Prop := b = decide (k < 0) ∧ can ns ∧ val ns = (if k < 0 then -k else k) ∧ ns.length ≤ 2 ∧ ds = [1]
def WholeNum (w : World) (k : Int) (e : Ending) (w' : World) : Prop :=
 Below w.heap.size w w' ∧ ∃ b ns ds a1 c1 a2 c2, Hid (WholeIs k b ns ds) ∧ e = .returned (.agg #[.bool b, .slice a1 ns.length c1, .slice a2 ds.length c2]) ∧ Own w.heap.size w' (.slice a1 ns.length c1) ns ∧ Own w.heap.size w' (.slice a2 ds.length c2) ds

set_option maxRecDepth 100000 in
set_option maxHeartbeats 3200000 in
theorem ofInt_any (k : Int) (h0 : -9223372036854775808 ≤ k) (h1 : k < 9223372036854775808) (w : World) : Calls Tryz.prog 62 #[.int .i64 k] w fun e w' => WholeNum w k e w' := by
 have R := rvar_new w
 have g := below_alloc w (.cells #[.bool false, .slice none 0 0, .slice none 0 0] 110)
 go_enter Tryz.func62, Tryz.ntmps62
 by_cases hk : k < 0
 · have hkb : decide (k < 0) = true := decide_eq_true hk
   have hw : IntKind.u64.wrap (-IntKind.u64.wrap k) = -k := by rw [IntKind.wrap_u64, IntKind.wrap_u64]; omega
   go_wp2_with fail
   generalize hA : w.alloc (.cells #[.bool false, .slice none 0 0, .slice none 0 0] 110) = v at *
   clear hA
   refine (of_num (-k) (by omega) (by omega) _).mono ?_
   rintro e wa ⟨ns, cn, vn, ln, x1, y1, rfl, o1, ka⟩
   go_wp2_with fail
   refine (one_any _).mono ?_
   rintro e wb ⟨x2, y2, hb, o2, kb⟩
   obtain ⟨ds, hds⟩ : ∃ ds : List Int, ds = [1] := ⟨_, rfl⟩
   rw [← hds] at hb o2
   subst hb
   have HD : Hid (ds = [1]) := hds
   clear hds
   have t : Below v.heap.size v wb := ka.trans (kb.mono ka.size)
   have Rb := R.below t
   have q0 := Rb.box.c0
   have q1 := Rb.box.c1
   have q2 := Rb.box.c2
   have p0 := Rb.box.f0
   have p1 := Rb.box.f1
   have p2 := Rb.box.f2
   go_wp2
   have hR3 := Rb.box.set (.bool true) (.slice x1 ns.length y1) (.slice x2 ds.length y2)
   have r0 := hR3.c0
   have r1 := hR3.c1
   have r2 := hR3.c2
   refine bodyPost_ret (v := .agg #[.bool true, .slice x1 ns.length y1, .slice x2 ds.length y2]) (by simp [results, Tryz.results62, go_sem, r0, r1, r2]) rfl ?_
   exact ⟨Below.set3 (g.trans (t.mono g.size)) (Nat.le_refl _) _ _ _, true, ns, ds, x1, y1, x2, y2, ⟨hkb.symm, cn, by rw [vn.out, if_pos hk], ln, HD.out⟩, rfl, (Own.set3 (o1.below kb (Nat.le_refl _)) R.lt _ _ _).mono g.size, (Own.set3 (o2.mono ka.size) R.lt _ _ _).mono g.size⟩
 · have hkb : decide (k < 0) = false := decide_eq_false hk
   go_wp2_with fail
   generalize hA : w.alloc (.cells #[.bool false, .slice none 0 0, .slice none 0 0] 110) = v at *
   clear hA
   refine (of_num k (by omega) (by omega) _).mono ?_
   rintro e wa ⟨ns, cn, vn, ln, x1, y1, rfl, o1, ka⟩
   go_wp2_with fail
   refine (one_any _).mono ?_
   rintro e wb ⟨x2, y2, hb, o2, kb⟩
   obtain ⟨ds, hds⟩ : ∃ ds : List Int, ds = [1] := ⟨_, rfl⟩
   rw [← hds] at hb o2
   subst hb
   have HD : Hid (ds = [1]) := hds
   clear hds
   have t : Below v.heap.size v wb := ka.trans (kb.mono ka.size)
   have Rb := R.below t
   have q0 := Rb.box.c0
   have q1 := Rb.box.c1
   have q2 := Rb.box.c2
   have p0 := Rb.box.f0
   have p1 := Rb.box.f1
   have p2 := Rb.box.f2
   go_wp2
   have hR3 := Rb.box.set (.bool false) (.slice x1 ns.length y1) (.slice x2 ds.length y2)
   have r0 := hR3.c0
   have r1 := hR3.c1
   have r2 := hR3.c2
   refine bodyPost_ret (v := .agg #[.bool false, .slice x1 ns.length y1, .slice x2 ds.length y2]) (by simp [results, Tryz.results62, go_sem, r0, r1, r2]) rfl ?_
   exact ⟨Below.set3 (g.trans (t.mono g.size)) (Nat.le_refl _) _ _ _, false, ns, ds, x1, y1, x2, y2, ⟨hkb.symm, cn, by rw [vn.out, if_neg (by omega)], ln, HD.out⟩, rfl, (Own.set3 (o1.below kb (Nat.le_refl _)) R.lt _ _ _).mono g.size, (Own.set3 (o2.mono ka.size) R.lt _ _ _).mono g.size⟩
section
variable {w : World} {b : Bool} {a1 a2 : Option Addr} {c1 c2 : Nat} {ns ds : List Int}
set_option maxRecDepth 100000 in
set_option maxHeartbeats 16000000 in
theorem copyOf_num (h1 : Rd w.heap.size w (.slice a1 ns.length c1) ns) (h2 : Rd w.heap.size w (.slice a2 ds.length c2) ds) (l1 : ns.length * 4 ≤ 140737488355328) (l2 : ds.length * 4 ≤ 140737488355328) :
    Calls Tryz.prog 152 #[.agg #[.int .u8 1, .bool b, .slice a1 ns.length c1, .slice a2 ds.length c2, .int .i32 0, .slice none 0 0]] w fun e w' => ∃ x1 y1 x2 y2, e = .returned (.agg #[.int .u8 1, .bool b, .slice x1 ns.length y1, .slice x2 ds.length y2, .int .i32 0, .slice none 0 0]) ∧ Own w.heap.size w' (.slice x1 ns.length y1) ns ∧ Own w.heap.size w' (.slice x2 ds.length y2) ds ∧ Below w.heap.size w w' := by
 have X0 := boxA_new w #[.int .u8 1, .bool b, .slice a1 ns.length c1, .slice a2 ds.length c2, .int .i32 0, .slice none 0 0] 113
 have k0 := below_alloc w (.cells #[.int .u8 1, .bool b, .slice a1 ns.length c1, .slice a2 ds.length c2, .int .i32 0, .slice none 0 0] 113)
 have k1 := below_alloc (w.alloc (.cells #[.int .u8 1, .bool b, .slice a1 ns.length c1, .slice a2 ds.length c2, .int .i32 0, .slice none 0 0] 113)) (.cells #[.int .u8 0, .bool false, .slice none 0 0, .slice none 0 0, .int .i32 0, .slice none 0 0] 113)
 have R := boxA_new (w.alloc (.cells #[.int .u8 1, .bool b, .slice a1 ns.length c1, .slice a2 ds.length c2, .int .i32 0, .slice none 0 0] 113)) #[.int .u8 0, .bool false, .slice none 0 0, .slice none 0 0, .int .i32 0, .slice none 0 0] 113
 rw [World.size_alloc] at R
 have X := X0.below k1 (by simp)
 have g : Below w.heap.size w _ := k0.trans (k1.mono (by simp))
 have sv : ((w.alloc (.cells #[.int .u8 1, .bool b, .slice a1 ns.length c1, .slice a2 ds.length c2, .int .i32 0, .slice none 0 0] 113)).alloc (.cells #[.int .u8 0, .bool false, .slice none 0 0, .slice none 0 0, .int .i32 0, .slice none 0 0] 113)).heap.size = w.heap.size + 1 + 1 := by simp
 replace h1 := h1.below g
 replace h2 := h2.below g
 obtain ⟨X0', X1, X2, X3, X4, X5⟩ := X.num
 go_enter Tryz.func152, Tryz.ntmps152
 go_upto_region 6 with fail
 generalize hA : (w.alloc (.cells #[.int .u8 1, .bool b, .slice a1 ns.length c1, .slice a2 ds.length c2, .int .i32 0, .slice none 0 0] 113)).alloc (.cells #[.int .u8 0, .bool false, .slice none 0 0, .slice none 0 0, .int .i32 0, .slice none 0 0] 113) = v at *
 clear hA k0 k1 X0
 have hcells : ∀ {w' : World}, Below v.heap.size v w' → w'.cell? ⟨w.heap.size, 1, none⟩ = some (.bool b) ∧ w'.cell? ⟨w.heap.size, 2, none⟩ = some (.slice a1 ns.length c1) ∧ w'.cell? ⟨w.heap.size, 3, none⟩ = some (.slice a2 ds.length c2) := fun hb => by
  obtain ⟨_, q1, q2, q3, _, _⟩ := (X.below hb (by omega)).num
  exact ⟨q1, q2, q3⟩
 have d0 : Below v.heap.size v v.drew := ⟨rfl, rfl, rfl, Nat.le_refl _, fun _ _ => rfl⟩
 have h1' : Rd v.drew.heap.size v.drew (.slice a1 ns.length c1) ns := h1.mono (by simp; omega)
 have h2' : Rd v.heap.size v (.slice a2 ds.length c2) ds := h2.mono (by omega)
 go_region_held3 (fun w' => w'.cell? ⟨w.heap.size, 1, none⟩ = some (.bool b) ∧ w'.cell? ⟨w.heap.size, 2, none⟩ = some (.slice a1 ns.length c1) ∧ w'.cell? ⟨w.heap.size, 3, none⟩ = some (.slice a2 ds.length c2))
  (first | (go_keep; done) | exact tw | exact tw2 | exact tw3)
  (first
   | (have j := tw2; go_at_call 61; refine number_any.mono ?_; rintro e wc ⟨rfl, kc⟩; have tc : Below v.heap.size v wc := tb.trans (kc.mono tb.size); have tw3 := hcells tc; have Rc := R.below tc (by omega); have q0 := Rc.cell 0 rfl; have q1 := Rc.cell 1 rfl; have q2 := Rc.cell 2 rfl; have q3 := Rc.cell 3 rfl; have q4 := Rc.cell 4 rfl; have q5 := Rc.cell 5 rfl; have p0 := Rc.frozen 0; have p1 := Rc.frozen 1; have p2 := Rc.frozen 2; have p3 := Rc.frozen 3; have p4 := Rc.frozen 4; have p5 := Rc.frozen 5)
   | (have j := tw; go_at_call 179; refine (copyLimbs_any ((h2'.below ka).mono ka.size) l2).mono ?_; rintro e wb ⟨x2, y2, rfl, o2, kb⟩; have tb : Below v.heap.size v wb := ka.trans (kb.mono ka.size); have tw2 := hcells tb; have o1b := o1.below kb (Nat.le_refl _))
   | (go_at_call 179; refine (copyLimbs_any h1' l1).mono ?_; rintro e wa ⟨x1, y1, rfl, o1, ka'⟩; have ka : Below v.heap.size v wa := d0.trans (ka'.mono d0.size); have tw := hcells ka))
 all_goals
  go_wp2
  have Rd6 := Rc.set6 (.int .u8 1) (.bool b) (.slice x1 ns.length y1) (.slice x2 ds.length y2) (.int .i32 0) (.slice none 0 0)
  obtain ⟨r0, r1, r2, r3, r4, r5⟩ := Rd6.num
  refine bodyPost_ret (v := .agg #[.int .u8 1, .bool b, .slice x1 ns.length y1, .slice x2 ds.length y2, .int .i32 0, .slice none 0 0]) (by simp [results, Tryz.results152, go_sem, r0, r1, r2, r3, r4, r5]) rfl ?_
  refine ⟨x1, y1, x2, y2, rfl, ?_, ?_, Below.set6 (g.trans (tc.mono (by omega))) (by omega) _ _ _ _ _ _⟩
  · exact (((o1b.below kc (Nat.le_refl _)).mono (base' := v.heap.size) (by simp)).set6 (by omega) _ _ _ _ _ _).mono (by omega)
  · exact (((o2.below kc (Nat.le_refl _)).mono (base' := v.heap.size) ka.size).set6 (by omega) _ _ _ _ _ _).mono (by omega)
end
end Go.Proofs.YtimfnalpmmkndaaGreatDoor

/- array.Rat and array.Int: scalars of numbers. -/
namespace Go.Proofs.YtimfnalpmmkndaaGreatDoor
set_option linter.unusedVariables false
set_option linter.unusedSimpArgs false
open Go.RowKit

def NumAt (base : Nat) (w : World) (k : Nat) (b : Bool) (ns ds : List Int) : Prop :=
 base ≤ k ∧ ∃ x1 y1 x2 y2, BoxA w k 113 #[.int .u8 1, .bool b, .slice x1 ns.length y1, .slice x2 ds.length y2, .int .i32 0, .slice none 0 0] ∧ Own base w (.slice x1 ns.length y1) ns ∧ Own base w (.slice x2 ds.length y2) ds
section
variable {w w' : World} {base base' B k R : Nat} {b : Bool} {ns ds : List Int}
theorem NumAt.mono (h : NumAt base w k b ns ds) (hB : base' ≤ base) : NumAt base' w k b ns ds := by
 obtain ⟨h0, x1, y1, x2, y2, h1, h2, h3⟩ := h
 exact ⟨Nat.le_trans hB h0, x1, y1, x2, y2, h1, h2.mono hB, h3.mono hB⟩
theorem BoxA.other {ty : Nat} {xs : Array Value} {p : Addr} (h : BoxA w k ty xs) (hp : p.block ≠ k) (v : Value) : BoxA (w.setCell p v) k ty xs := by
 unfold BoxA at *
 have hne : ¬ p.block = k := hp
 simp [World.setCell, Array.getElem?_modify, hne, h]
theorem NumAt.set2 (h : NumAt base w k b ns ds) (hR : R < base) (u v : Value) : NumAt base ((w.setCell ⟨R, 0, none⟩ u).setCell ⟨R, 1, none⟩ v) k b ns ds := by
 obtain ⟨h0, x1, y1, x2, y2, h1, h2, h3⟩ := h
 have hne : R ≠ k := by omega
 refine ⟨h0, x1, y1, x2, y2, (h1.other (p := ⟨R, 0, none⟩) hne _).other (p := ⟨R, 1, none⟩) hne _, ?_, ?_⟩
 · exact (h2.setCell (a := ⟨R, 0, none⟩) (ownBlock_ne h2 hR) _).setCell (a := ⟨R, 1, none⟩) (ownBlock_ne h2 hR) _
 · exact (h3.setCell (a := ⟨R, 0, none⟩) (ownBlock_ne h3 hR) _).setCell (a := ⟨R, 1, none⟩) (ownBlock_ne h3 hR) _
theorem BoxA.set2 {ty : Nat} {u0 u1 : Value} (h : BoxA w R ty #[u0, u1]) (u v : Value) : BoxA ((w.setCell ⟨R, 0, none⟩ u).setCell ⟨R, 1, none⟩ v) R ty #[u, v] := by
 unfold BoxA at h ⊢
 simp [World.setCell, Array.getElem?_modify, h]
theorem Below.set2 (h : Below base w w') (hB : base ≤ R) (u v : Value) : Below base w ((w'.setCell ⟨R, 0, none⟩ u).setCell ⟨R, 1, none⟩ v) :=
 (h.setCell (p := ⟨R, 0, none⟩) hB _).setCell (p := ⟨R, 1, none⟩) hB _
end

theorem ofInt_zero_is {b : Bool} {ns ds : List Int} (h : WholeIs 0 b ns ds) : b = false ∧ ns = [] ∧ ds = [1] := by
 obtain ⟨hb, cn, vn, _, hd⟩ := h
 exact ⟨by rw [hb]; decide, List.eq_nil_of_length_eq_zero ((can_zero cn).2 (by rw [vn]; decide)), hd⟩
def ScalarAns (w : World) (b : Bool) (ns ds : List Int) (e : Ending) (w' : World) : Prop :=
 ∃ k, e = .returned (.agg #[.slice none 0 0, .slice (some ⟨k, 0, none⟩) 1 1]) ∧ NumAt w.heap.size w' k b ns ds ∧ Below w.heap.size w w'

set_option maxRecDepth 100000 in
set_option maxHeartbeats 6400000 in
theorem arrInt_zero (w : World) : Calls Tryz.prog 28 #[.int .i64 0] w fun e w' => ScalarAns w false [] [1] e w' := by
 have R := boxA_new w #[.slice none 0 0, .slice none 0 0] 29
 have g := below_alloc w (.cells #[.slice none 0 0, .slice none 0 0] 29)
 have s0 : w.heap.size < (w.alloc (.cells #[.slice none 0 0, .slice none 0 0] 29)).heap.size := by simp
 go_enter Tryz.func28, Tryz.ntmps28
 go_wp2_with fail
 generalize hA : w.alloc (.cells #[.slice none 0 0, .slice none 0 0] 29) = v at *
 clear hA
 refine (ofInt_any 0 (by decide) (by decide) _).mono ?_
 rintro e w1 ⟨k1, bo, on, od, o1, o2, o3, o4, HO, rfl, oo, oe⟩
 go_wp2_with fail
 refine number_any.mono ?_
 rintro e w2 ⟨rfl, k2⟩
 have s1 := k1.size
 have t2 : Below v.heap.size v w2 := k1.trans (k2.mono s1)
 have p1 := oo.below k2 (Nat.le_refl _)
 have p2 := oe.below k2 (Nat.le_refl _)
 go_wp2_with fail
 refine scalar_any.mono ?_
 rintro e w3 ⟨k, rfl, hk, hB, k3⟩
 have s2 := t2.size
 have t3 : Below v.heap.size v w3 := t2.trans (k3.mono s2)
 have hN : NumAt v.heap.size w3 k bo on od := ⟨by omega, _, _, _, _, hB, p1.below k3 (Nat.le_refl _), p2.below k3 (Nat.le_refl _)⟩
 have HN : Hid (NumAt v.heap.size w3 k false [] [1]) := by
  obtain ⟨rfl, rfl, rfl⟩ : bo = false ∧ on = [] ∧ od = [1] := ofInt_zero_is HO.out
  exact hN
 clear hN HO
 have R3 := R.below t3 s0
 have q0 := R3.cell 0 rfl
 have q1 := R3.cell 1 rfl
 have f0 := R3.frozen 0
 have f1 := R3.frozen 1
 go_wp2
 have R4 := R3.set2 (.slice none 0 0) (.slice (some ⟨k, 0, none⟩) 1 1)
 have r0 := R4.cell 0 rfl
 have r1 := R4.cell 1 rfl
 refine bodyPost_ret (v := .agg #[.slice none 0 0, .slice (some ⟨k, 0, none⟩) 1 1]) (by simp [results, Tryz.results28, go_sem, r0, r1]) rfl ?_
 exact ⟨k, rfl, (HN.out.set2 s0 _ _).mono (by omega), Below.set2 (g.trans (t3.mono (by omega))) (Nat.le_refl _) _ _⟩

set_option maxRecDepth 100000 in
set_option maxHeartbeats 6400000 in
theorem arrRat_any {w : World} {b : Bool} {a1 a2 : Option Addr} {c1 c2 : Nat} {ns ds : List Int} (h1 : Rd w.heap.size w (.slice a1 ns.length c1) ns) (h2 : Rd w.heap.size w (.slice a2 ds.length c2) ds) :
    Calls Tryz.prog 203 #[.agg #[.bool b, .slice a1 ns.length c1, .slice a2 ds.length c2]] w fun e w' => (RightP b ns ds ∧ ScalarAns w b ns ds e w') ∨ (¬ RightP b ns ds ∧ ScalarAns w false [] [1] e w') := by
 have X := nvar_new (b := b) h1 h2
 have g0 := below_alloc w (.cells #[.bool b, .slice a1 ns.length c1, .slice a2 ds.length c2] 110)
 have k0 := below_alloc (w.alloc (.cells #[.bool b, .slice a1 ns.length c1, .slice a2 ds.length c2] 110)) (.cells #[.slice none 0 0, .slice none 0 0] 29)
 have R := boxA_new (w.alloc (.cells #[.bool b, .slice a1 ns.length c1, .slice a2 ds.length c2] 110)) #[.slice none 0 0, .slice none 0 0] 29
 rw [World.size_alloc] at R
 have s0 : w.heap.size + 1 < ((w.alloc (.cells #[.bool b, .slice a1 ns.length c1, .slice a2 ds.length c2] 110)).alloc (.cells #[.slice none 0 0, .slice none 0 0] 29)).heap.size := by simp
 replace X := X.below k0
 have g := g0.trans (k0.mono (by simp))
 clear h1 h2 g0 k0
 obtain ⟨X0, X1, X2⟩ := X.cells
 go_enter Tryz.func203, Tryz.ntmps203
 go_wp2_with fail
 clear X0 X1 X2
 generalize hA : (w.alloc (.cells #[.bool b, .slice a1 ns.length c1, .slice a2 ds.length c2] 110)).alloc (.cells #[.slice none 0 0, .slice none 0 0] 29) = v at *
 clear hA
 refine (right_rat X.rn X.rd (Nat.le_refl _)).mono ?_
 rintro e w1 ⟨⟨r, rfl, hr⟩, k1⟩
 replace X := X.below k1
 have s1 := k1.size
 cases r with
 | false =>
  have HP : Hid (¬ RightP b ns ds) := fun h => by have := hr.2 h; cases this
  clear hr
  go_wp2_with fail
  refine (arrInt_zero _).mono ?_
  rintro e w2 ⟨k, rfl, hN, k2⟩
  have t2 : Below v.heap.size v w2 := k1.trans (k2.mono s1)
  have R3 := R.below t2 s0
  have q0 := R3.cell 0 rfl
  have q1 := R3.cell 1 rfl
  have f0 := R3.frozen 0
  have f1 := R3.frozen 1
  go_wp2
  have R4 := R3.set2 (.slice none 0 0) (.slice (some ⟨k, 0, none⟩) 1 1)
  have r0 := R4.cell 0 rfl
  have r1 := R4.cell 1 rfl
  refine bodyPost_ret (v := .agg #[.slice none 0 0, .slice (some ⟨k, 0, none⟩) 1 1]) (by simp [results, Tryz.results203, go_sem, r0, r1]) rfl ?_
  exact Or.inr ⟨HP.out, k, rfl, (hN.set2 (by omega) _ _).mono (by omega), Below.set2 (g.trans (t2.mono g.size)) (by omega) _ _⟩
 | true =>
  have HP : Hid (RightP b ns ds) := hr.1 rfl
  have l1 : ns.length * 4 ≤ 140737488355328 := by have := HP.out.1; omega
  have l2 : ds.length * 4 ≤ 140737488355328 := by have := HP.out.2.1; omega
  clear hr
  obtain ⟨X0, X1, X2⟩ := X.cells
  go_wp2_with fail
  clear X0 X1 X2
  refine number_any.mono ?_
  rintro e w2 ⟨rfl, k2⟩
  replace X := X.below k2
  have s2 := k2.size
  go_wp2_with fail
  refine (copyOf_num X.rn X.rd l1 l2).mono ?_
  rintro e w3 ⟨x1, y1, x2, y2, rfl, p1, p2, k3⟩
  have s3 := k3.size
  go_wp2_with fail
  refine scalar_any.mono ?_
  rintro e w4 ⟨k, rfl, hk, hB, k4⟩
  have t4 : Below v.heap.size v w4 := ((k1.trans (k2.mono s1)).trans (k3.mono (by omega))).trans (k4.mono (by omega))
  have hN : NumAt w2.heap.size w4 k b ns ds := ⟨by omega, _, _, _, _, hB, p1.below k4 (Nat.le_refl _), p2.below k4 (Nat.le_refl _)⟩
  have R3 := R.below t4 s0
  have q0 := R3.cell 0 rfl
  have q1 := R3.cell 1 rfl
  have f0 := R3.frozen 0
  have f1 := R3.frozen 1
  go_wp2
  have R4 := R3.set2 (.slice none 0 0) (.slice (some ⟨k, 0, none⟩) 1 1)
  have r0 := R4.cell 0 rfl
  have r1 := R4.cell 1 rfl
  refine bodyPost_ret (v := .agg #[.slice none 0 0, .slice (some ⟨k, 0, none⟩) 1 1]) (by simp [results, Tryz.results203, go_sem, r0, r1]) rfl ?_
  exact Or.inl ⟨HP.out, k, rfl, (hN.set2 (by omega) _ _).mono (by have := g.size; omega), Below.set2 (g.trans (t4.mono g.size)) (by omega) _ _⟩
end Go.Proofs.YtimfnalpmmkndaaGreatDoor

/- slices.Equal of limbs that read the same; of two nil shapes. -/
namespace Go.Proofs.YtimfnalpmmkndaaGreatDoor
set_option linter.unusedVariables false
set_option linter.unusedSimpArgs false
open Go.RowKit

section
variable {w : World} {base k : Nat} {b : Bool} {ns ds : List Int}
end
end Go.Proofs.YtimfnalpmmkndaaGreatDoor

/- array.Right of a scalar of a right number. -/
namespace Go.Proofs.YtimfnalpmmkndaaGreatDoor
set_option linter.unusedVariables false
set_option linter.unusedSimpArgs false
open Go.RowKit

section
variable {w : World} {b : Bool} {a1 a2 : Option Addr} {c1 c2 : Nat} {ns ds : List Int}
end
end Go.Proofs.YtimfnalpmmkndaaGreatDoor
