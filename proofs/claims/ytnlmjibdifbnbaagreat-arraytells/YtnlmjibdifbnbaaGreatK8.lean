/- array.copyOf of a number, array.Rat, array.Int. -/
import Derived.Test.YtnlmjibdifbnbaaGreatK7
import Derived.Test.YtnlmjibdifbnbaaGreatJ6
import Derived.Deep.RegionHeld3
import Derived.Test.YtnlmjibdifbnbaaGreatJ4
namespace Go.Proofs.YtnlmjibdifbnbaaGreat
set_option linter.unusedVariables false
set_option linter.unusedSimpArgs false
open Go.RowKit

section
variable {w : World} {b : Bool} {a1 a2 : Option Addr} {c1 c2 : Nat} {ns ds : List Int}
set_option maxRecDepth 100000 in
set_option maxHeartbeats 16000000 in
theorem copyOf_num (h1 : Rd w.heap.size w (.slice a1 ns.length c1) ns) (h2 : Rd w.heap.size w (.slice a2 ds.length c2) ds) (l1 : ns.length * 4 ≤ 140737488355328) (l2 : ds.length * 4 ≤ 140737488355328) :
    Calls Tryz.prog 41 #[.agg #[.int .u8 1, .bool b, .slice a1 ns.length c1, .slice a2 ds.length c2, .int .i32 0, .slice none 0 0]] w fun e w' => ∃ x1 y1 x2 y2, e = .returned (.agg #[.int .u8 1, .bool b, .slice x1 ns.length y1, .slice x2 ds.length y2, .int .i32 0, .slice none 0 0]) ∧ Own w.heap.size w' (.slice x1 ns.length y1) ns ∧ Own w.heap.size w' (.slice x2 ds.length y2) ds ∧ Below w.heap.size w w' := by
  have X0 := boxA_new w #[.int .u8 1, .bool b, .slice a1 ns.length c1, .slice a2 ds.length c2, .int .i32 0, .slice none 0 0] 42
  have k0 := below_alloc w (.cells #[.int .u8 1, .bool b, .slice a1 ns.length c1, .slice a2 ds.length c2, .int .i32 0, .slice none 0 0] 42)
  have k1 := below_alloc (w.alloc (.cells #[.int .u8 1, .bool b, .slice a1 ns.length c1, .slice a2 ds.length c2, .int .i32 0, .slice none 0 0] 42)) (.cells #[.int .u8 0, .bool false, .slice none 0 0, .slice none 0 0, .int .i32 0, .slice none 0 0] 42)
  have R := boxA_new (w.alloc (.cells #[.int .u8 1, .bool b, .slice a1 ns.length c1, .slice a2 ds.length c2, .int .i32 0, .slice none 0 0] 42)) #[.int .u8 0, .bool false, .slice none 0 0, .slice none 0 0, .int .i32 0, .slice none 0 0] 42
  rw [World.size_alloc] at R
  have X := X0.below k1 (by simp)
  have g : Below w.heap.size w _ := k0.trans (k1.mono (by simp))
  have sv : ((w.alloc (.cells #[.int .u8 1, .bool b, .slice a1 ns.length c1, .slice a2 ds.length c2, .int .i32 0, .slice none 0 0] 42)).alloc (.cells #[.int .u8 0, .bool false, .slice none 0 0, .slice none 0 0, .int .i32 0, .slice none 0 0] 42)).heap.size = w.heap.size + 1 + 1 := by simp
  replace h1 := h1.below g
  replace h2 := h2.below g
  obtain ⟨X0', X1, X2, X3, X4, X5⟩ := X.num
  go_enter Tryz.func41, Tryz.ntmps41
  go_upto_region 6 with fail
  generalize hA : (w.alloc (.cells #[.int .u8 1, .bool b, .slice a1 ns.length c1, .slice a2 ds.length c2, .int .i32 0, .slice none 0 0] 42)).alloc (.cells #[.int .u8 0, .bool false, .slice none 0 0, .slice none 0 0, .int .i32 0, .slice none 0 0] 42) = v at *
  clear hA k0 k1 X0
  have hcells : ∀ {w' : World}, Below v.heap.size v w' → w'.cell? ⟨w.heap.size, 1, none⟩ = some (.bool b) ∧ w'.cell? ⟨w.heap.size, 2, none⟩ = some (.slice a1 ns.length c1) ∧ w'.cell? ⟨w.heap.size, 3, none⟩ = some (.slice a2 ds.length c2) := fun hb => by
    obtain ⟨_, q1, q2, q3, _, _⟩ := (X.below hb (by omega)).num
    exact ⟨q1, q2, q3⟩
  have d0 : Below v.heap.size v v.drew := ⟨rfl, rfl, rfl, Nat.le_refl _, fun _ _ => rfl⟩
  have h1' : Rd v.drew.heap.size v.drew (.slice a1 ns.length c1) ns := h1.mono (by simp; omega)
  have h2' : Rd v.heap.size v (.slice a2 ds.length c2) ds := h2.mono (by omega)
  go_region_held3 (fun w' => w'.cell? ⟨w.heap.size, 1, none⟩ = some (.bool b) ∧ w'.cell? ⟨w.heap.size, 2, none⟩ = some (.slice a1 ns.length c1) ∧ w'.cell? ⟨w.heap.size, 3, none⟩ = some (.slice a2 ds.length c2))
    (first | (go_keep; done) | exact tw | exact tw2 | exact tw3)
    (first
      | (have j := tw2; go_at_call 50; refine number_any.mono ?_; rintro e wc ⟨rfl, kc⟩; have tc : Below v.heap.size v wc := tb.trans (kc.mono tb.size); have tw3 := hcells tc; have Rc := R.below tc (by omega); have q0 := Rc.cell 0 rfl; have q1 := Rc.cell 1 rfl; have q2 := Rc.cell 2 rfl; have q3 := Rc.cell 3 rfl; have q4 := Rc.cell 4 rfl; have q5 := Rc.cell 5 rfl; have p0 := Rc.frozen 0; have p1 := Rc.frozen 1; have p2 := Rc.frozen 2; have p3 := Rc.frozen 3; have p4 := Rc.frozen 4; have p5 := Rc.frozen 5)
      | (have j := tw; go_at_call 78; refine (copyLimbs_any ((h2'.below ka).mono ka.size) l2).mono ?_; rintro e wb ⟨x2, y2, rfl, o2, kb⟩; have tb : Below v.heap.size v wb := ka.trans (kb.mono ka.size); have tw2 := hcells tb; have o1b := o1.below kb (Nat.le_refl _))
      | (go_at_call 78; refine (copyLimbs_any h1' l1).mono ?_; rintro e wa ⟨x1, y1, rfl, o1, ka'⟩; have ka : Below v.heap.size v wa := d0.trans (ka'.mono d0.size); have tw := hcells ka))
  all_goals
    go_wp2
    have Rd6 := Rc.set6 (.int .u8 1) (.bool b) (.slice x1 ns.length y1) (.slice x2 ds.length y2) (.int .i32 0) (.slice none 0 0)
    obtain ⟨r0, r1, r2, r3, r4, r5⟩ := Rd6.num
    refine bodyPost_ret (v := .agg #[.int .u8 1, .bool b, .slice x1 ns.length y1, .slice x2 ds.length y2, .int .i32 0, .slice none 0 0]) (by simp [results, Tryz.results41, go_sem, r0, r1, r2, r3, r4, r5]) rfl ?_
    refine ⟨x1, y1, x2, y2, rfl, ?_, ?_, Below.set6 (g.trans (tc.mono (by omega))) (by omega) _ _ _ _ _ _⟩
    · exact (((o1b.below kc (Nat.le_refl _)).mono (base' := v.heap.size) (by simp)).set6 (by omega) _ _ _ _ _ _).mono (by omega)
    · exact (((o2.below kc (Nat.le_refl _)).mono (base' := v.heap.size) ka.size).set6 (by omega) _ _ _ _ _ _).mono (by omega)
end
end Go.Proofs.YtnlmjibdifbnbaaGreat

/- array.Rat and array.Int: scalars of numbers. -/
namespace Go.Proofs.YtnlmjibdifbnbaaGreat
set_option linter.unusedVariables false
set_option linter.unusedSimpArgs false
open Go.RowKit

/-- In block k lies an item: a number whose limbs are the call's own. -/
def NumAt (base : Nat) (w : World) (k : Nat) (b : Bool) (ns ds : List Int) : Prop :=
  base ≤ k ∧ ∃ x1 y1 x2 y2, BoxA w k 42 #[.int .u8 1, .bool b, .slice x1 ns.length y1, .slice x2 ds.length y2, .int .i32 0, .slice none 0 0] ∧ Own base w (.slice x1 ns.length y1) ns ∧ Own base w (.slice x2 ds.length y2) ds
section
variable {w w' : World} {base base' B k R : Nat} {b : Bool} {ns ds : List Int}
theorem NumAt.lt (h : NumAt base w k b ns ds) : k < w.heap.size := by
  obtain ⟨_, _, _, _, _, h, _⟩ := h
  exact h.lt
theorem NumAt.below (h : NumAt base w k b ns ds) (hb : Below B w w') (hB : w.heap.size ≤ B) : NumAt base w' k b ns ds := by
  obtain ⟨h0, x1, y1, x2, y2, h1, h2, h3⟩ := h
  exact ⟨h0, x1, y1, x2, y2, h1.below hb (Nat.lt_of_lt_of_le h1.lt hB), h2.below hb hB, h3.below hb hB⟩
theorem NumAt.mono (h : NumAt base w k b ns ds) (hB : base' ≤ base) : NumAt base' w k b ns ds := by
  obtain ⟨h0, x1, y1, x2, y2, h1, h2, h3⟩ := h
  exact ⟨Nat.le_trans hB h0, x1, y1, x2, y2, h1, h2.mono hB, h3.mono hB⟩
theorem BoxA.other {ty : Nat} {xs : Array Value} {p : Addr} (h : BoxA w k ty xs) (hp : p.block ≠ k) (v : Value) : BoxA (w.setCell p v) k ty xs := by
  unfold BoxA at *
  have hne : ¬ p.block = k := hp
  simp [World.setCell, Array.getElem?_modify, hne, h]
theorem NumAt.set2 (h : NumAt base w k b ns ds) (hR : R < base) (u v : Value) : NumAt base ((w.setCell ⟨R, 0, none⟩ u).setCell ⟨R, 1, none⟩ v) k b ns ds := by
  obtain ⟨h0, x1, y1, x2, y2, h1, h2, h3⟩ := h
  have hne : R ≠ k := by omega
  refine ⟨h0, x1, y1, x2, y2, (h1.other (p := ⟨R, 0, none⟩) hne _).other (p := ⟨R, 1, none⟩) hne _, ?_, ?_⟩
  · exact (h2.setCell (a := ⟨R, 0, none⟩) (ownBlock_ne h2 hR) _).setCell (a := ⟨R, 1, none⟩) (ownBlock_ne h2 hR) _
  · exact (h3.setCell (a := ⟨R, 0, none⟩) (ownBlock_ne h3 hR) _).setCell (a := ⟨R, 1, none⟩) (ownBlock_ne h3 hR) _
theorem BoxA.set2 {ty : Nat} {u0 u1 : Value} (h : BoxA w R ty #[u0, u1]) (u v : Value) : BoxA ((w.setCell ⟨R, 0, none⟩ u).setCell ⟨R, 1, none⟩ v) R ty #[u, v] := by
  unfold BoxA at h ⊢
  simp [World.setCell, Array.getElem?_modify, h]
theorem Below.set2 (h : Below base w w') (hB : base ≤ R) (u v : Value) : Below base w ((w'.setCell ⟨R, 0, none⟩ u).setCell ⟨R, 1, none⟩ v) :=
  (h.setCell (p := ⟨R, 0, none⟩) hB _).setCell (p := ⟨R, 1, none⟩) hB _
end

theorem ofInt_zero_is {b : Bool} {ns ds : List Int} (h : WholeIs 0 b ns ds) : b = false ∧ ns = [] ∧ ds = [1] := by
  obtain ⟨hb, cn, vn, _, hd⟩ := h
  exact ⟨by rw [hb]; decide, List.eq_nil_of_length_eq_zero ((can_zero cn).2 (by rw [vn]; decide)), hd⟩
/-- A scalar of a number is answered. -/
def ScalarAns (w : World) (b : Bool) (ns ds : List Int) (e : Ending) (w' : World) : Prop :=
  ∃ k, e = .returned (.agg #[.slice none 0 0, .slice (some ⟨k, 0, none⟩) 1 1]) ∧ NumAt w.heap.size w' k b ns ds ∧ Below w.heap.size w w'

set_option maxRecDepth 100000 in
set_option maxHeartbeats 6400000 in
theorem arrInt_zero (w : World) : Calls Tryz.prog 25 #[.int .i64 0] w fun e w' => ScalarAns w false [] [1] e w' := by
  have R := boxA_new w #[.slice none 0 0, .slice none 0 0] 25
  have g := below_alloc w (.cells #[.slice none 0 0, .slice none 0 0] 25)
  have s0 : w.heap.size < (w.alloc (.cells #[.slice none 0 0, .slice none 0 0] 25)).heap.size := by simp
  go_enter Tryz.func25, Tryz.ntmps25
  go_wp2_with fail
  generalize hA : w.alloc (.cells #[.slice none 0 0, .slice none 0 0] 25) = v at *
  clear hA
  refine (ofInt_any 0 (by decide) (by decide) _).mono ?_
  rintro e w1 ⟨k1, bo, on, od, o1, o2, o3, o4, HO, rfl, oo, oe⟩
  go_wp2_with fail
  refine number_any.mono ?_
  rintro e w2 ⟨rfl, k2⟩
  have s1 := k1.size
  have t2 : Below v.heap.size v w2 := k1.trans (k2.mono s1)
  have p1 := oo.below k2 (Nat.le_refl _)
  have p2 := oe.below k2 (Nat.le_refl _)
  go_wp2_with fail
  refine scalar_any.mono ?_
  rintro e w3 ⟨k, rfl, hk, hB, k3⟩
  have s2 := t2.size
  have t3 : Below v.heap.size v w3 := t2.trans (k3.mono s2)
  have hN : NumAt v.heap.size w3 k bo on od := ⟨by omega, _, _, _, _, hB, p1.below k3 (Nat.le_refl _), p2.below k3 (Nat.le_refl _)⟩
  have HN : Hid (NumAt v.heap.size w3 k false [] [1]) := by
    obtain ⟨rfl, rfl, rfl⟩ : bo = false ∧ on = [] ∧ od = [1] := ofInt_zero_is HO.out
    exact hN
  clear hN HO
  have R3 := R.below t3 s0
  have q0 := R3.cell 0 rfl
  have q1 := R3.cell 1 rfl
  have f0 := R3.frozen 0
  have f1 := R3.frozen 1
  go_wp2
  have R4 := R3.set2 (.slice none 0 0) (.slice (some ⟨k, 0, none⟩) 1 1)
  have r0 := R4.cell 0 rfl
  have r1 := R4.cell 1 rfl
  refine bodyPost_ret (v := .agg #[.slice none 0 0, .slice (some ⟨k, 0, none⟩) 1 1]) (by simp [results, Tryz.results25, go_sem, r0, r1]) rfl ?_
  exact ⟨k, rfl, (HN.out.set2 s0 _ _).mono (by omega), Below.set2 (g.trans (t3.mono (by omega))) (Nat.le_refl _) _ _⟩

end Go.Proofs.YtnlmjibdifbnbaaGreat

/- slices.Equal of limbs that read the same; of two nil shapes. -/
namespace Go.Proofs.YtnlmjibdifbnbaaGreat
set_option linter.unusedVariables false
set_option linter.unusedSimpArgs false
open Go.RowKit

set_option maxHeartbeats 1600000 in
theorem equal_walk (b1 o1 c1 b2 o2 c2 n : Nat) (xs : List Int) (w : World) (hb : n ≤ 9223372036854775807)
    (k1 : ∀ j, j < n → w.cell? ⟨b1, o1 + j, none⟩ = some (.int .u32 (xs.getD j 0)))
    (k2 : ∀ j, j < n → w.cell? ⟨b2, o2 + j, none⟩ = some (.int .u32 (xs.getD j 0))) :
    Calls Tryz.prog 84 #[.slice (some ⟨b1, o1, none⟩) n c1, .slice (some ⟨b2, o2, none⟩) n c2] w fun e w' => e = .returned (.bool true) ∧ ∃ q, w' = w.drewN q := by
  have K1 : Hid (∀ j, j < n → w.cell? ⟨b1, o1 + j, none⟩ = some (.int .u32 (xs.getD j 0))) := k1
  have K2 : Hid (∀ j, j < n → w.cell? ⟨b2, o2 + j, none⟩ = some (.int .u32 (xs.getD j 0))) := k2
  clear k1 k2
  go_enter Tryz.func84, Tryz.ntmps84
  go_wp2
  go_loopw [13] (fun s wr => (∃ q, wr = w.drewN q) ∧ ∃ j : Nat, j ≤ n ∧ s = .int .i64 j) (fun s _ => n - (intOf s).toNat)
  case atStart => exact ⟨⟨0, rfl⟩, 0, Nat.zero_le _, rfl⟩
  case round =>
    obtain ⟨⟨q, rfl⟩, j, hj, rfl⟩ := hrel
    by_cases hlt : j < n
    · have g1 := K1.out j hlt
      have g2 := K2.out j hlt
      generalize xs.getD j 0 = p at *
      go_wp2
      go_quiet (fail)
      go_wp2
      go_roundw
      case rel => exact ⟨⟨_, rfl⟩, j + 1, by omega, by go_num⟩
      case measure => simp [intOf]; omega
    · go_wp2
      go_ret
      exact ⟨rfl, _, rfl⟩

theorem equal_nil (a1 a2 : Option Addr) (c1 c2 : Nat) (w : World) :
    Calls Tryz.prog 84 #[.slice a1 0 c1, .slice a2 0 c2] w fun e w' => e = .returned (.bool true) ∧ w = w' := by
  go_enter Tryz.func84, Tryz.ntmps84
  go_wp2
  go_loopw [13] (fun s wr => wr = w ∧ s = .int .i64 0) (fun _ _ => 0)
  case atStart => exact ⟨rfl, rfl⟩
  case round =>
    obtain ⟨rfl, rfl⟩ := hrel
    go_wp2
    go_ret
    exact ⟨rfl, rfl⟩

theorem equal_rd {B B' : Nat} {w : World} {v1 v2 : Value} {xs : List Int} (h1 : Rd B w v1 xs) (h2 : Rd B' w v2 xs) :
    Calls Tryz.prog 84 #[v1, v2] w fun e w' => e = .returned (.bool true) ∧ Below w.heap.size w w' := by
  obtain ⟨_, a1, c1, rfl, i1, j1, _, f1⟩ := h1
  obtain ⟨_, a2, c2, rfl, i2, j2, _, f2⟩ := h2
  by_cases h0 : xs.length = 0
  · rw [h0]
    refine (equal_nil a1 a2 c1 c2 w).mono ?_
    rintro e w' ⟨rfl, rfl⟩
    exact ⟨rfl, Below.refl _ _⟩
  · rcases f1 with f1 | ⟨b1, o1, rfl, _, k1⟩
    · exact absurd f1 h0
    rcases f2 with f2 | ⟨b2, o2, rfl, _, k2⟩
    · exact absurd f2 h0
    refine (equal_walk b1 o1 c1 b2 o2 c2 xs.length xs w (by omega) k1 k2).mono ?_
    rintro e w' ⟨rfl, q, rfl⟩
    exact ⟨rfl, below_drewN' (Below.refl _ _) q⟩

theorem equal_shape (a1 a2 : Option Addr) (c1 c2 : Nat) (w : World) :
    Calls Tryz.prog 54 #[.slice a1 0 c1, .slice a2 0 c2] w fun e w' => e = .returned (.bool true) ∧ w = w' := by
  go_enter Tryz.func54, Tryz.ntmps54
  go_wp2
  go_loopw [13] (fun s wr => wr = w ∧ s = .int .i64 0) (fun _ _ => 0)
  case atStart => exact ⟨rfl, rfl⟩
  case round =>
    obtain ⟨rfl, rfl⟩ := hrel
    go_wp2
    go_ret
    exact ⟨rfl, rfl⟩
set_option maxRecDepth 100000 in
theorem arrProduct_none (c : Nat) (w : World) : Calls Tryz.prog 60 #[.slice none 0 c] w fun e w' => e = .returned (.tuple #[.int .i64 1, .int .i64 0]) ∧ w' = w := by
  go_enter Tryz.func60, Tryz.ntmps60
  go_wp2
  go_loopw [4, 9] (fun z s wr => wr = w ∧ z = .int .i64 1 ∧ s = .int .i64 0) (fun _ _ _ => 0)
  case atStart => exact ⟨rfl, rfl, rfl⟩
  case round =>
    obtain ⟨rfl, rfl, rfl⟩ := hrel
    go_wp2
    go_ret2
    exact ⟨rfl, rfl⟩
set_option maxRecDepth 100000 in
theorem arrSize_none (c : Nat) (w : World) : Calls Tryz.prog 31 #[.slice none 0 c] w fun e w' => e = .returned (.tuple #[.int .i64 1, .int .i64 0]) ∧ w' = w := by
  go_enter Tryz.func31, Tryz.ntmps31
  go_wp2
  go_loopw [4, 5, 13] (fun z y s wr => wr = w ∧ z = .int .i64 1 ∧ y = .int .i64 1 ∧ s = .int .i64 0) (fun _ _ _ _ => 0)
  case atStart => exact ⟨rfl, rfl, rfl, rfl⟩
  case round =>
    obtain ⟨rfl, rfl, rfl, rfl⟩ := hrel
    go_wp2_with fail
    refine (arrProduct_none c _).mono ?_
    rintro e w' ⟨rfl, rfl⟩
    go_wp2
    go_ret2
    exact ⟨rfl, rfl⟩
section
variable {w : World} {base k : Nat} {b : Bool} {ns ds : List Int}
set_option maxRecDepth 100000 in
theorem isSimple_num {x1 x2 : Option Addr} {n1 n2 y1 y2 : Nat} (h : BoxA w k 42 #[.int .u8 1, .bool b, .slice x1 n1 y1, .slice x2 n2 y2, .int .i32 0, .slice none 0 0]) :
    Calls Tryz.prog 59 #[.agg #[.slice none 0 0, .slice (some ⟨k, 0, none⟩) 1 1]] w fun e w' => e = .returned (.bool true) ∧ Below w.heap.size w w' := by
  have kk := below_alloc w (.cells #[.slice none 0 0, .slice (some ⟨k, 0, none⟩) 1 1] 25)
  have h' := h.below kk h.lt
  have A := boxA_new w #[.slice none 0 0, .slice (some ⟨k, 0, none⟩) 1 1] 25
  have a0 := A.cell 0 rfl
  have a1 := A.cell 1 rfl
  have i0 := h'.cell 0 rfl
  go_enter Tryz.func59, Tryz.ntmps59
  go_wp2
  go_ret
  exact ⟨rfl, kk⟩
end
end Go.Proofs.YtnlmjibdifbnbaaGreat

/- array.Right of a scalar of a right number. -/
namespace Go.Proofs.YtnlmjibdifbnbaaGreat
set_option linter.unusedVariables false
set_option linter.unusedSimpArgs false
open Go.RowKit

section
variable {w : World} {b : Bool} {a1 a2 : Option Addr} {c1 c2 : Nat} {ns ds : List Int}
set_option maxRecDepth 100000 in
set_option maxHeartbeats 16000000 in
theorem measuredItem_num (lv : Int) (h1 : Rd w.heap.size w (.slice a1 ns.length c1) ns) (h2 : Rd w.heap.size w (.slice a2 ds.length c2) ds) (hr : RightP b ns ds) :
    Calls Tryz.prog 58 #[.agg #[.int .u8 1, .bool b, .slice a1 ns.length c1, .slice a2 ds.length c2, .int .i32 0, .slice none 0 0], .int .i64 lv] w fun e w' => e = .returned (.tuple #[.agg #[.int .i64 0, .int .i64 0], .bool true]) ∧ Below w.heap.size w w' := by
  have HR : Hid (RightP b ns ds) := hr
  clear hr
  have X0 := boxA_new w #[.int .u8 1, .bool b, .slice a1 ns.length c1, .slice a2 ds.length c2, .int .i32 0, .slice none 0 0] 42
  have k0 := below_alloc w (.cells #[.int .u8 1, .bool b, .slice a1 ns.length c1, .slice a2 ds.length c2, .int .i32 0, .slice none 0 0] 42)
  have k1 := below_alloc (w.alloc (.cells #[.int .u8 1, .bool b, .slice a1 ns.length c1, .slice a2 ds.length c2, .int .i32 0, .slice none 0 0] 42)) (.cells #[.int .i64 0, .int .i64 0] 64)
  have R := boxA_new (w.alloc (.cells #[.int .u8 1, .bool b, .slice a1 ns.length c1, .slice a2 ds.length c2, .int .i32 0, .slice none 0 0] 42)) #[.int .i64 0, .int .i64 0] 64
  rw [World.size_alloc] at R
  have X := X0.below k1 (by simp)
  have g : Below w.heap.size w _ := k0.trans (k1.mono (by simp))
  have sv : ((w.alloc (.cells #[.int .u8 1, .bool b, .slice a1 ns.length c1, .slice a2 ds.length c2, .int .i32 0, .slice none 0 0] 42)).alloc (.cells #[.int .i64 0, .int .i64 0] 64)).heap.size = w.heap.size + 1 + 1 := by simp
  replace h1 := h1.below g
  replace h2 := h2.below g
  obtain ⟨X0', X1, X2, X3, X4, X5⟩ := X.num
  go_enter Tryz.func58, Tryz.ntmps58
  go_upto_region 3 with fail
  generalize hA : (w.alloc (.cells #[.int .u8 1, .bool b, .slice a1 ns.length c1, .slice a2 ds.length c2, .int .i32 0, .slice none 0 0] 42)).alloc (.cells #[.int .i64 0, .int .i64 0] 64) = v at *
  clear hA k0 k1 X0
  have hcells : ∀ {w' : World}, Below v.heap.size v w' → w'.cell? ⟨w.heap.size, 1, none⟩ = some (.bool b) ∧ w'.cell? ⟨w.heap.size, 2, none⟩ = some (.slice a1 ns.length c1) ∧ w'.cell? ⟨w.heap.size, 3, none⟩ = some (.slice a2 ds.length c2) ∧ w'.cell? ⟨w.heap.size, 4, none⟩ = some (.int .i32 0) ∧ w'.cell? ⟨w.heap.size, 5, none⟩ = some (.slice none 0 0) := fun hb => by
    obtain ⟨_, q1, q2, q3, q4, q5⟩ := (X.below hb (by omega)).num
    exact ⟨q1, q2, q3, q4, q5⟩
  have d0 : Below v.heap.size v v.drew := ⟨rfl, rfl, rfl, Nat.le_refl _, fun _ _ => rfl⟩
  have h1' : Rd v.drew.heap.size v.drew (.slice a1 ns.length c1) ns := h1.mono (by simp; omega)
  have h2' : Rd v.drew.heap.size v.drew (.slice a2 ds.length c2) ds := h2.mono (by simp; omega)
  go_region_held3 (fun w' => w'.cell? ⟨w.heap.size, 1, none⟩ = some (.bool b) ∧ w'.cell? ⟨w.heap.size, 2, none⟩ = some (.slice a1 ns.length c1) ∧ w'.cell? ⟨w.heap.size, 3, none⟩ = some (.slice a2 ds.length c2) ∧ w'.cell? ⟨w.heap.size, 4, none⟩ = some (.int .i32 0) ∧ w'.cell? ⟨w.heap.size, 5, none⟩ = some (.slice none 0 0))
    (first | (go_keep; done) | exact tw)
    (first
      | (go_at_call 86; refine (right_rat h1' h2' (Nat.le_refl _)).mono ?_; rintro e wa ⟨⟨r, rfl, hr⟩, ka'⟩; obtain rfl : r = true := hr.2 HR.out; clear hr; have ka : Below v.heap.size v wa := d0.trans (ka'.mono d0.size); have tw := hcells ka; have Rc := R.below ka (by omega); have q0 := Rc.cell 0 rfl; have q1 := Rc.cell 1 rfl; have p0 := Rc.frozen 0; have p1 := Rc.frozen 1))
  all_goals
    go_wp2
    have Rd2 := Rc.set2 (.int .i64 0) (.int .i64 0)
    have r0 := Rd2.cell 0 rfl
    have r1 := Rd2.cell 1 rfl
    refine bodyPost_ret (v := .tuple #[.agg #[.int .i64 0, .int .i64 0], .bool true]) (by simp [results, Tryz.results58, go_sem, r0, r1]) rfl ?_
    exact ⟨rfl, Below.set2 (g.trans (ka.mono (by omega))) (by omega) _ _⟩
end
end Go.Proofs.YtnlmjibdifbnbaaGreat

/- array.measured: whether an array is right, how deep, how great. -/
namespace Go.Proofs.YtnlmjibdifbnbaaGreat
set_option linter.unusedVariables false
set_option linter.unusedSimpArgs false
open Go.RowKit

def okR (c : Int) : Prop := (0 ≤ c ∧ c < 55296) ∨ (57343 < c ∧ c ≤ 1114111)
/-- Has an item no number? -/
def noneB (t : Tr) : Bool := !t.b && decide (t.ns.length = 0) && decide (t.ds.length = 0)
/-- Is an array a scalar of a number or a character? -/
def simpB (t : Tr) : Bool := decide (t.ns.length = 0) && decide (t.kids.length = 1) && (decide ((t.kids.getD 0 tr0).k = 1) || decide ((t.kids.getD 0 tr0).k = 2))
open Classical in
/-- An item's measure, where M tells that of its array. -/
noncomputable def measI (M : Tr → Option (Int × Int)) (t : Tr) : Option (Int × Int) :=
  if t.k = 1 then (if RightP t.b t.ns t.ds ∧ t.c = 0 ∧ t.kids.length = 0 then some (0, 0) else none)
  else if t.k = 2 then (if okR t.c ∧ noneB t = true ∧ t.kids.length = 0 then some (0, 0) else none)
  else if t.k = 3 then (if noneB t = true ∧ t.c = 0 ∧ t.kids.length = 1 ∧ simpB (t.kids.getD 0 tr0) = false then M (t.kids.getD 0 tr0) else none)
  else none
def measL (I : Tr → Option (Int × Int)) : List Tr → Int × Int → Option (Int × Int)
  | [], w => some w
  | t :: r, w => match I t with
    | none => none
    | some p => if 16384 < w.2 + p.2 then none else measL I r (max w.1 (1 + p.1), w.2 + p.2)
/-- An array's measure, so many levels down. -/
noncomputable def measF : Nat → Tr → Option (Int × Int)
  | 0, _ => none
  | L + 1, t => if (sizeF t.ns).2 = 0 ∧ (t.kids.length : Int) = max (sizeF t.ns).1 1 then
      (match measL (measI (measF L)) t.kids (1, (t.kids.length : Int)) with
        | none => none
        | some p => some (if simpB t = true then 0 else p.1, p.2)) else none
/-- How a measure is told. -/
def mEnd (o : Option (Int × Int)) : Ending := .returned (.tuple #[.agg #[.int .i64 (o.getD (0, 0)).1, .int .i64 (o.getD (0, 0)).2], .bool o.isSome])
def inM (o : Option (Int × Int)) : Prop := ∀ p, o = some p → 0 ≤ p.1 ∧ p.1 ≤ 100 ∧ 0 ≤ p.2 ∧ p.2 ≤ 16384
theorem isNone_any (b : Bool) (a1 : Option Addr) (n1 c1 : Nat) (a2 : Option Addr) (n2 c2 : Nat) (w : World) (h1 : n1 ≤ 9223372036854775807) (h2 : n2 ≤ 9223372036854775807) :
    Calls Tryz.prog 88 #[.agg #[.bool b, .slice a1 n1 c1, .slice a2 n2 c2]] w fun e w' => e = .returned (.bool (!b && decide (n1 = 0) && decide (n2 = 0))) ∧ w' = w.alloc (.cells #[.bool b, .slice a1 n1 c1, .slice a2 n2 c2] 39) := by
  have X := boxA_new w #[.bool b, .slice a1 n1 c1, .slice a2 n2 c2] 39
  have x0 := X.cell 0 rfl
  have x1 := X.cell 1 rfl
  have x2 := X.cell 2 rfl
  go_enter Tryz.func88, Tryz.ntmps88
  cases b with
  | true =>
    go_wp2
    go_ret
    exact ⟨rfl, rfl⟩
  | false =>
    by_cases e1 : n1 = 0
    · have d1 : ((n1 : Int) == 0) = true := by rw [beq_iff_eq]; omega
      by_cases e2 : n2 = 0
      · have d2 : ((n2 : Int) == 0) = true := by rw [beq_iff_eq]; omega
        have HQ : Hid ((!false && decide (n1 = 0) && decide (n2 = 0)) = true) := by unfold Hid; rw [decide_eq_true e1, decide_eq_true e2]; rfl
        clear e1 e2
        go_wp2
        go_ret
        exact ⟨by rw [HQ.out]; rfl, rfl⟩
      · have d2 : ((n2 : Int) == 0) = false := by rw [beq_eq_false_iff_ne]; omega
        have HQ : Hid ((!false && decide (n1 = 0) && decide (n2 = 0)) = false) := by unfold Hid; rw [decide_eq_true e1, decide_eq_false e2]; rfl
        clear e1 e2
        go_wp2
        go_ret
        exact ⟨by rw [HQ.out]; rfl, rfl⟩
    · have d1 : ((n1 : Int) == 0) = false := by rw [beq_eq_false_iff_ne]; omega
      have HQ : Hid ((!false && decide (n1 = 0) && decide (n2 = 0)) = false) := by unfold Hid; rw [decide_eq_false e1]; rfl
      clear e1
      go_wp2
      go_ret
      exact ⟨by rw [HQ.out]; rfl, rfl⟩
set_option maxRecDepth 100000 in
set_option maxHeartbeats 1600000 in
theorem isSimpleT_any {D : Nat → Prop} {f : Nat} {W : World} {x1 : Option Addr} {n1 y1 : Nat} {x2 : Option Addr} {n2 y2 : Nat} {t : Tr} (h : ArV (f + 1) D W (.slice x1 n1 y1) (.slice x2 n2 y2) t) (hD : ∀ g, D g → g < W.heap.size) :
    Calls Tryz.prog 59 #[.agg #[.slice x1 n1 y1, .slice x2 n2 y2]] W fun e w' => e = .returned (.bool (simpB t)) ∧ w' = W.alloc (.cells #[.slice x1 n1 y1, .slice x2 n2 y2] 25) := by
  obtain rfl := h.1.len
  obtain rfl := h.2.len
  have bd1 := h.1.bounds
  have bd2 := h.2.bounds
  have X := boxA_new W #[.slice x1 t.ns.length y1, .slice x2 t.kids.length y2] 25
  have k := below_alloc W (.cells #[.slice x1 t.ns.length y1, .slice x2 t.kids.length y2] 25)
  have p0 := X.cell 0 rfl
  have p1 := X.cell 1 rfl
  go_enter Tryz.func59, Tryz.ntmps59
  by_cases e1 : t.ns.length = 0
  · have d1 : ((t.ns.length : Int) == 0) = true := by rw [beq_iff_eq]; omega
    by_cases e2 : t.kids.length = 1
    · have d2 : ((t.kids.length : Int) == 1) = true := by rw [beq_iff_eq]; omega
      obtain ⟨g, o, rfl, hg, hc⟩ := h.2.ptr (by omega)
      obtain ⟨a1, c1, a2, c2, a3, c3, ⟨z0, _⟩, _⟩ := hc 0 (by omega)
      rw [Nat.zero_mul, Nat.add_zero] at z0
      have q0 := (k.cell (p := ⟨g, o, none⟩) (hD g hg)).trans z0
      have HQ : Hid (simpB t = (decide ((t.kids.getD 0 tr0).k = 1) || decide ((t.kids.getD 0 tr0).k = 2))) := by unfold Hid simpB; rw [decide_eq_true e1, decide_eq_true e2]; rfl
      have hpos : 0 < t.kids.length := by omega
      clear h hc z0 e1 e2
      generalize (t.kids.getD 0 tr0).k = K at *
      by_cases k1 : K = 1
      · have d3 : (K == 1) = true := by rw [beq_iff_eq]; exact k1
        have HR : Hid (simpB t = true) := by unfold Hid; rw [HQ.out, decide_eq_true k1]; rfl
        clear k1 HQ
        go_wp2
        go_ret
        exact ⟨by rw [HR.out]; rfl, rfl⟩
      · have d3 : (K == 1) = false := by rw [beq_eq_false_iff_ne]; exact k1
        by_cases k2 : K = 2
        · have d4 : (K == 2) = true := by rw [beq_iff_eq]; exact k2
          have HR : Hid (simpB t = true) := by unfold Hid; rw [HQ.out, decide_eq_false k1, decide_eq_true k2]; rfl
          clear k1 k2 HQ
          go_wp2
          go_ret
          exact ⟨by rw [HR.out]; rfl, rfl⟩
        · have d4 : (K == 2) = false := by rw [beq_eq_false_iff_ne]; exact k2
          have HR : Hid (simpB t = false) := by unfold Hid; rw [HQ.out, decide_eq_false k1, decide_eq_false k2]; rfl
          clear k1 k2 HQ
          go_wp2
          go_ret
          exact ⟨by rw [HR.out]; rfl, rfl⟩
    · have d2 : ((t.kids.length : Int) == 1) = false := by rw [beq_eq_false_iff_ne]; omega
      have HR : Hid (simpB t = false) := by unfold Hid simpB; rw [decide_eq_true e1, decide_eq_false e2]; rfl
      clear e1 e2
      go_wp2
      go_ret
      exact ⟨by rw [HR.out]; rfl, rfl⟩
  · have d1 : ((t.ns.length : Int) == 0) = false := by rw [beq_eq_false_iff_ne]; omega
    have HR : Hid (simpB t = false) := by unfold Hid simpB; rw [decide_eq_false e1]; rfl
    clear e1
    go_wp2
    go_ret
    exact ⟨by rw [HR.out]; rfl, rfl⟩
section
variable {M : Tr → Option (Int × Int)} {t : Tr}
theorem measI_num (e1 : t.k = 1) (h : RightP t.b t.ns t.ds ∧ t.c = 0 ∧ t.kids.length = 0) : measI M t = some (0, 0) := by unfold measI; rw [if_pos e1, if_pos h]
theorem measI_num_no (e1 : t.k = 1) (h : ¬ (RightP t.b t.ns t.ds ∧ t.c = 0 ∧ t.kids.length = 0)) : measI M t = none := by unfold measI; rw [if_pos e1, if_neg h]
theorem measI_ch (e1 : t.k = 2) (h : okR t.c ∧ noneB t = true ∧ t.kids.length = 0) : measI M t = some (0, 0) := by unfold measI; rw [if_neg (by omega), if_pos e1, if_pos h]
theorem measI_ch_no (e1 : t.k = 2) (h : ¬ (okR t.c ∧ noneB t = true ∧ t.kids.length = 0)) : measI M t = none := by unfold measI; rw [if_neg (by omega), if_pos e1, if_neg h]
theorem measI_box (e1 : t.k = 3) (h : noneB t = true ∧ t.c = 0 ∧ t.kids.length = 1 ∧ simpB (t.kids.getD 0 tr0) = false) : measI M t = M (t.kids.getD 0 tr0) := by unfold measI; rw [if_neg (by omega), if_neg (by omega), if_pos e1, if_pos h]
theorem measI_box_no (e1 : t.k = 3) (h : ¬ (noneB t = true ∧ t.c = 0 ∧ t.kids.length = 1 ∧ simpB (t.kids.getD 0 tr0) = false)) : measI M t = none := by unfold measI; rw [if_neg (by omega), if_neg (by omega), if_pos e1, if_neg h]
theorem measI_else (h1 : ¬ t.k = 1) (h2 : ¬ t.k = 2) (h3 : ¬ t.k = 3) : measI M t = none := by unfold measI; rw [if_neg h1, if_neg h2, if_neg h3]
end
/-- measured tells what it should, so many levels down. -/
def MeasOK (L : Nat) : Prop := ∀ (f : Nat) (D : Nat → Prop) (W : World) (x1 : Option Addr) (n1 y1 : Nat) (x2 : Option Addr) (n2 y2 : Nat) (t : Tr), (∀ g, D g → g < W.heap.size) → ArV f D W (.slice x1 n1 y1) (.slice x2 n2 y2) t →
  Calls Tryz.prog 30 #[.agg #[.slice x1 n1 y1, .slice x2 n2 y2], .int .i64 L] W fun e w' => e = mEnd (measF L t) ∧ Below W.heap.size W w'
def TellsRune (c : Int) (e : Ending) : Prop := ∃ r, e = .returned (.bool r) ∧ (r = true ↔ okR c)
theorem validRune_any (c : Int) (w : World) : Calls Tryz.prog 87 #[.int .i32 c] w fun e w' => TellsRune c e ∧ Below w.heap.size w w' := by
  go_enter Tryz.func87, Tryz.ntmps87
  by_cases h1 : 0 ≤ c
  · by_cases h2 : c < 55296
    · go_wp2
      go_ret
      exact ⟨⟨true, rfl, fun _ => Or.inl ⟨h1, h2⟩, fun _ => rfl⟩, Below.refl _ _⟩
    · by_cases h3 : 57343 < c
      · by_cases h4 : c ≤ 1114111
        · go_wp2
          go_ret
          exact ⟨⟨true, rfl, fun _ => Or.inr ⟨h3, h4⟩, fun _ => rfl⟩, Below.refl _ _⟩
        · go_wp2
          go_ret
          exact ⟨⟨false, rfl, (fun h => by cases h), fun h => by unfold okR at h; omega⟩, Below.refl _ _⟩
      · go_wp2
        go_ret
        exact ⟨⟨false, rfl, (fun h => by cases h), fun h => by unfold okR at h; omega⟩, Below.refl _ _⟩
  · go_wp2
    go_ret
    exact ⟨⟨false, rfl, (fun h => by cases h), fun h => by unfold okR at h; omega⟩, Below.refl _ _⟩
end Go.Proofs.YtnlmjibdifbnbaaGreat

/- The document's Size, IsSimple, IsChar, noNum. -/
namespace Go.Proofs.YtnlmjibdifbnbaaGreat
set_option linter.unusedVariables false
set_option linter.unusedSimpArgs false
open Go.RowKit

theorem lo_neg {sh : List Int} : (∃ x ∈ sh, x < 0) → loF sh < 0 := fun ⟨x, hx, h⟩ => by
  have := (foldl_lo sh 1).2 x hx
  unfold loF
  omega
theorem foldl_lo_get : ∀ (l : List Int) (a : Int), l.foldl min a = a ∨ l.foldl min a ∈ l
  | [], a => Or.inl rfl
  | y :: l, a => by
    rw [List.foldl_cons]
    rcases foldl_lo_get l (min a y) with h | h
    · rw [h]
      by_cases c : a ≤ y
      · exact Or.inl (by omega)
      · exact Or.inr (by rw [show min a y = y by omega]; simp)
    · exact Or.inr (by simp [h])
theorem foldl_hi_get : ∀ (l : List Int) (a : Int), l.foldl max a = a ∨ l.foldl max a ∈ l
  | [], a => Or.inl rfl
  | y :: l, a => by
    rw [List.foldl_cons]
    rcases foldl_hi_get l (max a y) with h | h
    · rw [h]
      by_cases c : y ≤ a
      · exact Or.inl (by omega)
      · exact Or.inr (by rw [show max a y = y by omega]; simp)
    · exact Or.inr (by simp [h])
theorem lo_ok {sh : List Int} (h : ∀ x ∈ sh, 0 ≤ x) : ¬ loF sh < 0 ∧ (loF sh = 0 ↔ 0 ∈ sh) := by
  unfold loF
  have hl := foldl_lo sh 1
  rcases foldl_lo_get sh 1 with e | e
  · refine ⟨by omega, fun h0 => by omega, fun h0 => ?_⟩
    have := hl.2 0 h0
    omega
  · have := h _ e
    refine ⟨by omega, fun h0 => by rw [← h0]; exact e, fun h0 => ?_⟩
    have := hl.2 0 h0
    omega
theorem hi_ok {sh : List Int} : 4096 < hiF sh ↔ ∃ x ∈ sh, 4096 < x := by
  unfold hiF
  have hl := foldl_hi sh 1
  rcases foldl_hi_get sh 1 with e | e
  · refine ⟨fun h => by omega, fun ⟨x, hx, h⟩ => ?_⟩
    have := hl.2 x hx
    omega
  · exact ⟨fun h => ⟨_, e, h⟩, fun ⟨x, hx, h⟩ => by have := hl.2 x hx; omega⟩
section
variable {D : Nat → Prop} {w : World} {a : Option Addr} {c : Nat} {sh : List Int}
set_option maxRecDepth 100000 in
set_option maxHeartbeats 1600000 in
theorem refSize3_any (h : RdN D w (.slice a sh.length c) sh) (hD : ∀ g, D g → g < w.heap.size) :
    Calls Tryz.prog 16 #[.slice a sh.length c] w fun e w' => e = .returned (.tuple #[.int .i64 (sizeF sh).1, .int .i64 (sizeF sh).2]) ∧ w' = w := by
  have bd := h.bounds
  have HH : Hid (RdN D w (.slice a sh.length c) sh) := h
  clear h hD
  go_enter Tryz.func16, Tryz.ntmps16
  by_cases h8 : 8 < sh.length
  · have HF : Hid (sizeF sh = (0, 4)) := by unfold Hid sizeF; rw [if_pos h8]
    go_wp2
    go_ret2
    exact ⟨by rw [HF.out]; rfl, rfl⟩
  go_wp2
  go_loopw [4, 5, 6] (fun nv gv iv wr => ∃ (i : Nat) (N G : Bool), nv = .bool N ∧ gv = .bool G ∧ iv = .int .i64 i ∧ i ≤ sh.length ∧ Hid (N = true ↔ 0 ∈ sh.take i) ∧ Hid (G = true ↔ ∃ x ∈ sh.take i, 4096 < x) ∧ Hid (∀ x ∈ sh.take i, 0 ≤ x) ∧ wr = w) (fun _ _ iv _ => sh.length - (intOf iv).toNat)
  case atStart => exact ⟨0, false, false, rfl, rfl, rfl, Nat.zero_le _, by unfold Hid; simp, by unfold Hid; simp, by unfold Hid; simp, rfl⟩
  case round =>
    obtain ⟨i, N, G, rfl, rfl, rfl, hil, HN, HG, HP, hwr⟩ := hrel
    subst hwr
    by_cases hlt : i < sh.length
    · obtain ⟨g, o, rfl, hg, hc⟩ := HH.out.ptr (by omega)
      have q := hc i hlt
      have HX : Hid (sh.take (i + 1) = sh.take i ++ [sh.getD i 0]) := by unfold Hid; rw [← List.take_append_getElem hlt]; simp [List.getD, hlt]
      have HM : Hid (sh.getD i 0 ∈ sh) := by unfold Hid; simp [List.getD, hlt]
      clear hc
      generalize sh.getD i 0 = X at *
      by_cases hneg : X < 0
      · have HF : Hid (sizeF sh = (0, 3)) := by unfold Hid sizeF; rw [if_neg h8, if_pos (lo_neg ⟨X, HM.out, hneg⟩)]
        go_wp2
        go_ret2
        exact ⟨by rw [HF.out]; rfl, rfl⟩
      · have HP2 : Hid (∀ x ∈ sh.take (i + 1), 0 ≤ x) := by
          unfold Hid
          rw [HX.out]
          intro x hx
          rcases List.mem_append.1 hx with hx | hx
          · exact HP.out x hx
          · rw [List.mem_singleton.1 hx]; omega
        have HN2 : ∀ b, b = (N || decide (X = 0)) → Hid (b = true ↔ 0 ∈ sh.take (i + 1)) := fun b hb => by
          unfold Hid
          rw [HX.out, hb, List.mem_append, ← HN.out, List.mem_singleton]
          simp only [Bool.or_eq_true, decide_eq_true_eq]
          exact ⟨fun h => h.imp id Eq.symm, fun h => h.imp id Eq.symm⟩
        have HG2 : ∀ b, b = (G || decide (4096 < X)) → Hid (b = true ↔ ∃ x ∈ sh.take (i + 1), 4096 < x) := fun b hb => by
          unfold Hid
          rw [HX.out, hb]
          simp only [Bool.or_eq_true, decide_eq_true_eq, List.mem_append, List.mem_singleton]
          constructor
          · rintro (h | h)
            · obtain ⟨x, hx, h2⟩ := HG.out.1 h
              exact ⟨x, Or.inl hx, h2⟩
            · exact ⟨X, Or.inr rfl, h⟩
          · rintro ⟨x, hx | rfl, h2⟩
            · exact Or.inl (HG.out.2 ⟨x, hx, h2⟩)
            · exact Or.inr h2
        have HNH : Hid (∀ b, b = (N || decide (X = 0)) → Hid (b = true ↔ 0 ∈ sh.take (i + 1))) := HN2
        have HGH : Hid (∀ b, b = (G || decide (4096 < X)) → Hid (b = true ↔ ∃ x ∈ sh.take (i + 1), 4096 < x)) := HG2
        clear HN2 HG2
        cases N <;> cases G <;> by_cases hz : X = 0 <;> by_cases hbg : 4096 < X
        all_goals
          first
            | (have dz : (X == 0) = true := by rw [beq_iff_eq]; exact hz)
            | (have dz : (X == 0) = false := by rw [beq_eq_false_iff_ne]; exact hz)
          first
            | (exfalso; omega)
            | (have HZ : Hid (X = 0) := hz
               clear hz
               go_wp2
               go_roundw
               case rel => exact ⟨i + 1, _, _, rfl, rfl, by go_num, by omega, HNH.out _ (by simp [HZ.out]), HGH.out _ (by simp [hbg]), HP2, (by first | rfl | trivial)⟩
               case measure => simp [intOf]; omega)
            | (have HZ : Hid (¬ X = 0) := hz
               clear hz
               go_wp2
               go_roundw
               case rel => exact ⟨i + 1, _, _, rfl, rfl, by go_num, by omega, HNH.out _ (by simp [HZ.out]), HGH.out _ (by simp [hbg]), HP2, (by first | rfl | trivial)⟩
               case measure => simp [intOf]; omega)
    · have HNN : Hid (N = true ↔ 0 ∈ sh) := by have := HN.out; rw [List.take_of_length_le (by omega)] at this; exact this
      have HGG : Hid (G = true ↔ ∃ x ∈ sh, 4096 < x) := by have := HG.out; rw [List.take_of_length_le (by omega)] at this; exact this
      have HPP : Hid (∀ x ∈ sh, 0 ≤ x) := by have := HP.out; rw [List.take_of_length_le (by omega)] at this; exact this
      have hlo := lo_ok HPP.out
      cases G with
      | true =>
        have HF : Hid (sizeF sh = (0, 8)) := by unfold Hid sizeF; rw [if_neg h8, if_neg hlo.1, if_pos (hi_ok.2 (HGG.out.1 rfl))]
        clear hlo
        go_wp2
        go_ret2
        exact ⟨by rw [HF.out]; rfl, rfl⟩
      | false =>
        have hng : ¬ 4096 < hiF sh := fun h => by have := HGG.out.2 (hi_ok.1 h); cases this
        cases N with
        | true =>
          have HF : Hid (sizeF sh = (0, 0)) := by unfold Hid sizeF; rw [if_neg h8, if_neg hlo.1, if_neg hng, if_pos (hlo.2.2 (HNN.out.1 rfl))]
          clear hlo hng
          go_wp2
          go_ret2
          exact ⟨by rw [HF.out]; rfl, rfl⟩
        | false =>
          have hnz : ¬ loF sh = 0 := fun h => by have := HNN.out.2 (hlo.2.1 h); cases this
          have HF : Hid (sizeF sh = match prodF sh 1 with | some n => (n, 0) | none => (0, 8)) := by unfold Hid sizeF; rw [if_neg h8, if_neg hlo.1, if_neg hng, if_neg hnz]; cases prodF sh 1 <;> rfl
          have HIN : Hid (∀ x ∈ sh, 1 ≤ x ∧ x ≤ 4096) := fun x hx => by
            have a1 := HPP.out x hx
            have a2 : ¬ x = 0 := fun e => hnz (hlo.2.2 (by rw [← e]; exact hx))
            have a3 : ¬ 4096 < x := fun e => hng (hi_ok.2 ⟨x, hx, e⟩)
            omega
          clear hlo hng hnz
          go_wp2
          go_loopw [7, 8] (fun sv iv wr2 => ∃ (i : Nat) (S : Int), sv = .int .i64 S ∧ iv = .int .i64 i ∧ i ≤ sh.length ∧ 1 ≤ S ∧ S ≤ 4096 ∧ Hid (prodF sh 1 = prodF (sh.drop i) S) ∧ wr2 = wr) (fun _ iv _ => sh.length - (intOf iv).toNat)
          case atStart => exact ⟨0, 1, rfl, rfl, Nat.zero_le _, by omega, by omega, rfl, rfl⟩
          case round =>
            obtain ⟨i, S, rfl, rfl, hil, h1, h2, HPr, hwr⟩ := hrel
            subst hwr
            by_cases hlt : i < sh.length
            · obtain ⟨g, o, rfl, hg, hc⟩ := HH.out.ptr (by omega)
              have q := hc i hlt
              have hx := HIN.out (sh.getD i 0) (by simp [List.getD, hlt])
              have HQ : Hid (prodF (sh.drop i) S = if 4096 < S * sh.getD i 0 then none else prodF (sh.drop (i + 1)) (S * sh.getD i 0)) := by
                unfold Hid
                rw [List.drop_eq_getElem_cons hlt, prodF]
                simp [List.getD, hlt]
              clear hc
              generalize sh.getD i 0 = X at *
              have hb := mulLen h1 h2 hx.1 hx.2
              by_cases hbig : 4096 < S * X
              · have HNx : Hid (prodF sh 1 = none) := by unfold Hid; rw [HPr.out, HQ.out, if_pos hbig]
                go_wp2
                go_ret2
                exact ⟨by rw [HF.out, HNx.out]; rfl, rfl⟩
              · have HNx : Hid (prodF sh 1 = prodF (sh.drop (i + 1)) (S * X)) := by unfold Hid; rw [HPr.out, HQ.out, if_neg hbig]
                go_wp2
                go_roundw
                case rel => exact ⟨i + 1, S * X, by go_num, by go_num, by omega, hb.1, by omega, HNx, (by first | rfl | trivial)⟩
                case measure => simp [intOf]; omega
            · have HNx : Hid (prodF sh 1 = some S) := by
                unfold Hid
                rw [HPr.out, List.drop_eq_nil_of_le (by omega), prodF]
              go_wp2
              go_ret2
              exact ⟨by rw [HF.out, HNx.out]; rfl, rfl⟩
theorem refIsChar_any (c : Int) (w : World) : Calls Tryz.prog 66 #[.int .i32 c] w fun e w' => TellsRune c e ∧ w' = w := by
  go_enter Tryz.func66, Tryz.ntmps66
  by_cases h1 : 0 ≤ c
  · by_cases h2 : c ≤ 1114111
    · by_cases h3 : c < 55296
      · go_wp2
        go_ret
        exact ⟨⟨true, rfl, fun _ => Or.inl ⟨h1, h3⟩, fun _ => rfl⟩, rfl⟩
      · by_cases h4 : 57343 < c
        · go_wp2
          go_ret
          exact ⟨⟨true, rfl, fun _ => Or.inr ⟨h4, h2⟩, fun _ => rfl⟩, rfl⟩
        · go_wp2
          go_ret
          exact ⟨⟨false, rfl, (fun h => by cases h), fun h => by unfold okR at h; omega⟩, rfl⟩
    · go_wp2
      go_ret
      exact ⟨⟨false, rfl, (fun h => by cases h), fun h => by unfold okR at h; omega⟩, rfl⟩
  · go_wp2
    go_ret
    exact ⟨⟨false, rfl, (fun h => by cases h), fun h => by unfold okR at h; omega⟩, rfl⟩
theorem noNum_any (k : Int) (b : Bool) (a1 : Option Addr) (n1 c1 : Nat) (a2 : Option Addr) (n2 c2 : Nat) (ch : Int) (a3 : Option Addr) (n3 c3 : Nat) (w : World) (h1 : n1 ≤ 9223372036854775807) (h2 : n2 ≤ 9223372036854775807) :
    Calls Tryz.prog 67 #[.agg #[.int .u8 k, .bool b, .slice a1 n1 c1, .slice a2 n2 c2, .int .i32 ch, .slice a3 n3 c3]] w fun e w' => e = .returned (.bool (!b && decide (n1 = 0) && decide (n2 = 0))) ∧ w' = w.alloc (.cells #[.int .u8 k, .bool b, .slice a1 n1 c1, .slice a2 n2 c2, .int .i32 ch, .slice a3 n3 c3] 42) := by
  have X := boxA_new w #[.int .u8 k, .bool b, .slice a1 n1 c1, .slice a2 n2 c2, .int .i32 ch, .slice a3 n3 c3] 42
  have x1 := X.cell 1 rfl
  have x2 := X.cell 2 rfl
  have x3 := X.cell 3 rfl
  go_enter Tryz.func67, Tryz.ntmps67
  cases b with
  | true =>
    go_wp2
    go_ret
    exact ⟨rfl, rfl⟩
  | false =>
    by_cases e1 : n1 = 0
    · have d1 : ((n1 : Int) == 0) = true := by rw [beq_iff_eq]; omega
      by_cases e2 : n2 = 0
      · have d2 : ((n2 : Int) == 0) = true := by rw [beq_iff_eq]; omega
        have HQ : Hid ((!false && decide (n1 = 0) && decide (n2 = 0)) = true) := by unfold Hid; rw [decide_eq_true e1, decide_eq_true e2]; rfl
        clear e1 e2
        go_wp2
        go_ret
        exact ⟨by rw [HQ.out]; rfl, rfl⟩
      · have d2 : ((n2 : Int) == 0) = false := by rw [beq_eq_false_iff_ne]; omega
        have HQ : Hid ((!false && decide (n1 = 0) && decide (n2 = 0)) = false) := by unfold Hid; rw [decide_eq_true e1, decide_eq_false e2]; rfl
        clear e1 e2
        go_wp2
        go_ret
        exact ⟨by rw [HQ.out]; rfl, rfl⟩
    · have d1 : ((n1 : Int) == 0) = false := by rw [beq_eq_false_iff_ne]; omega
      have HQ : Hid ((!false && decide (n1 = 0) && decide (n2 = 0)) = false) := by unfold Hid; rw [decide_eq_false e1]; rfl
      clear e1
      go_wp2
      go_ret
      exact ⟨by rw [HQ.out]; rfl, rfl⟩
/-- The document's IsSimple: an item that is no box. -/
def simpR (t : Tr) : Bool := decide (t.ns.length = 0) && decide (t.kids.length = 1) && decide (¬ (t.kids.getD 0 tr0).k = 3)
end
set_option maxRecDepth 100000 in
set_option maxHeartbeats 1600000 in
theorem refIsSimple_any {D : Nat → Prop} {f : Nat} {W : World} {x1 : Option Addr} {n1 y1 : Nat} {x2 : Option Addr} {n2 y2 : Nat} {t : Tr} (h : ArV (f + 1) D W (.slice x1 n1 y1) (.slice x2 n2 y2) t) (hD : ∀ g, D g → g < W.heap.size) :
    Calls Tryz.prog 68 #[.agg #[.slice x1 n1 y1, .slice x2 n2 y2]] W fun e w' => e = .returned (.bool (simpR t)) ∧ w' = W.alloc (.cells #[.slice x1 n1 y1, .slice x2 n2 y2] 25) := by
  obtain rfl := h.1.len
  obtain rfl := h.2.len
  have bd1 := h.1.bounds
  have bd2 := h.2.bounds
  have X := boxA_new W #[.slice x1 t.ns.length y1, .slice x2 t.kids.length y2] 25
  have k := below_alloc W (.cells #[.slice x1 t.ns.length y1, .slice x2 t.kids.length y2] 25)
  have p0 := X.cell 0 rfl
  have p1 := X.cell 1 rfl
  go_enter Tryz.func68, Tryz.ntmps68
  by_cases e1 : t.ns.length = 0
  · have d1 : ((t.ns.length : Int) == 0) = true := by rw [beq_iff_eq]; omega
    by_cases e2 : t.kids.length = 1
    · have d2 : ((t.kids.length : Int) == 1) = true := by rw [beq_iff_eq]; omega
      obtain ⟨g, o, rfl, hg, hc⟩ := h.2.ptr (by omega)
      obtain ⟨a1, c1, a2, c2, a3, c3, ⟨z0, _⟩, _⟩ := hc 0 (by omega)
      rw [Nat.zero_mul, Nat.add_zero] at z0
      have q0 := (k.cell (p := ⟨g, o, none⟩) (hD g hg)).trans z0
      have HQ : Hid (simpR t = decide (¬ (t.kids.getD 0 tr0).k = 3)) := by unfold Hid simpR; rw [decide_eq_true e1, decide_eq_true e2]; rfl
      have hpos : 0 < t.kids.length := by omega
      clear h hc z0 e1 e2
      generalize (t.kids.getD 0 tr0).k = K at *
      by_cases k1 : K = 3
      · have d3 : (K != 3) = false := by rw [bne_eq_false_iff_eq]; exact k1
        have HR : Hid (simpR t = false) := by unfold Hid; rw [HQ.out]; simp [k1]
        clear k1 HQ
        go_wp2
        go_ret
        exact ⟨by rw [HR.out]; rfl, rfl⟩
      · have d3 : (K != 3) = true := by rw [bne_iff_ne]; exact k1
        have HR : Hid (simpR t = true) := by unfold Hid; rw [HQ.out]; simp [k1]
        clear k1 HQ
        go_wp2
        go_ret
        exact ⟨by rw [HR.out]; rfl, rfl⟩
    · have d2 : ((t.kids.length : Int) == 1) = false := by rw [beq_eq_false_iff_ne]; omega
      have HR : Hid (simpR t = false) := by unfold Hid simpR; rw [decide_eq_true e1, decide_eq_false e2]; rfl
      clear e1 e2
      go_wp2
      go_ret
      exact ⟨by rw [HR.out]; rfl, rfl⟩
  · have d1 : ((t.ns.length : Int) == 0) = false := by rw [beq_eq_false_iff_ne]; omega
    have HR : Hid (simpR t = false) := by unfold Hid simpR; rw [decide_eq_false e1]; rfl
    clear e1
    go_wp2
    go_ret
    exact ⟨by rw [HR.out]; rfl, rfl⟩
end Go.Proofs.YtnlmjibdifbnbaaGreat

/- The document's measure of arrays. -/
namespace Go.Proofs.YtnlmjibdifbnbaaGreat
set_option linter.unusedVariables false
set_option linter.unusedSimpArgs false
open Go.RowKit

open Classical in
/-- An item's measure by the document, where M tells that of its array, with so many cells left. -/
noncomputable def refI (M : Tr → Int → Option (Int × Int)) (rest : Int) (t : Tr) : Option (Int × Int) :=
  if t.k = 1 ∧ RightP t.b t.ns t.ds ∧ t.c = 0 ∧ t.kids.length = 0 then some (0, 0)
  else if t.k = 2 ∧ okR t.c ∧ noneB t = true ∧ t.kids.length = 0 then some (0, 0)
  else if t.k = 3 ∧ t.kids.length = 1 ∧ noneB t = true ∧ t.c = 0 ∧ simpR (t.kids.getD 0 tr0) = false then M (t.kids.getD 0 tr0) rest
  else none
noncomputable def refL (M : Tr → Int → Option (Int × Int)) (most : Int) : List Tr → Int × Int → Option (Int × Int)
  | [], w => some w
  | t :: r, w => match refI M (most - w.2) t with
    | none => none
    | some p => refL M most r (max w.1 p.1, w.2 + p.2)
noncomputable def refF : Nat → Tr → Int → Option (Int × Int)
  | 0, _, _ => none
  | L + 1, t, most => if (sizeF t.ns).2 = 0 ∧ (t.kids.length : Int) = max (sizeF t.ns).1 1 ∧ (t.kids.length : Int) ≤ most then
      (match refL (refF L) most t.kids (0, (t.kids.length : Int)) with
        | none => none
        | some p => some (if simpR t = true then p.1 else p.1 + 1, p.2)) else none
def inR (L : Nat) (most : Int) (o : Option (Int × Int)) : Prop := ∀ p, o = some p → 0 ≤ p.1 ∧ p.1 ≤ L ∧ 0 ≤ p.2 ∧ p.2 ≤ most
theorem refI_in {L : Nat} {M : Tr → Int → Option (Int × Int)} {rest : Int} (hr : 0 ≤ rest) (hM : ∀ t, inR L rest (M t rest)) (t : Tr) : inR L rest (refI M rest t) := by
  intro p hp
  unfold refI at hp
  split at hp
  · cases hp; simp; omega
  split at hp
  · cases hp; simp; omega
  split at hp
  · exact hM _ p hp
  · cases hp
theorem refL_in {L : Nat} {M : Tr → Int → Option (Int × Int)} {most : Int} (hM : ∀ t r, 0 ≤ r → inR L r (M t r)) : ∀ (l : List Tr) (w p : Int × Int), 0 ≤ w.1 → w.1 ≤ L → 0 ≤ w.2 → w.2 ≤ most → refL M most l w = some p → 0 ≤ p.1 ∧ p.1 ≤ L ∧ 0 ≤ p.2 ∧ p.2 ≤ most
  | [], w, p, h1, h2, h3, h4, h => by rw [refL] at h; cases h; exact ⟨h1, h2, h3, h4⟩
  | t :: r, w, p, h1, h2, h3, h4, h => by
    rw [refL] at h
    cases hi : refI M (most - w.2) t with
    | none => rw [hi] at h; cases h
    | some q =>
      rw [hi] at h
      have hq := refI_in (by omega) (fun s => hM s _ (by omega)) t q hi
      exact refL_in hM r _ p (by simp only; omega) (by simp only; omega) (by simp only; omega) (by simp only; omega) h
theorem refF_in : ∀ (L : Nat) (t : Tr) (most : Int), inR L most (refF L t most)
  | 0, t, most => by intro p hp; rw [refF] at hp; cases hp
  | L + 1, t, most => by
    intro p hp
    rw [refF] at hp
    by_cases hc : (sizeF t.ns).2 = 0 ∧ (t.kids.length : Int) = max (sizeF t.ns).1 1 ∧ (t.kids.length : Int) ≤ most
    · rw [if_pos hc] at hp
      cases hl : refL (refF L) most t.kids (0, (t.kids.length : Int)) with
      | none => rw [hl] at hp; cases hp
      | some q =>
        rw [hl] at hp
        have := refL_in (fun s r _ => refF_in L s r) t.kids _ q (by simp) (by simp) (by simp only; omega) (by simp only; omega) hl
        simp only at hp
        cases hp
        refine ⟨?_, ?_, this.2.2.1, this.2.2.2⟩
        · simp only; split <;> omega
        · simp only; split <;> (push_cast; omega)
    · rw [if_neg hc] at hp; cases hp
def rEnd (o : Option (Int × Int)) : Ending := .returned (.tuple #[.bool o.isSome, .int .i64 (o.getD (0, 0)).1, .int .i64 (o.getD (0, 0)).2])
/-- measure tells what it should, from so deep on. -/
def RMeasOK (L : Nat) : Prop := ∀ (f : Nat) (D : Nat → Prop) (W : World) (x1 : Option Addr) (n1 y1 : Nat) (x2 : Option Addr) (n2 y2 : Nat) (t : Tr) (deep most : Int), deep = 17 - (L : Int) → 0 ≤ most → most ≤ 16384 → (∀ g, D g → g < W.heap.size) → ArV f D W (.slice x1 n1 y1) (.slice x2 n2 y2) t →
  Calls Tryz.prog 33 #[.agg #[.slice x1 n1 y1, .slice x2 n2 y2], .int .i64 deep, .int .i64 most] W fun e w' => e = rEnd (refF L t most) ∧ Below W.heap.size W w'
theorem refL_step {M : Tr → Int → Option (Int × Int)} {most : Int} {l : List Tr} {i : Nat} (hi : i < l.length) (w : Int × Int) : refL M most (l.drop i) w = match refI M (most - w.2) (l.getD i tr0) with
    | none => none
    | some p => refL M most (l.drop (i + 1)) (max w.1 p.1, w.2 + p.2) := by
  rw [List.drop_eq_getElem_cons hi, refL]
  have e : l.getD i tr0 = l[i] := by simp [List.getD, hi]
  rw [e]
theorem refL_end {M : Tr → Int → Option (Int × Int)} {most : Int} {l : List Tr} {i : Nat} (hi : l.length ≤ i) (w : Int × Int) : refL M most (l.drop i) w = some w := by
  rw [List.drop_eq_nil_of_le hi, refL]
def finR (t : Tr) (o : Option (Int × Int)) : Option (Int × Int) := match o with | none => none | some p => some (if simpR t = true then p.1 else p.1 + 1, p.2)
theorem refF_succ {L : Nat} {t : Tr} {most : Int} (hc : (sizeF t.ns).2 = 0 ∧ (t.kids.length : Int) = max (sizeF t.ns).1 1 ∧ (t.kids.length : Int) ≤ most) : refF (L + 1) t most = finR t (refL (refF L) most t.kids (0, (t.kids.length : Int))) := by
  rw [refF, if_pos hc]
  unfold finR
  cases refL (refF L) most t.kids (0, (t.kids.length : Int)) <;> rfl
section
variable {M : Tr → Int → Option (Int × Int)} {t : Tr} {rest : Int}
theorem refI_num (h : t.k = 1 ∧ RightP t.b t.ns t.ds ∧ t.c = 0 ∧ t.kids.length = 0) : refI M rest t = some (0, 0) := by unfold refI; rw [if_pos h]
theorem refI_ch (h : t.k = 2 ∧ okR t.c ∧ noneB t = true ∧ t.kids.length = 0) : refI M rest t = some (0, 0) := by unfold refI; rw [if_neg (by omega), if_pos h]
theorem refI_box (h : t.k = 3 ∧ t.kids.length = 1 ∧ noneB t = true ∧ t.c = 0 ∧ simpR (t.kids.getD 0 tr0) = false) : refI M rest t = M (t.kids.getD 0 tr0) rest := by unfold refI; rw [if_neg (by omega), if_neg (by omega), if_pos h]
theorem refI_no (h1 : ¬ (t.k = 1 ∧ RightP t.b t.ns t.ds ∧ t.c = 0 ∧ t.kids.length = 0)) (h2 : ¬ (t.k = 2 ∧ okR t.c ∧ noneB t = true ∧ t.kids.length = 0)) (h3 : ¬ (t.k = 3 ∧ t.kids.length = 1 ∧ noneB t = true ∧ t.c = 0 ∧ simpR (t.kids.getD 0 tr0) = false)) : refI M rest t = none := by unfold refI; rw [if_neg h1, if_neg h2, if_neg h3]
end
end Go.Proofs.YtnlmjibdifbnbaaGreat

/- Answers in one form; a variable of a number is given another number. -/
namespace Go.Proofs.YtnlmjibdifbnbaaGreat
set_option linter.unusedVariables false
set_option linter.unusedSimpArgs false
open Go.RowKit

/-- What is told of N by D, where P is asked: an error, or the number. -/
def OutSpec (P : Prop) (N D : Int) (b : Bool) (ns ds : List Int) (err : Int) : Prop :=
  (¬ P ∧ err = 22 ∧ b = false ∧ ns = [] ∧ ds = []) ∨ (P ∧ err = 8 ∧ b = false ∧ ns = [] ∧ ds = [] ∧ Big N D) ∨ (P ∧ err = 0 ∧ RightP b ns ds ∧ sg b (val ns) * D = N * val ds)
theorem OutSpec.unique {P : Prop} {N D : Int} {b c : Bool} {ns ds ms es : List Int} {e f : Int} (hD : P → 0 < D) (h : OutSpec P N D b ns ds e) (k : OutSpec P N D c ms es f) : c = b ∧ ms = ns ∧ es = ds ∧ f = e := by
  rcases h with ⟨hp, rfl, rfl, rfl, rfl⟩ | ⟨hp, rfl, rfl, rfl, rfl, hb⟩ | ⟨hp, rfl, hr, hv⟩ <;> rcases k with ⟨kp, rfl, rfl, rfl, rfl⟩ | ⟨kp, rfl, rfl, rfl, rfl, kb⟩ | ⟨kp, rfl, kr, kv⟩
  · exact ⟨rfl, rfl, rfl, rfl⟩
  · exact absurd kp hp
  · exact absurd kp hp
  · exact absurd hp kp
  · exact ⟨rfl, rfl, rfl, rfl⟩
  · exact absurd hb (not_big kr kv (hD hp))
  · exact absurd hp kp
  · exact absurd kb (not_big hr hv (hD hp))
  · obtain ⟨rfl, rfl, rfl⟩ := right_is hr hv (hD hp) kr kv
    exact ⟨rfl, rfl, rfl, rfl⟩
theorem Gives.spec {w w' : World} {P : Prop} {N D : Int} {e : Ending} (h : Gives w P N D e w') : ∃ b ns ds err, Hid (OutSpec P N D b ns ds err) ∧ RAns w b ns ds err e w' := by
  obtain ⟨hb, b, x1, n, y1, x2, m, y2, err, rfl, hO⟩ := h
  rcases hO.out with ⟨hp, rfl, rfl, rfl, rfl, rfl, rfl, rfl, rfl⟩ | ⟨hp, rfl, rfl, rfl, rfl, rfl, rfl, rfl, rfl, hbig⟩ | ⟨hp, rfl, ns, ds, rfl, rfl, on, od, hr, hv⟩
  · exact ⟨false, [], [], 22, Or.inl ⟨hp, rfl, rfl, rfl, rfl⟩, hb, none, 0, none, 0, rfl, nil_rd _, nil_rd _⟩
  · exact ⟨false, [], [], 8, Or.inr (Or.inl ⟨hp, rfl, rfl, rfl, rfl, hbig⟩), hb, none, 0, none, 0, rfl, nil_rd _, nil_rd _⟩
  · exact ⟨b, ns, ds, 0, Or.inr (Or.inr ⟨hp, rfl, hr, hv⟩), hb, x1, y1, x2, y2, rfl, on.rd, od.rd⟩
/-- Two answers of the same: the second one has the first one's numbers. -/
theorem Gives.same {w w' : World} {P : Prop} {N D : Int} {e : Ending} {b : Bool} {ns ds : List Int} {err : Int} (hD : P → 0 < D) (HS : Hid (OutSpec P N D b ns ds err)) (h : Gives w P N D e w') : RAns w b ns ds err e w' := by
  obtain ⟨c, ms, es, f, HK, hr⟩ := h.spec
  obtain ⟨rfl, rfl, rfl, rfl⟩ := OutSpec.unique hD HS.out HK.out
  exact hr
theorem Gives.of {w w' : World} {P : Prop} {N D M E : Int} {e : Ending} (h : Gives w P N D e w') (hE : P → M = N ∧ E = D) : Gives w P M E e w' := by
  obtain ⟨k1, c, z1, n, z2, z3, m, z4, er, he, hO⟩ := h
  refine ⟨k1, c, z1, n, z2, z3, m, z4, er, he, ?_⟩
  rcases hO.out with h | ⟨h, h2⟩ | ⟨h, h2⟩
  · exact Or.inl h
  · obtain ⟨rfl, rfl⟩ := hE h; exact Or.inr (Or.inl ⟨h, h2⟩)
  · obtain ⟨rfl, rfl⟩ := hE h; exact Or.inr (Or.inr ⟨h, h2⟩)

section
variable {w : World} {b c : Bool} {a1 a2 a3 a4 : Option Addr} {c1 c2 c3 c4 : Nat} {ns ds ms es : List Int} {j k ty : Nat} {x1 x2 : Option Addr} {n1 n2 m1 m2 : Nat}
theorem cell_set3 (h : j ≠ k) (o : Nat) (x y z : Value) : (((w.setCell ⟨k, 0, none⟩ x).setCell ⟨k, 1, none⟩ y).setCell ⟨k, 2, none⟩ z).cell? ⟨j, o, none⟩ = w.cell? ⟨j, o, none⟩ := by
  have hne : ¬ k = j := fun e => h e.symm
  simp [World.setCell, World.cell?, Array.getElem?_modify, hne]
theorem Rd.put {B : Nat} {v : Value} {xs : List Int} (h : Rd B w v xs) (hk : Box3 w k ty (.bool b) (.slice x1 n1 m1) (.slice x2 n2 m2)) (x y z : Value) : Rd B (((w.setCell ⟨k, 0, none⟩ x).setCell ⟨k, 1, none⟩ y).setCell ⟨k, 2, none⟩ z) v xs := by
  obtain ⟨hl, a, cap, hv, h1, h2, h3, h4⟩ := h
  refine ⟨hl, a, cap, hv, h1, h2, h3, ?_⟩
  rcases h4 with h4 | ⟨b', off, ha, hb, hc⟩
  · exact Or.inl h4
  · by_cases h0 : xs.length = 0
    · exact Or.inl h0
    · refine Or.inr ⟨b', off, ha, hb, fun i hi => ?_⟩
      rw [cell_set3 ?_]
      · exact hc i hi
      · rintro rfl
        have h5 := hc 0 (by omega)
        unfold Box3 at hk
        rw [Nat.add_zero] at h5
        match off, h5 with
        | 0, h5 => simp [World.cell?, hk] at h5
        | 1, h5 => simp [World.cell?, hk] at h5
        | 2, h5 => simp [World.cell?, hk] at h5
        | o + 3, h5 => simp [World.cell?, hk] at h5
theorem NVar.put (P : NVar w k b a1 ns c1 a2 ds c2) (h1 : Rd w.heap.size w (.slice a3 ms.length c3) ms) (h2 : Rd w.heap.size w (.slice a4 es.length c4) es) :
    NVar (((w.setCell ⟨k, 0, none⟩ (.bool c)).setCell ⟨k, 1, none⟩ (.slice a3 ms.length c3)).setCell ⟨k, 2, none⟩ (.slice a4 es.length c4)) k c a3 ms c3 a4 es c4 := by
  have szz : (((w.setCell ⟨k, 0, none⟩ (.bool c)).setCell ⟨k, 1, none⟩ (.slice a3 ms.length c3)).setCell ⟨k, 2, none⟩ (.slice a4 es.length c4)).heap.size = w.heap.size := by simp [World.setCell]
  refine ⟨by rw [szz]; exact P.lt, P.box.set _ _ _, ?_, ?_⟩
  · rw [szz]; exact h1.put P.box _ _ _
  · rw [szz]; exact h2.put P.box _ _ _
theorem NVar.by' (X : NVar w j b a1 ns c1 a2 ds c2) (P : NVar w k c a3 ms c3 a4 es c4) (h : j ≠ k) (x y z : Value) : NVar (((w.setCell ⟨k, 0, none⟩ x).setCell ⟨k, 1, none⟩ y).setCell ⟨k, 2, none⟩ z) j b a1 ns c1 a2 ds c2 := by
  have szz : (((w.setCell ⟨k, 0, none⟩ x).setCell ⟨k, 1, none⟩ y).setCell ⟨k, 2, none⟩ z).heap.size = w.heap.size := by simp [World.setCell]
  refine ⟨by rw [szz]; exact X.lt, X.box.other h _ _ _, ?_, ?_⟩
  · rw [szz]; exact X.rn.put P.box _ _ _
  · rw [szz]; exact X.rd.put P.box _ _ _
end
end Go.Proofs.YtnlmjibdifbnbaaGreat

/- rat.Neg, Abs, Ceil. -/
namespace Go.Proofs.YtnlmjibdifbnbaaGreat
set_option linter.unusedVariables false
set_option linter.unusedSimpArgs false
open Go.RowKit

/-- A right number with another sign is right. -/
theorem right_with {b : Bool} {ns ds : List Int} (c : Bool) (h : RightP b ns ds) : RightP (c && decide (0 < ns.length)) ns ds ∧ sg (c && decide (0 < ns.length)) (val ns) = sg c (val ns) := by
  obtain ⟨l1, l2, c1, c2, hb, hd, hg⟩ := h
  by_cases h0 : ns.length = 0
  · have hv := (can_zero c1).1 h0
    have hf : (c && decide (0 < ns.length)) = false := by rw [h0]; simp
    rw [hf]
    refine ⟨⟨l1, l2, c1, c2, ?_, hd, hg⟩, ?_⟩
    · rintro ⟨h, _⟩; cases h
    · rw [hv, sg_zero, sg_zero]
  · have hf : (c && decide (0 < ns.length)) = c := by rw [decide_eq_true (by omega)]; simp
    rw [hf]
    exact ⟨⟨l1, l2, c1, c2, fun h => h0 h.2, hd, hg⟩, rfl⟩
theorem sg_neg (b : Bool) (x : Int) : sg b (-x) = -(sg b x) := by unfold sg; cases b <;> simp
theorem ceil_whole (b : Bool) (n d : Int) (hn : 0 ≤ n) (hd : 0 < d) : sg b (wholeM (!b) n d) = -((-(sg b n)) / d) := by
  have h := floor_whole (!b) n d hn hd
  rw [sg_not, sg_not] at h
  omega
theorem big_neg {N D : Int} (h : Big N D) : Big (-N) D := by
  obtain ⟨b, ns, ds, h1, h2, h3, h4, h5, h6⟩ := h
  exact ⟨!b, ns, ds, h1, h2, h3, h4, by rw [sg_not, Int.neg_mul, Int.neg_mul, h5], h6⟩
/-- A right number is told. -/
theorem gives_num {w wF : World} {P : Prop} {N D : Int} {b : Bool} {ns ds : List Int} {x1 x2 : Option Addr} {y1 y2 : Nat} (hP : P) (hb : Below w.heap.size w wF) (on : Own w.heap.size wF (.slice x1 ns.length y1) ns) (od : Own w.heap.size wF (.slice x2 ds.length y2) ds) (hr : RightP b ns ds) (hv : sg b (val ns) * D = N * val ds) :
    Gives w P N D (.returned (.tuple #[.agg #[.bool b, .slice x1 ns.length y1, .slice x2 ds.length y2], .int .i64 0])) wF :=
  ⟨hb, b, x1, ns.length, y1, x2, ds.length, y2, 0, rfl, Or.inr (Or.inr ⟨hP, rfl, ns, ds, rfl, rfl, on, od, hr, hv⟩)⟩

section
variable {w : World} {b : Bool} {a1 a2 : Option Addr} {c1 c2 : Nat} {ns ds : List Int}
end
end Go.Proofs.YtnlmjibdifbnbaaGreat

/- rat.IsInt, ToInt. -/
namespace Go.Proofs.YtnlmjibdifbnbaaGreat
set_option linter.unusedVariables false
set_option linter.unusedSimpArgs false
open Go.RowKit

/-- Is a number right and whole? -/
def IsWhole (b : Bool) (ns ds : List Int) : Prop := RightP b ns ds ∧ ds = [1]
/-- What is told of a whole number as an int. -/
def IntTold (P : Prop) (z n : Int) (ok : Bool) : Prop := (ok = true ∧ P ∧ -9223372036854775808 ≤ z ∧ z < 9223372036854775808 ∧ n = z) ∨ (ok = false ∧ n = 0 ∧ ¬ (P ∧ -9223372036854775808 ≤ z ∧ z < 9223372036854775808))
theorem IntTold.unique {P : Prop} {z n m : Int} {ok fine : Bool} (h : IntTold P z n ok) (k : IntTold P z m fine) : m = n ∧ fine = ok := by
  rcases h with ⟨rfl, hp, h1, h2, rfl⟩ | ⟨rfl, rfl, h⟩ <;> rcases k with ⟨rfl, kp, k1, k2, rfl⟩ | ⟨rfl, rfl, k⟩
  · exact ⟨rfl, rfl⟩
  · exact absurd ⟨hp, h1, h2⟩ k
  · exact absurd ⟨kp, k1, k2⟩ h
  · exact ⟨rfl, rfl⟩

section
variable {w : World} {b : Bool} {a1 a2 : Option Addr} {c1 c2 : Nat} {ns ds : List Int}
set_option maxRecDepth 100000 in
set_option maxHeartbeats 1600000 in
theorem isInt_rat (h1 : Rd w.heap.size w (.slice a1 ns.length c1) ns) (h2 : Rd w.heap.size w (.slice a2 ds.length c2) ds) :
    Calls Tryz.prog 61 #[.agg #[.bool b, .slice a1 ns.length c1, .slice a2 ds.length c2]] w fun e w' => TellsP (IsWhole b ns ds) e ∧ Below w.heap.size w w' := by
  have X := nvar_new (b := b) h1 h2
  have g := below_alloc w (.cells #[.bool b, .slice a1 ns.length c1, .slice a2 ds.length c2] 39)
  obtain ⟨x0, x1, x2⟩ := X.cells
  go_enter Tryz.func61, Tryz.ntmps61
  go_wp2_with fail
  clear x0 x1 x2
  generalize hA : w.alloc (.cells #[.bool b, .slice a1 ns.length c1, .slice a2 ds.length c2] 39) = v at *
  clear hA
  refine (right_rat X.rn X.rd (Nat.le_refl _)).mono ?_
  rintro e wa ⟨⟨r, rfl, hr⟩, ka⟩
  replace X := X.below ka
  replace g := g.trans (ka.mono g.size)
  clear ka
  obtain ⟨x0, x1, x2⟩ := X.cells
  cases r with
  | false =>
    have HP : Hid (¬ RightP b ns ds) := fun h => by have := hr.2 h; cases this
    clear hr
    go_wp2
    go_ret
    exact ⟨TellsP.no (fun h => HP.out h.1), g⟩
  | true =>
    have HP : Hid (RightP b ns ds) := hr.1 rfl
    clear hr
    go_wp2_with fail
    refine (isOne_any X.rd).mono ?_
    rintro e w' ⟨rfl, rfl⟩
    by_cases hone : ds = [1]
    · have HO : Hid (ds = [1]) := hone
      rw [decide_eq_true hone]
      clear hone
      go_wp2
      go_ret
      exact ⟨TellsP.yes ⟨HP.out, HO.out⟩, g⟩
    · have HO : Hid (¬ ds = [1]) := hone
      rw [decide_eq_false hone]
      clear hone
      go_wp2
      go_ret
      exact ⟨TellsP.no (fun h => HO.out h.2), g⟩

set_option maxRecDepth 100000 in
set_option maxHeartbeats 8000000 in
theorem toInt_rat (h1 : Rd w.heap.size w (.slice a1 ns.length c1) ns) (h2 : Rd w.heap.size w (.slice a2 ds.length c2) ds) :
    Calls Tryz.prog 32 #[.agg #[.bool b, .slice a1 ns.length c1, .slice a2 ds.length c2]] w fun e w' => ∃ n ok, e = .returned (.tuple #[.int .i64 n, .bool ok]) ∧ Hid (IntTold (IsWhole b ns ds) (sg b (val ns)) n ok) ∧ Below w.heap.size w w' := by
  have X := nvar_new (b := b) h1 h2
  have g := below_alloc w (.cells #[.bool b, .slice a1 ns.length c1, .slice a2 ds.length c2] 39)
  obtain ⟨x0, x1, x2⟩ := X.cells
  go_enter Tryz.func32, Tryz.ntmps32
  go_wp2_with fail
  clear x0 x1 x2
  generalize hA : w.alloc (.cells #[.bool b, .slice a1 ns.length c1, .slice a2 ds.length c2] 39) = v at *
  clear hA
  refine (isInt_rat X.rn X.rd).mono ?_
  rintro e wa ⟨⟨r, rfl, hr⟩, ka⟩
  replace X := X.below ka
  replace g := g.trans (ka.mono g.size)
  clear ka
  obtain ⟨x0, x1, x2⟩ := X.cells
  cases r with
  | false =>
    have HP : Hid (¬ IsWhole b ns ds) := fun h => by have := hr.2 h; cases this
    clear hr
    go_wp2
    refine bodyPost_ret (v := .tuple #[.int .i64 0, .bool false]) (by simp [results, Tryz.results32, go_sem]) rfl ?_
    exact ⟨0, false, rfl, Or.inr ⟨rfl, rfl, fun h => HP.out h.1⟩, g⟩
  | true =>
    have HP : Hid (IsWhole b ns ds) := hr.1 rfl
    clear hr
    have l1 := HP.out.1.1
    have HN : Hid (0 ≤ val ns) := (right_pos HP.out.1).2
    cases b with
    | false =>
      go_wp2_with fail
      refine (small_any X.rn (by omega)).mono ?_
      rintro e w' ⟨rfl, rfl⟩
      by_cases hs : val ns < 9223372036854775808
      · rw [smallV_lt hs]
        have HS : Hid (val ns < 9223372036854775808) := hs
        clear hs
        go_wp2
        refine bodyPost_ret (v := .tuple #[.int .i64 (val ns), .bool true]) (by simp [results, Tryz.results32, go_sem]) rfl ?_
        exact ⟨_, _, rfl, Or.inl ⟨rfl, HP.out, by rw [sg_false]; have := HN.out; omega, by rw [sg_false]; exact HS.out, rfl⟩, g⟩
      · rw [smallV_ge (by omega)]
        have HS : Hid (¬ val ns < 9223372036854775808) := hs
        clear hs
        go_wp2
        refine bodyPost_ret (v := .tuple #[.int .i64 0, .bool false]) (by simp [results, Tryz.results32, go_sem]) rfl ?_
        exact ⟨_, _, rfl, Or.inr ⟨rfl, rfl, fun h => by have h5 := HS.out; have h6 := h.2.2; rw [sg_false] at h6; omega⟩, g⟩
    | true =>
      have HV : Hid (1 ≤ val ns) := by
        have h5 := HP.out.1.2.2.2.2.1
        have h6 := can_zero HP.out.1.2.2.1
        have h7 := HN.out
        have h8 : ¬ val ns = 0 := fun h => h5 ⟨rfl, h6.2 h⟩
        unfold Hid; omega
      have hcells : ∀ {w' : World}, Below wa.heap.size wa w' → w'.cell? ⟨w.heap.size, 1, none⟩ = some (.slice a1 ns.length c1) := fun hb => (X.below hb).k1
      go_wp2
      go_region_held3 (fun w' => w'.cell? ⟨w.heap.size, 1, none⟩ = some (.slice a1 ns.length c1))
        (first | (go_keep; done) | exact tw | exact tw2)
        (first
          | (go_at_call 64; refine (one_num _).mono ?_; rintro e we ⟨es, x5, y5, HE, rfl, o3, bf'⟩; have bf : Below wa.heap.size wa we := below_undrew (w := wa) (B := wa.heap.size) bf'; have tw := hcells bf)
          | (have j := tw; go_at_call 63; refine (minus_any (X.below bf).rn (Nat.le_refl _) o3.rd (Nat.le_refl _) (by omega)).mono ?_; rintro e wf ⟨⟨bg, -⟩, hm⟩; obtain ⟨zs, x6, y6, lz, cz, vz, rfl, oz⟩ := hm (by rw [HE.out, one_val]; exact HV.out); have hz : Hid (val zs = val ns - 1) := (by rw [HE.out, one_val] at vz; exact vz); have tg := bf.trans (bg.mono bf.size); have tw2 := hcells tg))
      have tt := g.trans (tg.mono g.size)
      have hz0 := (val_bound oz.lim).1
      have lz2 : zs.length ≤ 17592186044415 := by omega
      go_wp2_with fail
      refine (small_any oz.rd lz2).mono ?_
      rintro e w' ⟨rfl, rfl⟩
      by_cases hs : val zs < 9223372036854775808
      · rw [smallV_lt hs]
        have hw1 : IntKind.i64.wrap (-(val zs)) = -(val zs) := by rw [IntKind.wrap_i64]; omega
        have hw2 : IntKind.i64.wrap (-(val zs) - 1) = -(val zs) - 1 := by rw [IntKind.wrap_i64]; omega
        have HS : Hid (0 ≤ val zs ∧ val zs < 9223372036854775808) := ⟨hz0, hs⟩
        clear hs hz0 vz
        go_wp2
        refine bodyPost_ret (v := .tuple #[.int .i64 (-(val zs) - 1), .bool true]) (by simp [results, Tryz.results32, go_sem]) rfl ?_
        have h5 := HS.out
        have h6 := hz.out
        have h7 : sg true (val ns) = -(val ns) := by simp [sg]
        exact ⟨_, _, rfl, Or.inl ⟨rfl, HP.out, by rw [h7]; omega, by rw [h7]; omega, by rw [h7]; omega⟩, tt⟩
      · rw [smallV_ge (by omega)]
        have HS : Hid (¬ val zs < 9223372036854775808) := hs
        clear hs hz0 vz
        go_wp2
        refine bodyPost_ret (v := .tuple #[.int .i64 0, .bool false]) (by simp [results, Tryz.results32, go_sem]) rfl ?_
        have h5 := HS.out
        have h6 := hz.out
        have h7 : sg true (val ns) = -(val ns) := by simp [sg]
        exact ⟨_, _, rfl, Or.inr ⟨rfl, rfl, fun h => by rw [h7] at h; omega⟩, tt⟩
end
end Go.Proofs.YtnlmjibdifbnbaaGreat
