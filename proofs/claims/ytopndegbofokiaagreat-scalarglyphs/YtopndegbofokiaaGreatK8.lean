/- array.copyOf of a number, array.Rat, array.Int. -/
import Derived.Test.YtopndegbofokiaaGreatK7
import Derived.Test.YtopndegbofokiaaGreatJ6
import Derived.Deep.RegionHeld3
import Derived.Test.YtopndegbofokiaaGreatJ4
namespace Go.Proofs.YtopndegbofokiaaGreat
set_option linter.unusedVariables false
set_option linter.unusedSimpArgs false
open Go.RowKit

section
variable {w : World} {b : Bool} {a1 a2 : Option Addr} {c1 c2 : Nat} {ns ds : List Int}
end
end Go.Proofs.YtopndegbofokiaaGreat

/- array.Rat and array.Int: scalars of numbers. -/
namespace Go.Proofs.YtopndegbofokiaaGreat
set_option linter.unusedVariables false
set_option linter.unusedSimpArgs false
open Go.RowKit

/-- In block k lies an item: a number whose limbs are the call's own. -/
def NumAt (base : Nat) (w : World) (k : Nat) (b : Bool) (ns ds : List Int) : Prop :=
  base ≤ k ∧ ∃ x1 y1 x2 y2, BoxA w k 91 #[.int .u8 1, .bool b, .slice x1 ns.length y1, .slice x2 ds.length y2, .int .i32 0, .slice none 0 0] ∧ Own base w (.slice x1 ns.length y1) ns ∧ Own base w (.slice x2 ds.length y2) ds
section
variable {w w' : World} {base base' B k R : Nat} {b : Bool} {ns ds : List Int}
theorem NumAt.lt (h : NumAt base w k b ns ds) : k < w.heap.size := by
  obtain ⟨_, _, _, _, _, h, _⟩ := h
  exact h.lt
theorem NumAt.below (h : NumAt base w k b ns ds) (hb : Below B w w') (hB : w.heap.size ≤ B) : NumAt base w' k b ns ds := by
  obtain ⟨h0, x1, y1, x2, y2, h1, h2, h3⟩ := h
  exact ⟨h0, x1, y1, x2, y2, h1.below hb (Nat.lt_of_lt_of_le h1.lt hB), h2.below hb hB, h3.below hb hB⟩
theorem NumAt.mono (h : NumAt base w k b ns ds) (hB : base' ≤ base) : NumAt base' w k b ns ds := by
  obtain ⟨h0, x1, y1, x2, y2, h1, h2, h3⟩ := h
  exact ⟨Nat.le_trans hB h0, x1, y1, x2, y2, h1, h2.mono hB, h3.mono hB⟩
theorem BoxA.other {ty : Nat} {xs : Array Value} {p : Addr} (h : BoxA w k ty xs) (hp : p.block ≠ k) (v : Value) : BoxA (w.setCell p v) k ty xs := by
  unfold BoxA at *
  have hne : ¬ p.block = k := hp
  simp [World.setCell, Array.getElem?_modify, hne, h]
theorem NumAt.set2 (h : NumAt base w k b ns ds) (hR : R < base) (u v : Value) : NumAt base ((w.setCell ⟨R, 0, none⟩ u).setCell ⟨R, 1, none⟩ v) k b ns ds := by
  obtain ⟨h0, x1, y1, x2, y2, h1, h2, h3⟩ := h
  have hne : R ≠ k := by omega
  refine ⟨h0, x1, y1, x2, y2, (h1.other (p := ⟨R, 0, none⟩) hne _).other (p := ⟨R, 1, none⟩) hne _, ?_, ?_⟩
  · exact (h2.setCell (a := ⟨R, 0, none⟩) (ownBlock_ne h2 hR) _).setCell (a := ⟨R, 1, none⟩) (ownBlock_ne h2 hR) _
  · exact (h3.setCell (a := ⟨R, 0, none⟩) (ownBlock_ne h3 hR) _).setCell (a := ⟨R, 1, none⟩) (ownBlock_ne h3 hR) _
theorem BoxA.set2 {ty : Nat} {u0 u1 : Value} (h : BoxA w R ty #[u0, u1]) (u v : Value) : BoxA ((w.setCell ⟨R, 0, none⟩ u).setCell ⟨R, 1, none⟩ v) R ty #[u, v] := by
  unfold BoxA at h ⊢
  simp [World.setCell, Array.getElem?_modify, h]
theorem Below.set2 (h : Below base w w') (hB : base ≤ R) (u v : Value) : Below base w ((w'.setCell ⟨R, 0, none⟩ u).setCell ⟨R, 1, none⟩ v) :=
  (h.setCell (p := ⟨R, 0, none⟩) hB _).setCell (p := ⟨R, 1, none⟩) hB _
end

theorem ofInt_zero_is {b : Bool} {ns ds : List Int} (h : WholeIs 0 b ns ds) : b = false ∧ ns = [] ∧ ds = [1] := by
  obtain ⟨hb, cn, vn, _, hd⟩ := h
  exact ⟨by rw [hb]; decide, List.eq_nil_of_length_eq_zero ((can_zero cn).2 (by rw [vn]; decide)), hd⟩
/-- A scalar of a number is answered. -/
def ScalarAns (w : World) (b : Bool) (ns ds : List Int) (e : Ending) (w' : World) : Prop :=
  ∃ k, e = .returned (.agg #[.slice none 0 0, .slice (some ⟨k, 0, none⟩) 1 1]) ∧ NumAt w.heap.size w' k b ns ds ∧ Below w.heap.size w w'

set_option maxRecDepth 100000 in
set_option maxHeartbeats 6400000 in
theorem arrInt_zero (w : World) : Calls Tryz.prog 26 #[.int .i64 0] w fun e w' => ScalarAns w false [] [1] e w' := by
  have R := boxA_new w #[.slice none 0 0, .slice none 0 0] 44
  have g := below_alloc w (.cells #[.slice none 0 0, .slice none 0 0] 44)
  have s0 : w.heap.size < (w.alloc (.cells #[.slice none 0 0, .slice none 0 0] 44)).heap.size := by simp
  go_enter Tryz.func26, Tryz.ntmps26
  go_wp2_with fail
  generalize hA : w.alloc (.cells #[.slice none 0 0, .slice none 0 0] 44) = v at *
  clear hA
  refine (ofInt_any 0 (by decide) (by decide) _).mono ?_
  rintro e w1 ⟨k1, bo, on, od, o1, o2, o3, o4, HO, rfl, oo, oe⟩
  go_wp2_with fail
  refine number_any.mono ?_
  rintro e w2 ⟨rfl, k2⟩
  have s1 := k1.size
  have t2 : Below v.heap.size v w2 := k1.trans (k2.mono s1)
  have p1 := oo.below k2 (Nat.le_refl _)
  have p2 := oe.below k2 (Nat.le_refl _)
  go_wp2_with fail
  refine scalar_any.mono ?_
  rintro e w3 ⟨k, rfl, hk, hB, k3⟩
  have s2 := t2.size
  have t3 : Below v.heap.size v w3 := t2.trans (k3.mono s2)
  have hN : NumAt v.heap.size w3 k bo on od := ⟨by omega, _, _, _, _, hB, p1.below k3 (Nat.le_refl _), p2.below k3 (Nat.le_refl _)⟩
  have HN : Hid (NumAt v.heap.size w3 k false [] [1]) := by
    obtain ⟨rfl, rfl, rfl⟩ : bo = false ∧ on = [] ∧ od = [1] := ofInt_zero_is HO.out
    exact hN
  clear hN HO
  have R3 := R.below t3 s0
  have q0 := R3.cell 0 rfl
  have q1 := R3.cell 1 rfl
  have f0 := R3.frozen 0
  have f1 := R3.frozen 1
  go_wp2
  have R4 := R3.set2 (.slice none 0 0) (.slice (some ⟨k, 0, none⟩) 1 1)
  have r0 := R4.cell 0 rfl
  have r1 := R4.cell 1 rfl
  refine bodyPost_ret (v := .agg #[.slice none 0 0, .slice (some ⟨k, 0, none⟩) 1 1]) (by simp [results, Tryz.results26, go_sem, r0, r1]) rfl ?_
  exact ⟨k, rfl, (HN.out.set2 s0 _ _).mono (by omega), Below.set2 (g.trans (t3.mono (by omega))) (Nat.le_refl _) _ _⟩

end Go.Proofs.YtopndegbofokiaaGreat

/- slices.Equal of limbs that read the same; of two nil shapes. -/
namespace Go.Proofs.YtopndegbofokiaaGreat
set_option linter.unusedVariables false
set_option linter.unusedSimpArgs false
open Go.RowKit

set_option maxHeartbeats 1600000 in
theorem equal_walk (b1 o1 c1 b2 o2 c2 n : Nat) (xs : List Int) (w : World) (hb : n ≤ 9223372036854775807)
    (k1 : ∀ j, j < n → w.cell? ⟨b1, o1 + j, none⟩ = some (.int .u32 (xs.getD j 0)))
    (k2 : ∀ j, j < n → w.cell? ⟨b2, o2 + j, none⟩ = some (.int .u32 (xs.getD j 0))) :
    Calls Tryz.prog 210 #[.slice (some ⟨b1, o1, none⟩) n c1, .slice (some ⟨b2, o2, none⟩) n c2] w fun e w' => e = .returned (.bool true) ∧ ∃ q, w' = w.drewN q := by
  have K1 : Hid (∀ j, j < n → w.cell? ⟨b1, o1 + j, none⟩ = some (.int .u32 (xs.getD j 0))) := k1
  have K2 : Hid (∀ j, j < n → w.cell? ⟨b2, o2 + j, none⟩ = some (.int .u32 (xs.getD j 0))) := k2
  clear k1 k2
  go_enter Tryz.func210, Tryz.ntmps210
  go_wp2
  go_loopw [13] (fun s wr => (∃ q, wr = w.drewN q) ∧ ∃ j : Nat, j ≤ n ∧ s = .int .i64 j) (fun s _ => n - (intOf s).toNat)
  case atStart => exact ⟨⟨0, rfl⟩, 0, Nat.zero_le _, rfl⟩
  case round =>
    obtain ⟨⟨q, rfl⟩, j, hj, rfl⟩ := hrel
    by_cases hlt : j < n
    · have g1 := K1.out j hlt
      have g2 := K2.out j hlt
      generalize xs.getD j 0 = p at *
      go_wp2
      go_quiet (fail)
      go_wp2
      go_roundw
      case rel => exact ⟨⟨_, rfl⟩, j + 1, by omega, by go_num⟩
      case measure => simp [intOf]; omega
    · go_wp2
      go_ret
      exact ⟨rfl, _, rfl⟩

theorem equal_nil (a1 a2 : Option Addr) (c1 c2 : Nat) (w : World) :
    Calls Tryz.prog 210 #[.slice a1 0 c1, .slice a2 0 c2] w fun e w' => e = .returned (.bool true) ∧ w = w' := by
  go_enter Tryz.func210, Tryz.ntmps210
  go_wp2
  go_loopw [13] (fun s wr => wr = w ∧ s = .int .i64 0) (fun _ _ => 0)
  case atStart => exact ⟨rfl, rfl⟩
  case round =>
    obtain ⟨rfl, rfl⟩ := hrel
    go_wp2
    go_ret
    exact ⟨rfl, rfl⟩

theorem equal_rd {B B' : Nat} {w : World} {v1 v2 : Value} {xs : List Int} (h1 : Rd B w v1 xs) (h2 : Rd B' w v2 xs) :
    Calls Tryz.prog 210 #[v1, v2] w fun e w' => e = .returned (.bool true) ∧ Below w.heap.size w w' := by
  obtain ⟨_, a1, c1, rfl, i1, j1, _, f1⟩ := h1
  obtain ⟨_, a2, c2, rfl, i2, j2, _, f2⟩ := h2
  by_cases h0 : xs.length = 0
  · rw [h0]
    refine (equal_nil a1 a2 c1 c2 w).mono ?_
    rintro e w' ⟨rfl, rfl⟩
    exact ⟨rfl, Below.refl _ _⟩
  · rcases f1 with f1 | ⟨b1, o1, rfl, _, k1⟩
    · exact absurd f1 h0
    rcases f2 with f2 | ⟨b2, o2, rfl, _, k2⟩
    · exact absurd f2 h0
    refine (equal_walk b1 o1 c1 b2 o2 c2 xs.length xs w (by omega) k1 k2).mono ?_
    rintro e w' ⟨rfl, q, rfl⟩
    exact ⟨rfl, below_drewN' (Below.refl _ _) q⟩

theorem equal_shape (a1 a2 : Option Addr) (c1 c2 : Nat) (w : World) :
    Calls Tryz.prog 143 #[.slice a1 0 c1, .slice a2 0 c2] w fun e w' => e = .returned (.bool true) ∧ w = w' := by
  go_enter Tryz.func143, Tryz.ntmps143
  go_wp2
  go_loopw [13] (fun s wr => wr = w ∧ s = .int .i64 0) (fun _ _ => 0)
  case atStart => exact ⟨rfl, rfl⟩
  case round =>
    obtain ⟨rfl, rfl⟩ := hrel
    go_wp2
    go_ret
    exact ⟨rfl, rfl⟩
set_option maxRecDepth 100000 in
theorem arrProduct_none (c : Nat) (w : World) : Calls Tryz.prog 195 #[.slice none 0 c] w fun e w' => e = .returned (.tuple #[.int .i64 1, .int .i64 0]) ∧ w' = w := by
  go_enter Tryz.func195, Tryz.ntmps195
  go_wp2
  go_loopw [4, 9] (fun z s wr => wr = w ∧ z = .int .i64 1 ∧ s = .int .i64 0) (fun _ _ _ => 0)
  case atStart => exact ⟨rfl, rfl, rfl⟩
  case round =>
    obtain ⟨rfl, rfl, rfl⟩ := hrel
    go_wp2
    go_ret2
    exact ⟨rfl, rfl⟩
set_option maxRecDepth 100000 in
theorem arrSize_none (c : Nat) (w : World) : Calls Tryz.prog 149 #[.slice none 0 c] w fun e w' => e = .returned (.tuple #[.int .i64 1, .int .i64 0]) ∧ w' = w := by
  go_enter Tryz.func149, Tryz.ntmps149
  go_wp2
  go_loopw [4, 5, 13] (fun z y s wr => wr = w ∧ z = .int .i64 1 ∧ y = .int .i64 1 ∧ s = .int .i64 0) (fun _ _ _ _ => 0)
  case atStart => exact ⟨rfl, rfl, rfl, rfl⟩
  case round =>
    obtain ⟨rfl, rfl, rfl, rfl⟩ := hrel
    go_wp2_with fail
    refine (arrProduct_none c _).mono ?_
    rintro e w' ⟨rfl, rfl⟩
    go_wp2
    go_ret2
    exact ⟨rfl, rfl⟩
section
variable {w : World} {base k : Nat} {b : Bool} {ns ds : List Int}
set_option maxRecDepth 100000 in
theorem isSimple_num {x1 x2 : Option Addr} {n1 n2 y1 y2 : Nat} (h : BoxA w k 91 #[.int .u8 1, .bool b, .slice x1 n1 y1, .slice x2 n2 y2, .int .i32 0, .slice none 0 0]) :
    Calls Tryz.prog 151 #[.agg #[.slice none 0 0, .slice (some ⟨k, 0, none⟩) 1 1]] w fun e w' => e = .returned (.bool true) ∧ Below w.heap.size w w' := by
  have kk := below_alloc w (.cells #[.slice none 0 0, .slice (some ⟨k, 0, none⟩) 1 1] 44)
  have h' := h.below kk h.lt
  have A := boxA_new w #[.slice none 0 0, .slice (some ⟨k, 0, none⟩) 1 1] 44
  have a0 := A.cell 0 rfl
  have a1 := A.cell 1 rfl
  have i0 := h'.cell 0 rfl
  go_enter Tryz.func151, Tryz.ntmps151
  go_wp2
  go_ret
  exact ⟨rfl, kk⟩
end
end Go.Proofs.YtopndegbofokiaaGreat

/- array.Right of a scalar of a right number. -/
namespace Go.Proofs.YtopndegbofokiaaGreat
set_option linter.unusedVariables false
set_option linter.unusedSimpArgs false
open Go.RowKit

section
variable {w : World} {b : Bool} {a1 a2 : Option Addr} {c1 c2 : Nat} {ns ds : List Int}
set_option maxRecDepth 100000 in
set_option maxHeartbeats 16000000 in
theorem measuredItem_num (lv : Int) (h1 : Rd w.heap.size w (.slice a1 ns.length c1) ns) (h2 : Rd w.heap.size w (.slice a2 ds.length c2) ds) (hr : RightP b ns ds) :
    Calls Tryz.prog 150 #[.agg #[.int .u8 1, .bool b, .slice a1 ns.length c1, .slice a2 ds.length c2, .int .i32 0, .slice none 0 0], .int .i64 lv] w fun e w' => e = .returned (.tuple #[.agg #[.int .i64 0, .int .i64 0], .bool true]) ∧ Below w.heap.size w w' := by
  have HR : Hid (RightP b ns ds) := hr
  clear hr
  have X0 := boxA_new w #[.int .u8 1, .bool b, .slice a1 ns.length c1, .slice a2 ds.length c2, .int .i32 0, .slice none 0 0] 91
  have k0 := below_alloc w (.cells #[.int .u8 1, .bool b, .slice a1 ns.length c1, .slice a2 ds.length c2, .int .i32 0, .slice none 0 0] 91)
  have k1 := below_alloc (w.alloc (.cells #[.int .u8 1, .bool b, .slice a1 ns.length c1, .slice a2 ds.length c2, .int .i32 0, .slice none 0 0] 91)) (.cells #[.int .i64 0, .int .i64 0] 95)
  have R := boxA_new (w.alloc (.cells #[.int .u8 1, .bool b, .slice a1 ns.length c1, .slice a2 ds.length c2, .int .i32 0, .slice none 0 0] 91)) #[.int .i64 0, .int .i64 0] 95
  rw [World.size_alloc] at R
  have X := X0.below k1 (by simp)
  have g : Below w.heap.size w _ := k0.trans (k1.mono (by simp))
  have sv : ((w.alloc (.cells #[.int .u8 1, .bool b, .slice a1 ns.length c1, .slice a2 ds.length c2, .int .i32 0, .slice none 0 0] 91)).alloc (.cells #[.int .i64 0, .int .i64 0] 95)).heap.size = w.heap.size + 1 + 1 := by simp
  replace h1 := h1.below g
  replace h2 := h2.below g
  obtain ⟨X0', X1, X2, X3, X4, X5⟩ := X.num
  go_enter Tryz.func150, Tryz.ntmps150
  go_upto_region 3 with fail
  generalize hA : (w.alloc (.cells #[.int .u8 1, .bool b, .slice a1 ns.length c1, .slice a2 ds.length c2, .int .i32 0, .slice none 0 0] 91)).alloc (.cells #[.int .i64 0, .int .i64 0] 95) = v at *
  clear hA k0 k1 X0
  have hcells : ∀ {w' : World}, Below v.heap.size v w' → w'.cell? ⟨w.heap.size, 1, none⟩ = some (.bool b) ∧ w'.cell? ⟨w.heap.size, 2, none⟩ = some (.slice a1 ns.length c1) ∧ w'.cell? ⟨w.heap.size, 3, none⟩ = some (.slice a2 ds.length c2) ∧ w'.cell? ⟨w.heap.size, 4, none⟩ = some (.int .i32 0) ∧ w'.cell? ⟨w.heap.size, 5, none⟩ = some (.slice none 0 0) := fun hb => by
    obtain ⟨_, q1, q2, q3, q4, q5⟩ := (X.below hb (by omega)).num
    exact ⟨q1, q2, q3, q4, q5⟩
  have d0 : Below v.heap.size v v.drew := ⟨rfl, rfl, rfl, Nat.le_refl _, fun _ _ => rfl⟩
  have h1' : Rd v.drew.heap.size v.drew (.slice a1 ns.length c1) ns := h1.mono (by simp; omega)
  have h2' : Rd v.drew.heap.size v.drew (.slice a2 ds.length c2) ds := h2.mono (by simp; omega)
  go_region_held3 (fun w' => w'.cell? ⟨w.heap.size, 1, none⟩ = some (.bool b) ∧ w'.cell? ⟨w.heap.size, 2, none⟩ = some (.slice a1 ns.length c1) ∧ w'.cell? ⟨w.heap.size, 3, none⟩ = some (.slice a2 ds.length c2) ∧ w'.cell? ⟨w.heap.size, 4, none⟩ = some (.int .i32 0) ∧ w'.cell? ⟨w.heap.size, 5, none⟩ = some (.slice none 0 0))
    (first | (go_keep; done) | exact tw)
    (first
      | (go_at_call 36; refine (right_rat h1' h2' (Nat.le_refl _)).mono ?_; rintro e wa ⟨⟨r, rfl, hr⟩, ka'⟩; obtain rfl : r = true := hr.2 HR.out; clear hr; have ka : Below v.heap.size v wa := d0.trans (ka'.mono d0.size); have tw := hcells ka; have Rc := R.below ka (by omega); have q0 := Rc.cell 0 rfl; have q1 := Rc.cell 1 rfl; have p0 := Rc.frozen 0; have p1 := Rc.frozen 1))
  all_goals
    go_wp2
    have Rd2 := Rc.set2 (.int .i64 0) (.int .i64 0)
    have r0 := Rd2.cell 0 rfl
    have r1 := Rd2.cell 1 rfl
    refine bodyPost_ret (v := .tuple #[.agg #[.int .i64 0, .int .i64 0], .bool true]) (by simp [results, Tryz.results150, go_sem, r0, r1]) rfl ?_
    exact ⟨rfl, Below.set2 (g.trans (ka.mono (by omega))) (by omega) _ _⟩
end
end Go.Proofs.YtopndegbofokiaaGreat

/- array.measured: whether an array is right, how deep, how great. -/
namespace Go.Proofs.YtopndegbofokiaaGreat
set_option linter.unusedVariables false
set_option linter.unusedSimpArgs false
open Go.RowKit

def okR (c : Int) : Prop := (0 ≤ c ∧ c < 55296) ∨ (57343 < c ∧ c ≤ 1114111)
/-- Has an item no number? -/
def noneB (t : Tr) : Bool := !t.b && decide (t.ns.length = 0) && decide (t.ds.length = 0)
/-- Is an array a scalar of a number or a character? -/
def simpB (t : Tr) : Bool := decide (t.ns.length = 0) && decide (t.kids.length = 1) && (decide ((t.kids.getD 0 tr0).k = 1) || decide ((t.kids.getD 0 tr0).k = 2))
open Classical in
/-- An item's measure, where M tells that of its array. -/
noncomputable def measI (M : Tr → Option (Int × Int)) (t : Tr) : Option (Int × Int) :=
  if t.k = 1 then (if RightP t.b t.ns t.ds ∧ t.c = 0 ∧ t.kids.length = 0 then some (0, 0) else none)
  else if t.k = 2 then (if okR t.c ∧ noneB t = true ∧ t.kids.length = 0 then some (0, 0) else none)
  else if t.k = 3 then (if noneB t = true ∧ t.c = 0 ∧ t.kids.length = 1 ∧ simpB (t.kids.getD 0 tr0) = false then M (t.kids.getD 0 tr0) else none)
  else none
def measL (I : Tr → Option (Int × Int)) : List Tr → Int × Int → Option (Int × Int)
  | [], w => some w
  | t :: r, w => match I t with
    | none => none
    | some p => if 16384 < w.2 + p.2 then none else measL I r (max w.1 (1 + p.1), w.2 + p.2)
/-- An array's measure, so many levels down. -/
noncomputable def measF : Nat → Tr → Option (Int × Int)
  | 0, _ => none
  | L + 1, t => if (sizeF t.ns).2 = 0 ∧ (t.kids.length : Int) = max (sizeF t.ns).1 1 then
      (match measL (measI (measF L)) t.kids (1, (t.kids.length : Int)) with
        | none => none
        | some p => some (if simpB t = true then 0 else p.1, p.2)) else none
/-- How a measure is told. -/
def mEnd (o : Option (Int × Int)) : Ending := .returned (.tuple #[.agg #[.int .i64 (o.getD (0, 0)).1, .int .i64 (o.getD (0, 0)).2], .bool o.isSome])
def inM (o : Option (Int × Int)) : Prop := ∀ p, o = some p → 0 ≤ p.1 ∧ p.1 ≤ 100 ∧ 0 ≤ p.2 ∧ p.2 ≤ 16384
theorem isNone_any (b : Bool) (a1 : Option Addr) (n1 c1 : Nat) (a2 : Option Addr) (n2 c2 : Nat) (w : World) (h1 : n1 ≤ 9223372036854775807) (h2 : n2 ≤ 9223372036854775807) :
    Calls Tryz.prog 196 #[.agg #[.bool b, .slice a1 n1 c1, .slice a2 n2 c2]] w fun e w' => e = .returned (.bool (!b && decide (n1 = 0) && decide (n2 = 0))) ∧ w' = w.alloc (.cells #[.bool b, .slice a1 n1 c1, .slice a2 n2 c2] 24) := by
  have X := boxA_new w #[.bool b, .slice a1 n1 c1, .slice a2 n2 c2] 24
  have x0 := X.cell 0 rfl
  have x1 := X.cell 1 rfl
  have x2 := X.cell 2 rfl
  go_enter Tryz.func196, Tryz.ntmps196
  cases b with
  | true =>
    go_wp2
    go_ret
    exact ⟨rfl, rfl⟩
  | false =>
    by_cases e1 : n1 = 0
    · have d1 : ((n1 : Int) == 0) = true := by rw [beq_iff_eq]; omega
      by_cases e2 : n2 = 0
      · have d2 : ((n2 : Int) == 0) = true := by rw [beq_iff_eq]; omega
        have HQ : Hid ((!false && decide (n1 = 0) && decide (n2 = 0)) = true) := by unfold Hid; rw [decide_eq_true e1, decide_eq_true e2]; rfl
        clear e1 e2
        go_wp2
        go_ret
        exact ⟨by rw [HQ.out]; rfl, rfl⟩
      · have d2 : ((n2 : Int) == 0) = false := by rw [beq_eq_false_iff_ne]; omega
        have HQ : Hid ((!false && decide (n1 = 0) && decide (n2 = 0)) = false) := by unfold Hid; rw [decide_eq_true e1, decide_eq_false e2]; rfl
        clear e1 e2
        go_wp2
        go_ret
        exact ⟨by rw [HQ.out]; rfl, rfl⟩
    · have d1 : ((n1 : Int) == 0) = false := by rw [beq_eq_false_iff_ne]; omega
      have HQ : Hid ((!false && decide (n1 = 0) && decide (n2 = 0)) = false) := by unfold Hid; rw [decide_eq_false e1]; rfl
      clear e1
      go_wp2
      go_ret
      exact ⟨by rw [HQ.out]; rfl, rfl⟩
set_option maxRecDepth 100000 in
set_option maxHeartbeats 1600000 in
theorem isSimpleT_any {D : Nat → Prop} {f : Nat} {W : World} {x1 : Option Addr} {n1 y1 : Nat} {x2 : Option Addr} {n2 y2 : Nat} {t : Tr} (h : ArV (f + 1) D W (.slice x1 n1 y1) (.slice x2 n2 y2) t) (hD : ∀ g, D g → g < W.heap.size) :
    Calls Tryz.prog 151 #[.agg #[.slice x1 n1 y1, .slice x2 n2 y2]] W fun e w' => e = .returned (.bool (simpB t)) ∧ w' = W.alloc (.cells #[.slice x1 n1 y1, .slice x2 n2 y2] 44) := by
  obtain rfl := h.1.len
  obtain rfl := h.2.len
  have bd1 := h.1.bounds
  have bd2 := h.2.bounds
  have X := boxA_new W #[.slice x1 t.ns.length y1, .slice x2 t.kids.length y2] 44
  have k := below_alloc W (.cells #[.slice x1 t.ns.length y1, .slice x2 t.kids.length y2] 44)
  have p0 := X.cell 0 rfl
  have p1 := X.cell 1 rfl
  go_enter Tryz.func151, Tryz.ntmps151
  by_cases e1 : t.ns.length = 0
  · have d1 : ((t.ns.length : Int) == 0) = true := by rw [beq_iff_eq]; omega
    by_cases e2 : t.kids.length = 1
    · have d2 : ((t.kids.length : Int) == 1) = true := by rw [beq_iff_eq]; omega
      obtain ⟨g, o, rfl, hg, hc⟩ := h.2.ptr (by omega)
      obtain ⟨a1, c1, a2, c2, a3, c3, ⟨z0, _⟩, _⟩ := hc 0 (by omega)
      rw [Nat.zero_mul, Nat.add_zero] at z0
      have q0 := (k.cell (p := ⟨g, o, none⟩) (hD g hg)).trans z0
      have HQ : Hid (simpB t = (decide ((t.kids.getD 0 tr0).k = 1) || decide ((t.kids.getD 0 tr0).k = 2))) := by unfold Hid simpB; rw [decide_eq_true e1, decide_eq_true e2]; rfl
      have hpos : 0 < t.kids.length := by omega
      clear h hc z0 e1 e2
      generalize (t.kids.getD 0 tr0).k = K at *
      by_cases k1 : K = 1
      · have d3 : (K == 1) = true := by rw [beq_iff_eq]; exact k1
        have HR : Hid (simpB t = true) := by unfold Hid; rw [HQ.out, decide_eq_true k1]; rfl
        clear k1 HQ
        go_wp2
        go_ret
        exact ⟨by rw [HR.out]; rfl, rfl⟩
      · have d3 : (K == 1) = false := by rw [beq_eq_false_iff_ne]; exact k1
        by_cases k2 : K = 2
        · have d4 : (K == 2) = true := by rw [beq_iff_eq]; exact k2
          have HR : Hid (simpB t = true) := by unfold Hid; rw [HQ.out, decide_eq_false k1, decide_eq_true k2]; rfl
          clear k1 k2 HQ
          go_wp2
          go_ret
          exact ⟨by rw [HR.out]; rfl, rfl⟩
        · have d4 : (K == 2) = false := by rw [beq_eq_false_iff_ne]; exact k2
          have HR : Hid (simpB t = false) := by unfold Hid; rw [HQ.out, decide_eq_false k1, decide_eq_false k2]; rfl
          clear k1 k2 HQ
          go_wp2
          go_ret
          exact ⟨by rw [HR.out]; rfl, rfl⟩
    · have d2 : ((t.kids.length : Int) == 1) = false := by rw [beq_eq_false_iff_ne]; omega
      have HR : Hid (simpB t = false) := by unfold Hid simpB; rw [decide_eq_true e1, decide_eq_false e2]; rfl
      clear e1 e2
      go_wp2
      go_ret
      exact ⟨by rw [HR.out]; rfl, rfl⟩
  · have d1 : ((t.ns.length : Int) == 0) = false := by rw [beq_eq_false_iff_ne]; omega
    have HR : Hid (simpB t = false) := by unfold Hid simpB; rw [decide_eq_false e1]; rfl
    clear e1
    go_wp2
    go_ret
    exact ⟨by rw [HR.out]; rfl, rfl⟩
section
variable {M : Tr → Option (Int × Int)} {t : Tr}
theorem measI_num (e1 : t.k = 1) (h : RightP t.b t.ns t.ds ∧ t.c = 0 ∧ t.kids.length = 0) : measI M t = some (0, 0) := by unfold measI; rw [if_pos e1, if_pos h]
theorem measI_num_no (e1 : t.k = 1) (h : ¬ (RightP t.b t.ns t.ds ∧ t.c = 0 ∧ t.kids.length = 0)) : measI M t = none := by unfold measI; rw [if_pos e1, if_neg h]
theorem measI_ch (e1 : t.k = 2) (h : okR t.c ∧ noneB t = true ∧ t.kids.length = 0) : measI M t = some (0, 0) := by unfold measI; rw [if_neg (by omega), if_pos e1, if_pos h]
theorem measI_ch_no (e1 : t.k = 2) (h : ¬ (okR t.c ∧ noneB t = true ∧ t.kids.length = 0)) : measI M t = none := by unfold measI; rw [if_neg (by omega), if_pos e1, if_neg h]
theorem measI_box (e1 : t.k = 3) (h : noneB t = true ∧ t.c = 0 ∧ t.kids.length = 1 ∧ simpB (t.kids.getD 0 tr0) = false) : measI M t = M (t.kids.getD 0 tr0) := by unfold measI; rw [if_neg (by omega), if_neg (by omega), if_pos e1, if_pos h]
theorem measI_box_no (e1 : t.k = 3) (h : ¬ (noneB t = true ∧ t.c = 0 ∧ t.kids.length = 1 ∧ simpB (t.kids.getD 0 tr0) = false)) : measI M t = none := by unfold measI; rw [if_neg (by omega), if_neg (by omega), if_pos e1, if_neg h]
theorem measI_else (h1 : ¬ t.k = 1) (h2 : ¬ t.k = 2) (h3 : ¬ t.k = 3) : measI M t = none := by unfold measI; rw [if_neg h1, if_neg h2, if_neg h3]
end
/-- measured tells what it should, so many levels down. -/
def MeasOK (L : Nat) : Prop := ∀ (f : Nat) (D : Nat → Prop) (W : World) (x1 : Option Addr) (n1 y1 : Nat) (x2 : Option Addr) (n2 y2 : Nat) (t : Tr), (∀ g, D g → g < W.heap.size) → ArV f D W (.slice x1 n1 y1) (.slice x2 n2 y2) t →
  Calls Tryz.prog 72 #[.agg #[.slice x1 n1 y1, .slice x2 n2 y2], .int .i64 L] W fun e w' => e = mEnd (measF L t) ∧ Below W.heap.size W w'
def TellsRune (c : Int) (e : Ending) : Prop := ∃ r, e = .returned (.bool r) ∧ (r = true ↔ okR c)
theorem validRune_any (c : Int) (w : World) : Calls Tryz.prog 187 #[.int .i32 c] w fun e w' => TellsRune c e ∧ Below w.heap.size w w' := by
  go_enter Tryz.func187, Tryz.ntmps187
  by_cases h1 : 0 ≤ c
  · by_cases h2 : c < 55296
    · go_wp2
      go_ret
      exact ⟨⟨true, rfl, fun _ => Or.inl ⟨h1, h2⟩, fun _ => rfl⟩, Below.refl _ _⟩
    · by_cases h3 : 57343 < c
      · by_cases h4 : c ≤ 1114111
        · go_wp2
          go_ret
          exact ⟨⟨true, rfl, fun _ => Or.inr ⟨h3, h4⟩, fun _ => rfl⟩, Below.refl _ _⟩
        · go_wp2
          go_ret
          exact ⟨⟨false, rfl, (fun h => by cases h), fun h => by unfold okR at h; omega⟩, Below.refl _ _⟩
      · go_wp2
        go_ret
        exact ⟨⟨false, rfl, (fun h => by cases h), fun h => by unfold okR at h; omega⟩, Below.refl _ _⟩
  · go_wp2
    go_ret
    exact ⟨⟨false, rfl, (fun h => by cases h), fun h => by unfold okR at h; omega⟩, Below.refl _ _⟩
end Go.Proofs.YtopndegbofokiaaGreat

/- Answers in one form; a variable of a number is given another number. -/
namespace Go.Proofs.YtopndegbofokiaaGreat
set_option linter.unusedVariables false
set_option linter.unusedSimpArgs false
open Go.RowKit

/-- What is told of N by D, where P is asked: an error, or the number. -/
def OutSpec (P : Prop) (N D : Int) (b : Bool) (ns ds : List Int) (err : Int) : Prop :=
  (¬ P ∧ err = 22 ∧ b = false ∧ ns = [] ∧ ds = []) ∨ (P ∧ err = 8 ∧ b = false ∧ ns = [] ∧ ds = [] ∧ Big N D) ∨ (P ∧ err = 0 ∧ RightP b ns ds ∧ sg b (val ns) * D = N * val ds)
theorem OutSpec.unique {P : Prop} {N D : Int} {b c : Bool} {ns ds ms es : List Int} {e f : Int} (hD : P → 0 < D) (h : OutSpec P N D b ns ds e) (k : OutSpec P N D c ms es f) : c = b ∧ ms = ns ∧ es = ds ∧ f = e := by
  rcases h with ⟨hp, rfl, rfl, rfl, rfl⟩ | ⟨hp, rfl, rfl, rfl, rfl, hb⟩ | ⟨hp, rfl, hr, hv⟩ <;> rcases k with ⟨kp, rfl, rfl, rfl, rfl⟩ | ⟨kp, rfl, rfl, rfl, rfl, kb⟩ | ⟨kp, rfl, kr, kv⟩
  · exact ⟨rfl, rfl, rfl, rfl⟩
  · exact absurd kp hp
  · exact absurd kp hp
  · exact absurd hp kp
  · exact ⟨rfl, rfl, rfl, rfl⟩
  · exact absurd hb (not_big kr kv (hD hp))
  · exact absurd hp kp
  · exact absurd kb (not_big hr hv (hD hp))
  · obtain ⟨rfl, rfl, rfl⟩ := right_is hr hv (hD hp) kr kv
    exact ⟨rfl, rfl, rfl, rfl⟩
theorem Gives.spec {w w' : World} {P : Prop} {N D : Int} {e : Ending} (h : Gives w P N D e w') : ∃ b ns ds err, Hid (OutSpec P N D b ns ds err) ∧ RAns w b ns ds err e w' := by
  obtain ⟨hb, b, x1, n, y1, x2, m, y2, err, rfl, hO⟩ := h
  rcases hO.out with ⟨hp, rfl, rfl, rfl, rfl, rfl, rfl, rfl, rfl⟩ | ⟨hp, rfl, rfl, rfl, rfl, rfl, rfl, rfl, rfl, hbig⟩ | ⟨hp, rfl, ns, ds, rfl, rfl, on, od, hr, hv⟩
  · exact ⟨false, [], [], 22, Or.inl ⟨hp, rfl, rfl, rfl, rfl⟩, hb, none, 0, none, 0, rfl, nil_rd _, nil_rd _⟩
  · exact ⟨false, [], [], 8, Or.inr (Or.inl ⟨hp, rfl, rfl, rfl, rfl, hbig⟩), hb, none, 0, none, 0, rfl, nil_rd _, nil_rd _⟩
  · exact ⟨b, ns, ds, 0, Or.inr (Or.inr ⟨hp, rfl, hr, hv⟩), hb, x1, y1, x2, y2, rfl, on.rd, od.rd⟩
/-- Two answers of the same: the second one has the first one's numbers. -/
theorem Gives.same {w w' : World} {P : Prop} {N D : Int} {e : Ending} {b : Bool} {ns ds : List Int} {err : Int} (hD : P → 0 < D) (HS : Hid (OutSpec P N D b ns ds err)) (h : Gives w P N D e w') : RAns w b ns ds err e w' := by
  obtain ⟨c, ms, es, f, HK, hr⟩ := h.spec
  obtain ⟨rfl, rfl, rfl, rfl⟩ := OutSpec.unique hD HS.out HK.out
  exact hr
theorem Gives.of {w w' : World} {P : Prop} {N D M E : Int} {e : Ending} (h : Gives w P N D e w') (hE : P → M = N ∧ E = D) : Gives w P M E e w' := by
  obtain ⟨k1, c, z1, n, z2, z3, m, z4, er, he, hO⟩ := h
  refine ⟨k1, c, z1, n, z2, z3, m, z4, er, he, ?_⟩
  rcases hO.out with h | ⟨h, h2⟩ | ⟨h, h2⟩
  · exact Or.inl h
  · obtain ⟨rfl, rfl⟩ := hE h; exact Or.inr (Or.inl ⟨h, h2⟩)
  · obtain ⟨rfl, rfl⟩ := hE h; exact Or.inr (Or.inr ⟨h, h2⟩)

section
variable {w : World} {b c : Bool} {a1 a2 a3 a4 : Option Addr} {c1 c2 c3 c4 : Nat} {ns ds ms es : List Int} {j k ty : Nat} {x1 x2 : Option Addr} {n1 n2 m1 m2 : Nat}
theorem cell_set3 (h : j ≠ k) (o : Nat) (x y z : Value) : (((w.setCell ⟨k, 0, none⟩ x).setCell ⟨k, 1, none⟩ y).setCell ⟨k, 2, none⟩ z).cell? ⟨j, o, none⟩ = w.cell? ⟨j, o, none⟩ := by
  have hne : ¬ k = j := fun e => h e.symm
  simp [World.setCell, World.cell?, Array.getElem?_modify, hne]
theorem Rd.put {B : Nat} {v : Value} {xs : List Int} (h : Rd B w v xs) (hk : Box3 w k ty (.bool b) (.slice x1 n1 m1) (.slice x2 n2 m2)) (x y z : Value) : Rd B (((w.setCell ⟨k, 0, none⟩ x).setCell ⟨k, 1, none⟩ y).setCell ⟨k, 2, none⟩ z) v xs := by
  obtain ⟨hl, a, cap, hv, h1, h2, h3, h4⟩ := h
  refine ⟨hl, a, cap, hv, h1, h2, h3, ?_⟩
  rcases h4 with h4 | ⟨b', off, ha, hb, hc⟩
  · exact Or.inl h4
  · by_cases h0 : xs.length = 0
    · exact Or.inl h0
    · refine Or.inr ⟨b', off, ha, hb, fun i hi => ?_⟩
      rw [cell_set3 ?_]
      · exact hc i hi
      · rintro rfl
        have h5 := hc 0 (by omega)
        unfold Box3 at hk
        rw [Nat.add_zero] at h5
        match off, h5 with
        | 0, h5 => simp [World.cell?, hk] at h5
        | 1, h5 => simp [World.cell?, hk] at h5
        | 2, h5 => simp [World.cell?, hk] at h5
        | o + 3, h5 => simp [World.cell?, hk] at h5
theorem NVar.put (P : NVar w k b a1 ns c1 a2 ds c2) (h1 : Rd w.heap.size w (.slice a3 ms.length c3) ms) (h2 : Rd w.heap.size w (.slice a4 es.length c4) es) :
    NVar (((w.setCell ⟨k, 0, none⟩ (.bool c)).setCell ⟨k, 1, none⟩ (.slice a3 ms.length c3)).setCell ⟨k, 2, none⟩ (.slice a4 es.length c4)) k c a3 ms c3 a4 es c4 := by
  have szz : (((w.setCell ⟨k, 0, none⟩ (.bool c)).setCell ⟨k, 1, none⟩ (.slice a3 ms.length c3)).setCell ⟨k, 2, none⟩ (.slice a4 es.length c4)).heap.size = w.heap.size := by simp [World.setCell]
  refine ⟨by rw [szz]; exact P.lt, P.box.set _ _ _, ?_, ?_⟩
  · rw [szz]; exact h1.put P.box _ _ _
  · rw [szz]; exact h2.put P.box _ _ _
theorem NVar.by' (X : NVar w j b a1 ns c1 a2 ds c2) (P : NVar w k c a3 ms c3 a4 es c4) (h : j ≠ k) (x y z : Value) : NVar (((w.setCell ⟨k, 0, none⟩ x).setCell ⟨k, 1, none⟩ y).setCell ⟨k, 2, none⟩ z) j b a1 ns c1 a2 ds c2 := by
  have szz : (((w.setCell ⟨k, 0, none⟩ x).setCell ⟨k, 1, none⟩ y).setCell ⟨k, 2, none⟩ z).heap.size = w.heap.size := by simp [World.setCell]
  refine ⟨by rw [szz]; exact X.lt, X.box.other h _ _ _, ?_, ?_⟩
  · rw [szz]; exact X.rn.put P.box _ _ _
  · rw [szz]; exact X.rd.put P.box _ _ _
end
end Go.Proofs.YtopndegbofokiaaGreat

/- rat.Neg, Abs, Ceil. -/
namespace Go.Proofs.YtopndegbofokiaaGreat
set_option linter.unusedVariables false
set_option linter.unusedSimpArgs false
open Go.RowKit

/-- A right number with another sign is right. -/
theorem right_with {b : Bool} {ns ds : List Int} (c : Bool) (h : RightP b ns ds) : RightP (c && decide (0 < ns.length)) ns ds ∧ sg (c && decide (0 < ns.length)) (val ns) = sg c (val ns) := by
  obtain ⟨l1, l2, c1, c2, hb, hd, hg⟩ := h
  by_cases h0 : ns.length = 0
  · have hv := (can_zero c1).1 h0
    have hf : (c && decide (0 < ns.length)) = false := by rw [h0]; simp
    rw [hf]
    refine ⟨⟨l1, l2, c1, c2, ?_, hd, hg⟩, ?_⟩
    · rintro ⟨h, _⟩; cases h
    · rw [hv, sg_zero, sg_zero]
  · have hf : (c && decide (0 < ns.length)) = c := by rw [decide_eq_true (by omega)]; simp
    rw [hf]
    exact ⟨⟨l1, l2, c1, c2, fun h => h0 h.2, hd, hg⟩, rfl⟩
theorem sg_neg (b : Bool) (x : Int) : sg b (-x) = -(sg b x) := by unfold sg; cases b <;> simp
theorem ceil_whole (b : Bool) (n d : Int) (hn : 0 ≤ n) (hd : 0 < d) : sg b (wholeM (!b) n d) = -((-(sg b n)) / d) := by
  have h := floor_whole (!b) n d hn hd
  rw [sg_not, sg_not] at h
  omega
theorem big_neg {N D : Int} (h : Big N D) : Big (-N) D := by
  obtain ⟨b, ns, ds, h1, h2, h3, h4, h5, h6⟩ := h
  exact ⟨!b, ns, ds, h1, h2, h3, h4, by rw [sg_not, Int.neg_mul, Int.neg_mul, h5], h6⟩
/-- A right number is told. -/
theorem gives_num {w wF : World} {P : Prop} {N D : Int} {b : Bool} {ns ds : List Int} {x1 x2 : Option Addr} {y1 y2 : Nat} (hP : P) (hb : Below w.heap.size w wF) (on : Own w.heap.size wF (.slice x1 ns.length y1) ns) (od : Own w.heap.size wF (.slice x2 ds.length y2) ds) (hr : RightP b ns ds) (hv : sg b (val ns) * D = N * val ds) :
    Gives w P N D (.returned (.tuple #[.agg #[.bool b, .slice x1 ns.length y1, .slice x2 ds.length y2], .int .i64 0])) wF :=
  ⟨hb, b, x1, ns.length, y1, x2, ds.length, y2, 0, rfl, Or.inr (Or.inr ⟨hP, rfl, ns, ds, rfl, rfl, on, od, hr, hv⟩)⟩

section
variable {w : World} {b : Bool} {a1 a2 : Option Addr} {c1 c2 : Nat} {ns ds : List Int}
set_option maxRecDepth 100000 in
set_option maxHeartbeats 8000000 in
theorem neg_rat (h1 : Rd w.heap.size w (.slice a1 ns.length c1) ns) (h2 : Rd w.heap.size w (.slice a2 ds.length c2) ds) :
    Calls Tryz.prog 83 #[.agg #[.bool b, .slice a1 ns.length c1, .slice a2 ds.length c2]] w fun e w' => Gives w (RightP b ns ds) (-(sg b (val ns))) (val ds) e w' := by
  obtain ⟨X, R, g⟩ := in1_new (b := b) w h1 h2
  have s0 : w.heap.size ≤ w.heap.size + 1 := by omega
  clear h1 h2
  obtain ⟨x0, x1, x2⟩ := X.cells
  go_enter Tryz.func83, Tryz.ntmps83
  go_wp2_with fail
  clear x0 x1 x2
  generalize hA : (w.alloc (.cells #[.bool b, .slice a1 ns.length c1, .slice a2 ds.length c2] 24)).alloc (.cells #[.bool false, .slice none 0 0, .slice none 0 0] 24) = v at *
  clear hA
  refine (right_rat X.rn X.rd (Nat.le_refl _)).mono ?_
  rintro e wa ⟨⟨r, rfl, hr⟩, ka⟩
  replace X := X.below ka
  replace R := R.below ka
  replace g := g.trans (ka.mono g.size)
  clear ka
  cases r with
  | false =>
    have HP : Hid (¬ RightP b ns ds) := fun h => by have := hr.2 h; cases this
    clear hr
    have q0 := R.box.c0
    have q1 := R.box.c1
    have q2 := R.box.c2
    have p0 := R.box.f0
    have p1 := R.box.f1
    have p2 := R.box.f2
    go_wp2
    have hR3 := R.box.set (.bool false) (.slice none 0 0) (.slice none 0 0)
    have r0 := hR3.c0
    have r1 := hR3.c1
    have r2 := hR3.c2
    refine bodyPost_ret (v := .tuple #[.agg #[.bool false, .slice none 0 0, .slice none 0 0], .int .i64 22]) (by simp [results, Tryz.results83, go_sem, r0, r1, r2]) rfl ?_
    exact gives_err HP.out (Below.set3 g s0 _ _ _)
  | true =>
    have HP : Hid (RightP b ns ds) := hr.1 rfl
    clear hr
    obtain ⟨x0, x1, x2⟩ := X.cells
    go_wp2_with fail
    clear x0 x1 x2
    refine (withSign_rat (b := (!b)) X.rn X.rd (Nat.le_refl _) HP.out).mono ?_
    rintro e wb ⟨kb, z1, y1, z2, y2, he, on, od⟩
    have HB := right_with (!b) HP.out
    skip
    subst he
    have R' := R
    replace R := R.below kb
    replace g := g.trans (kb.mono g.size)
    have q0 := R.box.c0
    have q1 := R.box.c1
    have q2 := R.box.c2
    have p0 := R.box.f0
    have p1 := R.box.f1
    have p2 := R.box.f2
    go_wp2
    have hR3 := R.box.set (.bool ((!b) && decide (0 < ns.length))) (.slice z1 ns.length y1) (.slice z2 ds.length y2)
    have r0 := hR3.c0
    have r1 := hR3.c1
    have r2 := hR3.c2
    refine bodyPost_ret (v := .tuple #[.agg #[.bool ((!b) && decide (0 < ns.length)), .slice z1 ns.length y1, .slice z2 ds.length y2], .int .i64 0]) (by simp [results, Tryz.results83, go_sem, r0, r1, r2]) rfl ?_
    exact gives_num HP.out (Below.set3 g s0 _ _ _) ((Own.set3 on R'.lt _ _ _).mono (Nat.le_trans s0 (Nat.le_of_lt R'.lt))) ((Own.set3 od R'.lt _ _ _).mono (Nat.le_trans s0 (Nat.le_of_lt R'.lt))) HB.1 (by rw [HB.2, sg_not])
set_option maxRecDepth 100000 in
set_option maxHeartbeats 8000000 in
theorem abs_rat (h1 : Rd w.heap.size w (.slice a1 ns.length c1) ns) (h2 : Rd w.heap.size w (.slice a2 ds.length c2) ds) :
    Calls Tryz.prog 89 #[.agg #[.bool b, .slice a1 ns.length c1, .slice a2 ds.length c2]] w fun e w' => Gives w (RightP b ns ds) (val ns) (val ds) e w' := by
  obtain ⟨X, R, g⟩ := in1_new (b := b) w h1 h2
  have s0 : w.heap.size ≤ w.heap.size + 1 := by omega
  clear h1 h2
  obtain ⟨x0, x1, x2⟩ := X.cells
  go_enter Tryz.func89, Tryz.ntmps89
  go_wp2_with fail
  clear x0 x1 x2
  generalize hA : (w.alloc (.cells #[.bool b, .slice a1 ns.length c1, .slice a2 ds.length c2] 24)).alloc (.cells #[.bool false, .slice none 0 0, .slice none 0 0] 24) = v at *
  clear hA
  refine (right_rat X.rn X.rd (Nat.le_refl _)).mono ?_
  rintro e wa ⟨⟨r, rfl, hr⟩, ka⟩
  replace X := X.below ka
  replace R := R.below ka
  replace g := g.trans (ka.mono g.size)
  clear ka
  cases r with
  | false =>
    have HP : Hid (¬ RightP b ns ds) := fun h => by have := hr.2 h; cases this
    clear hr
    have q0 := R.box.c0
    have q1 := R.box.c1
    have q2 := R.box.c2
    have p0 := R.box.f0
    have p1 := R.box.f1
    have p2 := R.box.f2
    go_wp2
    have hR3 := R.box.set (.bool false) (.slice none 0 0) (.slice none 0 0)
    have r0 := hR3.c0
    have r1 := hR3.c1
    have r2 := hR3.c2
    refine bodyPost_ret (v := .tuple #[.agg #[.bool false, .slice none 0 0, .slice none 0 0], .int .i64 22]) (by simp [results, Tryz.results89, go_sem, r0, r1, r2]) rfl ?_
    exact gives_err HP.out (Below.set3 g s0 _ _ _)
  | true =>
    have HP : Hid (RightP b ns ds) := hr.1 rfl
    clear hr
    obtain ⟨x0, x1, x2⟩ := X.cells
    go_wp2_with fail
    clear x0 x1 x2
    refine (withSign_rat (b := false) X.rn X.rd (Nat.le_refl _) HP.out).mono ?_
    rintro e wb ⟨kb, z1, y1, z2, y2, he, on, od⟩
    have HB := right_with false HP.out
    rw [Bool.false_and] at he HB
    subst he
    have R' := R
    replace R := R.below kb
    replace g := g.trans (kb.mono g.size)
    have q0 := R.box.c0
    have q1 := R.box.c1
    have q2 := R.box.c2
    have p0 := R.box.f0
    have p1 := R.box.f1
    have p2 := R.box.f2
    go_wp2
    have hR3 := R.box.set (.bool false) (.slice z1 ns.length y1) (.slice z2 ds.length y2)
    have r0 := hR3.c0
    have r1 := hR3.c1
    have r2 := hR3.c2
    refine bodyPost_ret (v := .tuple #[.agg #[.bool false, .slice z1 ns.length y1, .slice z2 ds.length y2], .int .i64 0]) (by simp [results, Tryz.results89, go_sem, r0, r1, r2]) rfl ?_
    exact gives_num HP.out (Below.set3 g s0 _ _ _) ((Own.set3 on R'.lt _ _ _).mono (Nat.le_trans s0 (Nat.le_of_lt R'.lt))) ((Own.set3 od R'.lt _ _ _).mono (Nat.le_trans s0 (Nat.le_of_lt R'.lt))) HB.1 (by rw [sg_false])
set_option maxRecDepth 100000 in
set_option maxHeartbeats 8000000 in
theorem ceil_rat (h1 : Rd w.heap.size w (.slice a1 ns.length c1) ns) (h2 : Rd w.heap.size w (.slice a2 ds.length c2) ds) :
    Calls Tryz.prog 87 #[.agg #[.bool b, .slice a1 ns.length c1, .slice a2 ds.length c2]] w fun e w' => Gives w (RightP b ns ds) (-((-(sg b (val ns))) / val ds)) 1 e w' := by
  obtain ⟨X, R, g⟩ := in1_new (b := b) w h1 h2
  have s0 : w.heap.size ≤ w.heap.size + 1 := by omega
  clear h1 h2
  obtain ⟨x0, x1, x2⟩ := X.cells
  go_enter Tryz.func87, Tryz.ntmps87
  go_wp2_with fail
  clear x0 x1 x2
  generalize hA : (w.alloc (.cells #[.bool b, .slice a1 ns.length c1, .slice a2 ds.length c2] 24)).alloc (.cells #[.bool false, .slice none 0 0, .slice none 0 0] 24) = v at *
  clear hA
  refine (whole_rat (!b) X.rn X.rd).mono ?_
  rintro e wa ⟨ka, b6, x5, n5, y5, x6, n6, y6, err, rfl, ho⟩
  have Ra := R.below ka
  have q0 := Ra.box.c0
  have q1 := Ra.box.c1
  have q2 := Ra.box.c2
  have p0 := Ra.box.f0
  have p1 := Ra.box.f1
  have p2 := Ra.box.f2
  go_wp2
  have hR3 := Ra.box.set (.bool b6) (.slice x5 n5 y5) (.slice x6 n6 y6)
  have r0 := hR3.c0
  have r1 := hR3.c1
  have r2 := hR3.c2
  refine bodyPost_ret (v := .tuple #[.agg #[.bool b6, .slice x5 n5 y5, .slice x6 n6 y6], .int .i64 err]) (by simp [results, Tryz.results87, go_sem, r0, r1, r2]) rfl ?_
  have hd := gives_done g s0 R.lt ka (Nat.le_refl _) ho
  exact hd.of (fun hP => ⟨(ceil_whole b _ _ (right_pos hP).2 (right_pos hP).1).symm, rfl⟩)
end
end Go.Proofs.YtopndegbofokiaaGreat

/- rat.IsInt, ToInt. -/
namespace Go.Proofs.YtopndegbofokiaaGreat
set_option linter.unusedVariables false
set_option linter.unusedSimpArgs false
open Go.RowKit

/-- Is a number right and whole? -/
def IsWhole (b : Bool) (ns ds : List Int) : Prop := RightP b ns ds ∧ ds = [1]
/-- What is told of a whole number as an int. -/
def IntTold (P : Prop) (z n : Int) (ok : Bool) : Prop := (ok = true ∧ P ∧ -9223372036854775808 ≤ z ∧ z < 9223372036854775808 ∧ n = z) ∨ (ok = false ∧ n = 0 ∧ ¬ (P ∧ -9223372036854775808 ≤ z ∧ z < 9223372036854775808))
theorem IntTold.unique {P : Prop} {z n m : Int} {ok fine : Bool} (h : IntTold P z n ok) (k : IntTold P z m fine) : m = n ∧ fine = ok := by
  rcases h with ⟨rfl, hp, h1, h2, rfl⟩ | ⟨rfl, rfl, h⟩ <;> rcases k with ⟨rfl, kp, k1, k2, rfl⟩ | ⟨rfl, rfl, k⟩
  · exact ⟨rfl, rfl⟩
  · exact absurd ⟨hp, h1, h2⟩ k
  · exact absurd ⟨kp, k1, k2⟩ h
  · exact ⟨rfl, rfl⟩

section
variable {w : World} {b : Bool} {a1 a2 : Option Addr} {c1 c2 : Nat} {ns ds : List Int}
end
end Go.Proofs.YtopndegbofokiaaGreat
