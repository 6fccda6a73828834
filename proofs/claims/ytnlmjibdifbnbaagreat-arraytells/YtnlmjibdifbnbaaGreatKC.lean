/- lex: sorts of characters, and runs of them. -/
import Derived.Test.YtnlmjibdifbnbaaGreatJ1
import Derived.Test.YtnlmjibdifbnbaaGreatK8
import Derived.Test.YtnlmjibdifbnbaaGreatJ6
import Derived.Test.YtnlmjibdifbnbaaGreatJ4
import Derived.Laws.Cover4
import Derived.Deep.Cut
import Derived.Deep.CutRange
import Derived.WalkSmall
import Derived.Test.YtnlmjibdifbnbaaGreatK7
import Derived.Shelf.Abstract
import Derived.Shelf.RegionOpen
import Derived.OwnWalkIn
import Derived.TacticsInMore
import Derived.LoopNIn
import Derived.LoopIn
import Derived.Maps.AppendAt
import Derived.Test.YtnlmjibdifbnbaaGreatKB
import Derived.Test.YtnlmjibdifbnbaaGreatK12
import Derived.Test.YtnlmjibdifbnbaaGreatShelf
import Derived.Lib.MapLaws
import Derived.Lib.QuoteLoop
import Derived.Lib.TrimUEq
namespace Go.Proofs.YtnlmjibdifbnbaaGreat
set_option linter.unusedVariables false
set_option linter.unusedSimpArgs false
open Go.RowKit

def bl (c : Int) : Bool := decide (c = 32) || decide (c = 9)
def dg (c : Int) : Bool := decide (48 ≤ c) && decide (c ≤ 57)
def inn (c : Int) : Bool := dg c || decide (c = 46) || decide (c = 114)
/-- v reads as the characters cs; its memory lies below block B. -/
def RdR (B : Nat) (w : World) (v : Value) (cs : List Int) : Prop :=
  ∃ a cap, v = .slice a cs.length cap ∧ cs.length ≤ cap ∧ cap ≤ 9223372036854775807 ∧
    (cs.length = 0 ∨ ∃ b off, a = some ⟨b, off, none⟩ ∧ b < B ∧ ∀ j, j < cs.length → w.cell? ⟨b, off + j, none⟩ = some (.int .i32 (cs.getD j 0)))
theorem RdR.below {B : Nat} {w w' : World} {v : Value} {cs : List Int} (h : RdR B w v cs) (hb : Below B w w') : RdR B w' v cs := by
  obtain ⟨a, cap, hv, h1, h2, h3⟩ := h
  refine ⟨a, cap, hv, h1, h2, ?_⟩
  rcases h3 with h3 | ⟨b, off, ha, hbB, hc⟩
  · exact Or.inl h3
  · exact Or.inr ⟨b, off, ha, hbB, fun j hj => (hb.cell (p := ⟨b, off + j, none⟩) hbB).trans (hc j hj)⟩
theorem RdR.mono {B B' : Nat} {w : World} {v : Value} {cs : List Int} (h : RdR B w v cs) (hB : B ≤ B') : RdR B' w v cs := by
  obtain ⟨a, cap, hv, h1, h2, h3⟩ := h
  refine ⟨a, cap, hv, h1, h2, ?_⟩
  rcases h3 with h3 | ⟨b, off, ha, hbB, hc⟩
  · exact Or.inl h3
  · exact Or.inr ⟨b, off, ha, by omega, hc⟩

/-- Where a run that begins at i ends. -/
def runEnd (p : Int → Bool) (cs : List Int) (i : Nat) : Nat := i + ((cs.drop i).takeWhile p).length
theorem runEnd_is {p : Int → Bool} {cs : List Int} {i j : Nat} (hij : i ≤ j) (hj : j ≤ cs.length) (h : ∀ k, i ≤ k → k < j → p (cs.getD k 0) = true) (he : j = cs.length ∨ p (cs.getD j 0) = false) : runEnd p cs i = j := by
  unfold runEnd
  induction hd : j - i generalizing i with
  | zero =>
    obtain rfl : i = j := by omega
    rcases he with rfl | he
    · simp
    · by_cases hl : i < cs.length
      · rw [List.drop_eq_getElem_cons hl]
        have : cs.getD i 0 = cs[i] := by simp [List.getD, hl]
        rw [this] at he
        rw [List.takeWhile_cons, if_neg (by rw [he]; decide)]; rfl
      · rw [List.drop_eq_nil_of_le (by omega)]; simp
  | succ n ih =>
    have hl : i < cs.length := by omega
    have hp := h i (Nat.le_refl _) (by omega)
    have e : cs.getD i 0 = cs[i] := by simp [List.getD, hl]
    rw [e] at hp
    rw [List.drop_eq_getElem_cons hl, List.takeWhile_cons, if_pos hp, List.length_cons]
    have := ih (i := i + 1) (by omega) (fun k k1 k2 => h k (by omega) k2) (by omega)
    omega

end Go.Proofs.YtnlmjibdifbnbaaGreat

/- array.measured and array.Right of a scalar of a right number. -/
namespace Go.Proofs.YtnlmjibdifbnbaaGreat
set_option linter.unusedVariables false
set_option linter.unusedSimpArgs false
open Go.RowKit

section
variable {w : World} {base k : Nat} {b : Bool} {ns ds : List Int}
theorem BoxA.set0 {w : World} {R ty : Nat} {u0 u1 : Value} (h : BoxA w R ty #[u0, u1]) (u : Value) : BoxA (w.setCell ⟨R, 0, none⟩ u) R ty #[u, u1] := by
  unfold BoxA at h ⊢
  simp [World.setCell, Array.getElem?_modify, h]
theorem BoxA.set1 {w : World} {R ty : Nat} {u0 u1 : Value} (h : BoxA w R ty #[u0, u1]) (u : Value) : BoxA (w.setCell ⟨R, 1, none⟩ u) R ty #[u0, u] := by
  unfold BoxA at h ⊢
  simp [World.setCell, Array.getElem?_modify, h]

set_option maxRecDepth 100000 in
set_option maxHeartbeats 16000000 in
theorem measured_num (hN : NumAt base w k b ns ds) (hr : RightP b ns ds) :
    Calls Tryz.prog 30 #[.agg #[.slice none 0 0, .slice (some ⟨k, 0, none⟩) 1 1], .int .i64 16] w fun e w' => ∃ x y, e = .returned (.tuple #[.agg #[.int .i64 x, .int .i64 y], .bool true]) ∧ Below w.heap.size w w' := by
  have HR : Hid (RightP b ns ds) := hr
  clear hr
  have A0 := boxA_new w #[.slice none 0 0, .slice (some ⟨k, 0, none⟩) 1 1] 25
  have k0 := below_alloc w (.cells #[.slice none 0 0, .slice (some ⟨k, 0, none⟩) 1 1] 25)
  have k1 := below_alloc (w.alloc (.cells #[.slice none 0 0, .slice (some ⟨k, 0, none⟩) 1 1] 25)) (.cells #[.int .i64 0, .int .i64 0] 64)
  have R := boxA_new (w.alloc (.cells #[.slice none 0 0, .slice (some ⟨k, 0, none⟩) 1 1] 25)) #[.int .i64 0, .int .i64 0] 64
  rw [World.size_alloc] at R
  have A := A0.below k1 (by simp)
  have g : Below w.heap.size w _ := k0.trans (k1.mono (by simp))
  have sv : ((w.alloc (.cells #[.slice none 0 0, .slice (some ⟨k, 0, none⟩) 1 1] 25)).alloc (.cells #[.int .i64 0, .int .i64 0] 64)).heap.size = w.heap.size + 1 + 1 := by simp
  have N1 := (hN.below k0 (Nat.le_refl _)).below k1 (by simp)
  have hkw := hN.lt
  clear hN k0 k1 A0
  have a0 := A.cell 0 rfl
  have a1 := A.cell 1 rfl
  go_enter Tryz.func30, Tryz.ntmps30
  go_wp2_with fail
  generalize hA : (w.alloc (.cells #[.slice none 0 0, .slice (some ⟨k, 0, none⟩) 1 1] 25)).alloc (.cells #[.int .i64 0, .int .i64 0] 64) = v at *
  clear hA
  refine (arrSize_none 0 _).mono ?_
  rintro e w1 ⟨rfl, rfl⟩
  have W0 := boxA_new w1 #[.int .i64 1, .int .i64 1] 64
  rw [sv] at W0
  have kW := below_alloc w1 (.cells #[.int .i64 1, .int .i64 1] 64)
  have A1 := A.below kW (by omega)
  have b0 := A1.cell 0 rfl
  have b1 := A1.cell 1 rfl
  go_wp2
  go_loopw [41] (fun s wr => ∃ j : Nat, j ≤ 1 ∧ s = .int .i64 j ∧ BoxA wr (w.heap.size + 1 + 1) 64 #[.int .i64 1, .int .i64 1] ∧ Below w1.heap.size w1 wr) (fun s _ => 1 - (intOf s).toNat)
  case atStart => exact ⟨0, by omega, rfl, W0, kW⟩
  case round =>
    clear W0 kW A1 b0 b1 a0 a1
    obtain ⟨j, hj, rfl, W, kr⟩ := hrel
    have sr := kr.size
    have Ar := A.below kr (by omega)
    have Nr := N1.below kr (Nat.le_refl _)
    have Rr := R.below kr (by omega)
    have c0 := Ar.cell 0 rfl
    have c1 := Ar.cell 1 rfl
    have hWlt := W.lt
    by_cases h0 : j = 0
    · subst h0
      obtain ⟨hbk, x1, y1, x2, y2, hB, o1, o2⟩ := Nr
      obtain ⟨i0, i1, i2, i3, i4, i5⟩ := hB.num
      have ki := below_alloc wr (.cells #[.int .u8 1, .bool b, .slice x1 ns.length y1, .slice x2 ds.length y2, .int .i32 0, .slice none 0 0] 42)
      have si := ki.size
      go_wp2_with fail
      generalize hA : wr.alloc (.cells #[.int .u8 1, .bool b, .slice x1 ns.length y1, .slice x2 ds.length y2, .int .i32 0, .slice none 0 0] 42) = wi at *
      clear hA
      have p1 := ((o1.below ki (Nat.le_refl _)).rd)
      have p2 := ((o2.below ki (Nat.le_refl _)).rd)
      refine (measuredItem_num _ p1 p2 HR.out).mono ?_
      rintro e wm ⟨rfl, km⟩
      have kp := below_alloc wm (.cells #[.int .i64 0, .int .i64 0] 64)
      have P := boxA_new wm #[.int .i64 0, .int .i64 0] 64
      have Wp := ((W.below ki (by omega)).below km (by omega)).below kp (by have := km.size; omega)
      have w0 := Wp.cell 0 rfl
      have w1c := Wp.cell 1 rfl
      have fw0 := Wp.frozen 0
      have fw1 := Wp.frozen 1
      have q0 := P.cell 0 rfl
      have q1 := P.cell 1 rfl
      have W1 := Wp.set0 (.int .i64 1)
      have W2 := W1.set1 (.int .i64 1)
      have e0 := W1.cell 0 rfl
      have e1 := W1.cell 1 rfl
      have fe0 := W1.frozen 0
      have fe1 := W1.frozen 1
      have P1 := P.other (p := ⟨w.heap.size + 1 + 1, 0, none⟩) (show w.heap.size + 1 + 1 ≠ wm.heap.size by have := km.size; omega) (.int .i64 1)
      have e2 := P1.cell 0 rfl
      have e3 := P1.cell 1 rfl
      have d0 := W2.cell 0 rfl
      have d1 := W2.cell 1 rfl
      have hwe : w1.heap.size ≤ w.heap.size + 1 + 1 := by omega
      have T : Below w1.heap.size w1 (((wm.alloc (.cells #[.int .i64 0, .int .i64 0] 64)).setCell ⟨w.heap.size + 1 + 1, 0, none⟩ (.int .i64 1)).setCell ⟨w.heap.size + 1 + 1, 1, none⟩ (.int .i64 1)) := (((((kr.trans (ki.mono sr)).trans (km.mono (by omega))).trans (kp.mono (by have := km.size; omega))).setCell (p := ⟨w.heap.size + 1 + 1, 0, none⟩) hwe _).setCell (p := ⟨w.heap.size + 1 + 1, 1, none⟩) hwe _)
      go_wp2
      go_roundw
      case rel => exact ⟨1, by omega, by go_num, W2, T⟩
      case measure => simp [intOf]
    · obtain rfl : j = 1 := by omega
      obtain ⟨hbk, x1, y1, x2, y2, hB, o1, o2⟩ := Nr
      go_wp2_with fail
      refine (isSimple_num hB).mono ?_
      rintro e ws ⟨rfl, ks⟩
      have Ws := W.below ks (by omega)
      have Rs := Rr.below ks (by omega)
      have w0 := Ws.cell 0 rfl
      have w1c := Ws.cell 1 rfl
      have fw0 := Ws.frozen 0
      have fw1 := Ws.frozen 1
      have W1 := Ws.set0 (.int .i64 0)
      have e0 := W1.cell 0 rfl
      have e1 := W1.cell 1 rfl
      have R1 := Rs.other (p := ⟨w.heap.size + 1 + 1, 0, none⟩) (show w.heap.size + 1 + 1 ≠ w.heap.size + 1 by omega) (.int .i64 0)
      have q0 := R1.cell 0 rfl
      have q1 := R1.cell 1 rfl
      have f0 := R1.frozen 0
      have f1 := R1.frozen 1
      have T : Below w.heap.size w (ws.setCell ⟨w.heap.size + 1 + 1, 0, none⟩ (.int .i64 0)) := ((g.trans (kr.mono (by omega))).trans (ks.mono (by omega))).setCell (p := ⟨w.heap.size + 1 + 1, 0, none⟩) (show w.heap.size ≤ w.heap.size + 1 + 1 by omega) _
      go_wp2
      have R2 := R1.set2 (.int .i64 0) (.int .i64 1)
      have r0 := R2.cell 0 rfl
      have r1 := R2.cell 1 rfl
      refine bodyPost_ret (v := .tuple #[.agg #[.int .i64 0, .int .i64 1], .bool true]) (by simp [results, Tryz.results30, go_sem, r0, r1]) rfl ?_
      exact ⟨0, 1, rfl, Below.set2 T (by omega) _ _⟩

set_option maxRecDepth 100000 in
set_option maxHeartbeats 3200000 in
theorem arrRight_num (hN : NumAt base w k b ns ds) (hr : RightP b ns ds) :
    Calls Tryz.prog 13 #[.agg #[.slice none 0 0, .slice (some ⟨k, 0, none⟩) 1 1]] w fun e w' => e = .returned (.bool true) ∧ Below w.heap.size w w' := by
  have A := boxA_new w #[.slice none 0 0, .slice (some ⟨k, 0, none⟩) 1 1] 25
  have k0 := below_alloc w (.cells #[.slice none 0 0, .slice (some ⟨k, 0, none⟩) 1 1] 25)
  have N1 := hN.below k0 (Nat.le_refl _)
  have HR : Hid (RightP b ns ds) := hr
  clear hr
  have a0 := A.cell 0 rfl
  have a1 := A.cell 1 rfl
  go_enter Tryz.func13, Tryz.ntmps13
  go_wp2_with fail
  generalize hA : w.alloc (.cells #[.slice none 0 0, .slice (some ⟨k, 0, none⟩) 1 1] 25) = v at *
  clear hA
  refine (measured_num N1 HR.out).mono ?_
  rintro e w1 ⟨x, y, rfl, k1⟩
  go_wp2
  go_ret
  exact ⟨rfl, (k0.trans (k1.mono k0.size)).alloc (by have := k0.size; have := k1.size; omega) _⟩
end
end Go.Proofs.YtnlmjibdifbnbaaGreat

/- array.Match of two scalars of the same number. -/
namespace Go.Proofs.YtnlmjibdifbnbaaGreat
set_option linter.unusedVariables false
set_option linter.unusedSimpArgs false
open Go.RowKit

section
variable {w : World} {b : Bool} {a1 a2 a3 a4 : Option Addr} {c1 c2 c3 c4 : Nat} {ns ds : List Int} {base base' k j : Nat}
set_option maxRecDepth 100000 in
set_option maxHeartbeats 6400000 in
theorem sameItem_num (h1 : Rd w.heap.size w (.slice a1 ns.length c1) ns) (h2 : Rd w.heap.size w (.slice a2 ds.length c2) ds) (h3 : Rd w.heap.size w (.slice a3 ns.length c3) ns) (h4 : Rd w.heap.size w (.slice a4 ds.length c4) ds) :
    Calls Tryz.prog 56 #[.agg #[.int .u8 1, .bool b, .slice a1 ns.length c1, .slice a2 ds.length c2, .int .i32 0, .slice none 0 0], .agg #[.int .u8 1, .bool b, .slice a3 ns.length c3, .slice a4 ds.length c4, .int .i32 0, .slice none 0 0]] w fun e w' => e = .returned (.bool true) ∧ Below w.heap.size w w' := by
  have X0 := boxA_new w #[.int .u8 1, .bool b, .slice a1 ns.length c1, .slice a2 ds.length c2, .int .i32 0, .slice none 0 0] 42
  have k0 := below_alloc w (.cells #[.int .u8 1, .bool b, .slice a1 ns.length c1, .slice a2 ds.length c2, .int .i32 0, .slice none 0 0] 42)
  have k1 := below_alloc (w.alloc (.cells #[.int .u8 1, .bool b, .slice a1 ns.length c1, .slice a2 ds.length c2, .int .i32 0, .slice none 0 0] 42)) (.cells #[.int .u8 1, .bool b, .slice a3 ns.length c3, .slice a4 ds.length c4, .int .i32 0, .slice none 0 0] 42)
  have Y := boxA_new (w.alloc (.cells #[.int .u8 1, .bool b, .slice a1 ns.length c1, .slice a2 ds.length c2, .int .i32 0, .slice none 0 0] 42)) #[.int .u8 1, .bool b, .slice a3 ns.length c3, .slice a4 ds.length c4, .int .i32 0, .slice none 0 0] 42
  rw [World.size_alloc] at Y
  have X := X0.below k1 (by simp)
  have g : Below w.heap.size w _ := k0.trans (k1.mono (by simp))
  have sv : ((w.alloc (.cells #[.int .u8 1, .bool b, .slice a1 ns.length c1, .slice a2 ds.length c2, .int .i32 0, .slice none 0 0] 42)).alloc (.cells #[.int .u8 1, .bool b, .slice a3 ns.length c3, .slice a4 ds.length c4, .int .i32 0, .slice none 0 0] 42)).heap.size = w.heap.size + 1 + 1 := by simp
  replace h1 := h1.below g
  replace h2 := h2.below g
  replace h3 := h3.below g
  replace h4 := h4.below g
  have hbb : (b == b) = true := by simp
  obtain ⟨X0', X1, X2, X3, X4, X5⟩ := X.num
  obtain ⟨Y0', Y1, Y2, Y3, Y4, Y5⟩ := Y.num
  go_enter Tryz.func56, Tryz.ntmps56
  go_wp2_with fail
  clear X0' X1 X2 X3 X4 X5 Y0' Y1 Y2 Y3 Y4 Y5
  generalize hA : (w.alloc (.cells #[.int .u8 1, .bool b, .slice a1 ns.length c1, .slice a2 ds.length c2, .int .i32 0, .slice none 0 0] 42)).alloc (.cells #[.int .u8 1, .bool b, .slice a3 ns.length c3, .slice a4 ds.length c4, .int .i32 0, .slice none 0 0] 42) = v at *
  clear hA k0 k1 X0
  refine (equal_rd h1 h3).mono ?_
  rintro e w1 ⟨rfl, j1⟩
  have s1 := j1.size
  obtain ⟨X0', X1, X2, X3, X4, X5⟩ := (X.below j1 (by omega)).num
  obtain ⟨Y0', Y1, Y2, Y3, Y4, Y5⟩ := (Y.below j1 (by omega)).num
  go_wp2_with fail
  clear X0' X1 X2 X3 X4 X5 Y0' Y1 Y2 Y3 Y4 Y5
  refine (equal_rd (h2.below (j1.mono (by omega))) (h4.below (j1.mono (by omega)))).mono ?_
  rintro e w2 ⟨rfl, j2⟩
  go_wp2
  go_ret
  exact ⟨rfl, (g.trans (j1.mono g.size)).trans (j2.mono (by omega))⟩

set_option maxRecDepth 100000 in
set_option maxHeartbeats 6400000 in
theorem equalFunc_num (hX : NumAt base w k b ns ds) (hY : NumAt base' w j b ns ds) :
    Calls Tryz.prog 55 #[.slice (some ⟨k, 0, none⟩) 1 1, .slice (some ⟨j, 0, none⟩) 1 1, .func (.func 56) #[] #[]] w fun e w' => e = .returned (.bool true) ∧ Below w.heap.size w w' := by
  go_enter Tryz.func55, Tryz.ntmps55
  go_wp2
  go_loopw [17] (fun s wr => ∃ i : Nat, i ≤ 1 ∧ s = .int .i64 i ∧ Below w.heap.size w wr) (fun s _ => 1 - (intOf s).toNat)
  case atStart => exact ⟨0, by omega, rfl, Below.refl _ _⟩
  case round =>
    obtain ⟨i, hi, rfl, kr⟩ := hrel
    have sr := kr.size
    by_cases h0 : i = 0
    · subst h0
      obtain ⟨_, x1, y1, x2, y2, hB, o1, o2⟩ := hX.below kr (Nat.le_refl _)
      obtain ⟨_, x3, y3, x4, y4, hC, o3, o4⟩ := hY.below kr (Nat.le_refl _)
      have ki := below_alloc wr (.cells #[.int .u8 1, .bool b, .slice x1 ns.length y1, .slice x2 ds.length y2, .int .i32 0, .slice none 0 0] 42)
      have kj := below_alloc (wr.alloc (.cells #[.int .u8 1, .bool b, .slice x1 ns.length y1, .slice x2 ds.length y2, .int .i32 0, .slice none 0 0] 42)) (.cells #[.int .u8 1, .bool b, .slice x3 ns.length y3, .slice x4 ds.length y4, .int .i32 0, .slice none 0 0] 42)
      have kk : Below wr.heap.size wr _ := ki.trans (kj.mono ki.size)
      have hBi := hB.below ki hB.lt
      have hCi := hC.below ki hC.lt
      have I := boxA_new wr #[.int .u8 1, .bool b, .slice x1 ns.length y1, .slice x2 ds.length y2, .int .i32 0, .slice none 0 0] 42
      have Ij := I.below kj I.lt
      have J := boxA_new (wr.alloc (.cells #[.int .u8 1, .bool b, .slice x1 ns.length y1, .slice x2 ds.length y2, .int .i32 0, .slice none 0 0] 42)) #[.int .u8 1, .bool b, .slice x3 ns.length y3, .slice x4 ds.length y4, .int .i32 0, .slice none 0 0] 42
      rw [World.size_alloc] at J
      obtain ⟨i0, i1, i2, i3, i4, i5⟩ := hB.num
      obtain ⟨l0, l1, l2, l3, l4, l5⟩ := hCi.num
      obtain ⟨m0, m1, m2, m3, m4, m5⟩ := Ij.num
      obtain ⟨n0, n1, n2, n3, n4, n5⟩ := J.num
      have p1 := (o1.below kk (Nat.le_refl _)).rd
      have p2 := (o2.below kk (Nat.le_refl _)).rd
      have p3 := (o3.below kk (Nat.le_refl _)).rd
      have p4 := (o4.below kk (Nat.le_refl _)).rd
      go_wp2_with fail
      refine (sameItem_num p1 p2 p3 p4).mono ?_
      rintro e wm ⟨rfl, km⟩
      have T : Below w.heap.size w wm := (kr.trans (kk.mono sr)).trans (km.mono (by have := kk.size; omega))
      go_wp2
      go_roundw
      case rel => exact ⟨1, by omega, by go_num, T⟩
      case measure => simp [intOf]
    · obtain rfl : i = 1 := by omega
      go_wp2
      go_ret
      exact ⟨rfl, kr⟩

set_option maxRecDepth 100000 in
set_option maxHeartbeats 6400000 in
theorem arrSame_num (hX : NumAt base w k b ns ds) (hY : NumAt base' w j b ns ds) :
    Calls Tryz.prog 28 #[.agg #[.slice none 0 0, .slice (some ⟨k, 0, none⟩) 1 1], .agg #[.slice none 0 0, .slice (some ⟨j, 0, none⟩) 1 1]] w fun e w' => e = .returned (.bool true) ∧ Below w.heap.size w w' := by
  have A0 := boxA_new w #[.slice none 0 0, .slice (some ⟨k, 0, none⟩) 1 1] 25
  have k0 := below_alloc w (.cells #[.slice none 0 0, .slice (some ⟨k, 0, none⟩) 1 1] 25)
  have k1 := below_alloc (w.alloc (.cells #[.slice none 0 0, .slice (some ⟨k, 0, none⟩) 1 1] 25)) (.cells #[.slice none 0 0, .slice (some ⟨j, 0, none⟩) 1 1] 25)
  have C := boxA_new (w.alloc (.cells #[.slice none 0 0, .slice (some ⟨k, 0, none⟩) 1 1] 25)) #[.slice none 0 0, .slice (some ⟨j, 0, none⟩) 1 1] 25
  rw [World.size_alloc] at C
  have A := A0.below k1 (by simp)
  have g : Below w.heap.size w _ := k0.trans (k1.mono (by simp))
  have X1 := hX.below g (Nat.le_refl _)
  have Y1 := hY.below g (Nat.le_refl _)
  have a0 := A.cell 0 rfl
  have a1 := A.cell 1 rfl
  have d0 := C.cell 0 rfl
  have d1 := C.cell 1 rfl
  go_enter Tryz.func28, Tryz.ntmps28
  go_wp2_with fail
  generalize hA : (w.alloc (.cells #[.slice none 0 0, .slice (some ⟨k, 0, none⟩) 1 1] 25)).alloc (.cells #[.slice none 0 0, .slice (some ⟨j, 0, none⟩) 1 1] 25) = v at *
  clear hA
  refine (equal_shape none none 0 0 _).mono ?_
  rintro e w1 ⟨rfl, rfl⟩
  go_wp2_with fail
  refine (equalFunc_num X1 Y1).mono ?_
  rintro e w2 ⟨rfl, k2⟩
  go_wp2
  go_ret
  exact ⟨rfl, g.trans (k2.mono g.size)⟩

set_option maxRecDepth 100000 in
set_option maxHeartbeats 6400000 in
theorem match_num (hX : NumAt base w k b ns ds) (hY : NumAt base' w j b ns ds) (hr : RightP b ns ds) :
    Calls Tryz.prog 11 #[.agg #[.slice none 0 0, .slice (some ⟨k, 0, none⟩) 1 1], .agg #[.slice none 0 0, .slice (some ⟨j, 0, none⟩) 1 1]] w fun e w' => e = .returned (.bool true) ∧ Below w.heap.size w w' := by
  have HR : Hid (RightP b ns ds) := hr
  clear hr
  have A0 := boxA_new w #[.slice none 0 0, .slice (some ⟨k, 0, none⟩) 1 1] 25
  have k0 := below_alloc w (.cells #[.slice none 0 0, .slice (some ⟨k, 0, none⟩) 1 1] 25)
  have k1 := below_alloc (w.alloc (.cells #[.slice none 0 0, .slice (some ⟨k, 0, none⟩) 1 1] 25)) (.cells #[.slice none 0 0, .slice (some ⟨j, 0, none⟩) 1 1] 25)
  have C := boxA_new (w.alloc (.cells #[.slice none 0 0, .slice (some ⟨k, 0, none⟩) 1 1] 25)) #[.slice none 0 0, .slice (some ⟨j, 0, none⟩) 1 1] 25
  rw [World.size_alloc] at C
  have A := A0.below k1 (by simp)
  have g : Below w.heap.size w _ := k0.trans (k1.mono (by simp))
  have X1 := hX.below g (Nat.le_refl _)
  have Y1 := hY.below g (Nat.le_refl _)
  have sv : ((w.alloc (.cells #[.slice none 0 0, .slice (some ⟨k, 0, none⟩) 1 1] 25)).alloc (.cells #[.slice none 0 0, .slice (some ⟨j, 0, none⟩) 1 1] 25)).heap.size = w.heap.size + 1 + 1 := by simp
  have a0 := A.cell 0 rfl
  have a1 := A.cell 1 rfl
  go_enter Tryz.func11, Tryz.ntmps11
  go_wp2_with fail
  generalize hA : (w.alloc (.cells #[.slice none 0 0, .slice (some ⟨k, 0, none⟩) 1 1] 25)).alloc (.cells #[.slice none 0 0, .slice (some ⟨j, 0, none⟩) 1 1] 25) = v at *
  clear hA a0 a1
  refine (arrRight_num X1 HR.out).mono ?_
  rintro e w1 ⟨rfl, j1⟩
  have s1 := j1.size
  have C1 := C.below j1 (by omega)
  have d0 := C1.cell 0 rfl
  have d1 := C1.cell 1 rfl
  go_wp2_with fail
  clear d0 d1
  refine (arrRight_num (Y1.below j1 (Nat.le_refl _)) HR.out).mono ?_
  rintro e w2 ⟨rfl, j2⟩
  have s2 := j2.size
  have t2 : Below v.heap.size v w2 := j1.trans (j2.mono s1)
  have A2 := A.below t2 (by omega)
  have C2 := C.below t2 (by omega)
  have a0 := A2.cell 0 rfl
  have a1 := A2.cell 1 rfl
  have d0 := C2.cell 0 rfl
  have d1 := C2.cell 1 rfl
  go_wp2_with fail
  refine (arrSame_num (X1.below t2 (Nat.le_refl _)) (Y1.below t2 (Nat.le_refl _))).mono ?_
  rintro e w3 ⟨rfl, j3⟩
  go_wp2
  go_ret
  exact ⟨rfl, (g.trans (t2.mono g.size)).trans (j3.mono (by omega))⟩
end
end Go.Proofs.YtnlmjibdifbnbaaGreat

/- What texts of numbers answer, in one form; a number's text is read back. -/
namespace Go.Proofs.YtnlmjibdifbnbaaGreat
set_option linter.unusedVariables false
set_option linter.unusedSimpArgs false
open Go.RowKit

theorem Cuts.fix {l A H A' H' : List UInt8} {B B' : Bool} {m m' : Int} (h : Cuts l B m A H) (k : Cuts l B' m' A' H') : B = B' ∧ m = m' ∧ A = A' ∧ H = H' := by
  obtain ⟨k1, ⟨k2, k3, k4, k5⟩ | ⟨x, hx, k2, k3, k4⟩⟩ := k
  · obtain ⟨h1, ⟨h2, h3, h4, h5⟩ | ⟨x, hx, h2, h3, h4⟩⟩ := h
    · exact ⟨by rw [h1, k1], by rw [h2, k2], by rw [h3, k3], by rw [h4, k4]⟩
    · exfalso
      rw [← k3] at h3
      exact k5 x (by rw [h3]; simp) hx
  · obtain ⟨e1, e2, e3⟩ := cuts_unique h hx k3 k4
    exact ⟨h.1.trans k1.symm, e1.trans k2.symm, e2, e3⟩

/-- What a text's parts make, as numbers. -/
def PartSpec (B : Bool) (m : Int) (A H : List UInt8) (b : Bool) (ns ds : List Int) (err : Int) : Prop :=
  ((¬ isNum A ∨ (¬ m = 0 ∧ ¬ isNum H)) ∧ err = 22 ∧ b = false ∧ ns = [] ∧ ds = []) ∨ (isNum A ∧ m = 0 ∧ MakeSpec (sg B (dval A)) 1 b ns ds err) ∨
  (isNum A ∧ isNum H ∧ m = 114 ∧ MakeSpec (sg B (dval A)) (dval H) b ns ds err) ∨ (isNum A ∧ isNum H ∧ m = 46 ∧ MakeSpec (sg B ((dval A * 10 ^ H.length + dval H : Nat) : Int)) ((10 ^ H.length : Nat) : Int) b ns ds err)
theorem PartSpec.unique {B : Bool} {m : Int} {A H : List UInt8} {b c : Bool} {ns ds ms es : List Int} {e f : Int} (h : PartSpec B m A H b ns ds e) (k : PartSpec B m A H c ms es f) : c = b ∧ ms = ns ∧ es = ds ∧ f = e := by
  rcases h with ⟨h1, rfl, rfl, rfl, rfl⟩ | ⟨h1, h2, h3⟩ | ⟨h1, h2, h3, h4⟩ | ⟨h1, h2, h3, h4⟩ <;> rcases k with ⟨k1, rfl, rfl, rfl, rfl⟩ | ⟨k1, k2, k3⟩ | ⟨k1, k2, k3, k4⟩ | ⟨k1, k2, k3, k4⟩
  · exact ⟨rfl, rfl, rfl, rfl⟩
  · exfalso; rcases h1 with h | h
    · exact h k1
    · exact h.1 k2
  · exfalso; rcases h1 with h | h
    · exact h k1
    · exact h.2 k2
  · exfalso; rcases h1 with h | h
    · exact h k1
    · exact h.2 k2
  · exfalso; rcases k1 with h | h
    · exact h h1
    · exact h.1 h2
  · exact h3.unique k3
  · omega
  · omega
  · exfalso; rcases k1 with h | h
    · exact h h1
    · exact h.2 h2
  · omega
  · exact h4.unique k4
  · omega
  · exfalso; rcases k1 with h | h
    · exact h h1
    · exact h.2 h2
  · omega
  · omega
  · exact h4.unique k4
/-- What a text is read as. -/
def TextSpec (s : ByteArray) (b : Bool) (ns ds : List Int) (err : Int) : Prop :=
  (700 < Lib.runeCount s ∧ err = 8 ∧ b = false ∧ ns = [] ∧ ds = []) ∨ (¬ 700 < Lib.runeCount s ∧ ∃ B m A H, Cuts s.data.toList B m A H ∧ PartSpec B m A H b ns ds err)
theorem TextSpec.unique {s : ByteArray} {b c : Bool} {ns ds ms es : List Int} {e f : Int} (h : TextSpec s b ns ds e) (k : TextSpec s c ms es f) : c = b ∧ ms = ns ∧ es = ds ∧ f = e := by
  rcases h with ⟨h1, rfl, rfl, rfl, rfl⟩ | ⟨h1, B, m, A, H, h2, h3⟩ <;> rcases k with ⟨k1, rfl, rfl, rfl, rfl⟩ | ⟨k1, B', m', A', H', k2, k3⟩
  · exact ⟨rfl, rfl, rfl, rfl⟩
  · exact absurd h1 k1
  · exact absurd k1 h1
  · obtain ⟨rfl, rfl, rfl, rfl⟩ := h2.fix k2
    exact h3.unique k3
theorem RParses.spec {w w' : World} {s : ByteArray} {e : Ending} (h : RParses w s e w') : ∃ b ns ds err, Hid (TextSpec s b ns ds err) ∧ RAns w b ns ds err e w' := by
  obtain ⟨hb, ⟨h7, he⟩ | ⟨h7, B, m, A, H, hc, hp⟩⟩ := h
  · exact ⟨false, [], [], 8, Or.inl ⟨h7, rfl, rfl, rfl, rfl⟩, hb, none, 0, none, 0, he, nil_rd _, nil_rd _⟩
  · rcases hp with ⟨h1, he⟩ | ⟨h1, h2, h3⟩ | ⟨h1, h2, h3, h4, he⟩ | ⟨h1, h2, h3, h4, h5⟩ | ⟨h1, h2, h3, h4⟩
    · exact ⟨false, [], [], 22, Or.inr ⟨h7, B, m, A, H, hc, Or.inl ⟨h1, rfl, rfl, rfl, rfl⟩⟩, hb, none, 0, none, 0, he, nil_rd _, nil_rd _⟩
    · obtain ⟨b, ns, ds, err, hs, hr⟩ := h3.spec (by decide)
      exact ⟨b, ns, ds, err, Or.inr ⟨h7, B, m, A, H, hc, Or.inr (Or.inl ⟨h1, h2, hs.out⟩)⟩, hr⟩
    · refine ⟨false, [], [], 22, Or.inr ⟨h7, B, m, A, H, hc, Or.inr (Or.inr (Or.inl ⟨h1, h2, h3, Or.inl ⟨?_, rfl, rfl, rfl, rfl⟩⟩))⟩, hb, none, 0, none, 0, he, nil_rd _, nil_rd _⟩
      rw [h4]; rfl
    · obtain ⟨b, ns, ds, err, hs, hr⟩ := h5.spec (by omega)
      exact ⟨b, ns, ds, err, Or.inr ⟨h7, B, m, A, H, hc, Or.inr (Or.inr (Or.inl ⟨h1, h2, h3, hs.out⟩))⟩, hr⟩
    · obtain ⟨b, ns, ds, err, hs, hr⟩ := h4.spec (Int.natCast_pos.2 (Nat.pow_pos (by decide)))
      exact ⟨b, ns, ds, err, Or.inr ⟨h7, B, m, A, H, hc, Or.inr (Or.inr (Or.inr ⟨h1, h2, h3, hs.out⟩))⟩, hr⟩

theorem runeCount_le (s : ByteArray) : ∀ fuel pos, pos ≤ s.size → pos + Lib.runeCountFrom s fuel pos ≤ s.size
  | 0, pos, h => by unfold Lib.runeCountFrom; omega
  | f + 1, pos, h => by
    unfold Lib.runeCountFrom
    by_cases hp : pos < s.size
    · rw [if_pos hp]
      have h1 := Lib.decode_width_pos s pos hp
      have h2 := dec_end s pos hp
      have ih := runeCount_le s f (pos + (Utf8.decode s pos).2) h2
      omega
    · rw [if_neg hp]; omega

/-- A right number that is made anew of itself. -/
theorem make_self {b c : Bool} {ns ds ms es : List Int} {err : Int} (hr : RightP b ns ds) (h : MakeSpec (sg b (val ns)) (val ds) c ms es err) : err = 0 ∧ c = b ∧ ms = ns ∧ es = ds := by
  have hD : 0 < val ds := (right_pos hr).1
  rcases h with ⟨h0, _⟩ | ⟨_, _, _, _, _, hb⟩ | ⟨_, he, hr', hv⟩
  · omega
  · exact absurd hb (not_big hr rfl hD)
  · obtain ⟨rfl, rfl, rfl⟩ := right_is hr rfl hD hr' hv
    exact ⟨he, rfl, rfl, rfl⟩

theorem dig_not {n : Nat} {y : UInt8} (h : y ∈ Lib.decDigits n) : ¬ isM y ∧ ¬ y.toNat = 194 := by
  have := (dval_decDigits n).2.1 y h
  unfold isM
  omega
theorem isNum_dig (n : Nat) : isNum (Lib.decDigits n) := ⟨(dval_decDigits n).2.1, (dval_decDigits n).2.2⟩
theorem not_mac (n : Nat) (l : List UInt8) : isMac (Lib.decDigits n ++ l) = false := by
  cases h : Lib.decDigits n with
  | nil => have := (dval_decDigits n).2.2; rw [h] at this; simp at this
  | cons a k =>
    have ha := (dig_not (n := n) (y := a) (by rw [h]; simp)).2
    cases hk : k ++ l with
    | nil => simp [isMac, hk]
    | cons c r => simp [isMac, hk, ha]
theorem ratText_list (b : Bool) (ns ds : List Int) : (ratText b ns ds).data.toList = (if b = true then [194, 175] else []) ++ (Lib.decDigits (val ns).toNat ++ (if ds = [1] then [] else 114 :: Lib.decDigits (val ds).toNat)) := by
  unfold ratText digB
  by_cases h1 : ds = [1] <;> cases b <;> simp [h1, ByteArray.data_append]
theorem ratText_cuts (b : Bool) (ns ds : List Int) : Cuts (ratText b ns ds).data.toList b (if ds = [1] then 0 else 114) (Lib.decDigits (val ns).toNat) (if ds = [1] then [] else Lib.decDigits (val ds).toNat) := by
  rw [ratText_list]
  have hm : isMac ((if b = true then [194, 175] else []) ++ (Lib.decDigits (val ns).toNat ++ (if ds = [1] then [] else 114 :: Lib.decDigits (val ds).toNat))) = b := by
    cases b with
    | true => simp [isMac]
    | false => simp only [Bool.false_eq_true, if_false, List.nil_append]; exact not_mac _ _
  have hd : ((if b = true then [194, 175] else []) ++ (Lib.decDigits (val ns).toNat ++ (if ds = [1] then [] else 114 :: Lib.decDigits (val ds).toNat))).drop (st ((if b = true then [194, 175] else []) ++ (Lib.decDigits (val ns).toNat ++ (if ds = [1] then [] else 114 :: Lib.decDigits (val ds).toNat)))) = Lib.decDigits (val ns).toNat ++ (if ds = [1] then [] else 114 :: Lib.decDigits (val ds).toNat) := by
    unfold st
    rw [hm]
    cases b <;> simp
  refine ⟨hm.symm, ?_⟩
  rw [hd]
  by_cases h1 : ds = [1]
  · rw [if_pos h1, if_pos h1, if_pos h1, List.append_nil]
    exact Or.inl ⟨rfl, rfl, rfl, fun y hy => (dig_not hy).1⟩
  · rw [if_neg h1, if_neg h1, if_neg h1]
    exact Or.inr ⟨114, Or.inr rfl, rfl, rfl, fun y hy => (dig_not hy).1⟩
theorem ratText_size {b : Bool} {ns ds : List Int} (hr : RightP b ns ds) : (ratText b ns ds).size ≤ 700 := by
  have h1 := dig_bound hr.2.2.1.1
  have h2 := dig_bound hr.2.2.2.1.1
  have l1 := hr.1
  have l2 := hr.2.1
  have e : (ratText b ns ds).size = (ratText b ns ds).data.toList.length := by simp
  rw [e, ratText_list]
  generalize Lib.decDigits (val ns).toNat = A at *
  generalize Lib.decDigits (val ds).toNat = D at *
  by_cases h1 : ds = [1] <;> cases b <;> simp [h1] <;> omega
/-- A number's text is read as the number. -/
theorem TextSpec.back {b c : Bool} {ns ds ms es : List Int} {err : Int} (hr : RightP b ns ds) (h : TextSpec (ratText b ns ds) c ms es err) : err = 0 ∧ c = b ∧ ms = ns ∧ es = ds := by
  have hsz := ratText_size hr
  rcases h with ⟨h7, _⟩ | ⟨h7, B, m, A, H, hc, hp⟩
  · exfalso
    have := runeCount_le (ratText b ns ds) (ratText b ns ds).size 0 (Nat.zero_le _)
    unfold Lib.runeCount at h7
    omega
  · obtain ⟨rfl, rfl, rfl, rfl⟩ := (ratText_cuts b ns ds).fix hc
    have nv := (val_bound hr.2.2.1.1).1
    have dv := (right_pos hr).1
    have e1 : ((dval (Lib.decDigits (val ns).toNat) : Nat) : Int) = val ns := by rw [(dval_decDigits _).1]; omega
    have e2 : ((dval (Lib.decDigits (val ds).toNat) : Nat) : Int) = val ds := by rw [(dval_decDigits _).1]; omega
    have i1 := isNum_dig (val ns).toNat
    have i2 := isNum_dig (val ds).toNat
    by_cases h1 : ds = [1]
    · simp only [if_pos h1] at hp
      rcases hp with ⟨h2 | h2, _⟩ | ⟨_, _, h3⟩ | ⟨_, _, h3, _⟩ | ⟨_, _, h3, _⟩
      · exact absurd i1 h2
      · exact absurd rfl h2.1
      · rw [e1] at h3
        have v1 : val ds = 1 := by rw [h1]; decide
        rw [← v1] at h3
        exact make_self hr h3
      · exact absurd h3 (by decide)
      · exact absurd h3 (by decide)
    · simp only [if_neg h1] at hp
      rcases hp with ⟨h2 | h2, _⟩ | ⟨_, h3, _⟩ | ⟨_, _, _, h4⟩ | ⟨_, _, h3, _⟩
      · exact absurd i1 h2
      · exact absurd i2 h2.2
      · exact absurd h3 (by decide)
      · rw [e1, e2] at h4
        exact make_self hr h4
      · exact absurd h3 (by decide)
end Go.Proofs.YtnlmjibdifbnbaaGreat

/- lex: what is passed over, pieces, and numbers. -/
namespace Go.Proofs.YtnlmjibdifbnbaaGreat
set_option linter.unusedVariables false
set_option linter.unusedSimpArgs false
open Go.RowKit

/-- The first place from i on that is neither a blank nor in a remark. -/
def passTo (cs : List Int) (i : Nat) : Nat := if runEnd bl cs i < cs.length ∧ cs.getD (runEnd bl cs i) 0 = 9053 then cs.length else runEnd bl cs i
theorem runEnd_le (p : Int → Bool) (cs : List Int) (i : Nat) (hi : i ≤ cs.length) : i ≤ runEnd p cs i ∧ runEnd p cs i ≤ cs.length := by
  unfold runEnd
  have h := (List.takeWhile_sublist p (l := cs.drop i)).length_le
  rw [List.length_drop] at h
  omega

section
variable {w : World} {cs : List Int} {b off cap : Nat}
end

section
variable {w w' : World} {base k R ty : Nat} {b : Bool} {ns ds : List Int} {u0 u1 u2 u3 u4 : Value}
theorem NumAt.setC (h : NumAt base w k b ns ds) (hR : R < base) (i : Nat) (u : Value) : NumAt base (w.setCell ⟨R, i, none⟩ u) k b ns ds := by
  obtain ⟨h0, x1, y1, x2, y2, h1, h2, h3⟩ := h
  have hne : R ≠ k := by omega
  exact ⟨h0, x1, y1, x2, y2, h1.other (p := ⟨R, i, none⟩) hne _, h2.setCell (a := ⟨R, i, none⟩) (ownBlock_ne h2 hR) _, h3.setCell (a := ⟨R, i, none⟩) (ownBlock_ne h3 hR) _⟩
theorem BoxA.set34 (h : BoxA w R ty #[u0, u1, u2, u3, u4]) (u v : Value) : BoxA ((w.setCell ⟨R, 3, none⟩ u).setCell ⟨R, 4, none⟩ v) R ty #[u0, u1, u2, u, v] := by
  unfold BoxA at h ⊢
  simp [World.setCell, Array.getElem?_modify, h]
theorem BoxA.set5 (h : BoxA w R ty #[u0, u1, u2, u3, u4]) (v0 v1 v2 v3 v4 : Value) : BoxA (((((w.setCell ⟨R, 0, none⟩ v0).setCell ⟨R, 1, none⟩ v1).setCell ⟨R, 2, none⟩ v2).setCell ⟨R, 3, none⟩ v3).setCell ⟨R, 4, none⟩ v4) R ty #[v0, v1, v2, v3, v4] := by
  unfold BoxA at h ⊢
  simp [World.setCell, Array.getElem?_modify, h]
theorem Below.set5 (h : Below base w w') (hB : base ≤ R) (v0 v1 v2 v3 v4 : Value) : Below base w (((((w'.setCell ⟨R, 0, none⟩ v0).setCell ⟨R, 1, none⟩ v1).setCell ⟨R, 2, none⟩ v2).setCell ⟨R, 3, none⟩ v3).setCell ⟨R, 4, none⟩ v4) :=
  ((((h.setCell (p := ⟨R, 0, none⟩) hB _).setCell (p := ⟨R, 1, none⟩) hB _).setCell (p := ⟨R, 2, none⟩) hB _).setCell (p := ⟨R, 3, none⟩) hB _).setCell (p := ⟨R, 4, none⟩) hB _
theorem NumAt.set5 (h : NumAt base w k b ns ds) (hR : R < base) (v0 v1 v2 v3 v4 : Value) : NumAt base (((((w.setCell ⟨R, 0, none⟩ v0).setCell ⟨R, 1, none⟩ v1).setCell ⟨R, 2, none⟩ v2).setCell ⟨R, 3, none⟩ v3).setCell ⟨R, 4, none⟩ v4) k b ns ds :=
  ((((h.setC hR 0 v0).setC hR 1 v1).setC hR 2 v2).setC hR 3 v3).setC hR 4 v4
end

section
variable {w : World} {cs : List Int} {b off cap : Nat} {bx : Bool} {xn xd : List Int}
/-- A number's token. -/
def TokAns (w : World) (n : Nat) (T : ByteArray) (bx : Bool) (xn xd : List Int) (e : Ending) (w' : World) : Prop :=
  ∃ k, e = .returned (.tuple #[.agg #[.int .u8 1, .string T, .int .i64 0, .slice none 0 0, .slice (some ⟨k, 0, none⟩) 1 1], .int .i64 n, .int .i64 0]) ∧ NumAt w.heap.size w' k bx xn xd ∧ Below w.heap.size w w'

end
end Go.Proofs.YtnlmjibdifbnbaaGreat

/- lex.Runes of a text without bytes that are none. -/
namespace Go.Proofs.YtnlmjibdifbnbaaGreat
set_option linter.unusedVariables false
set_option linter.unusedSimpArgs false
open Go.RowKit

/-- The characters of a text from a place on. -/
def decs (s : ByteArray) : Nat → Nat → List Int
  | 0, _ => []
  | f + 1, pos => if pos < s.size then ((Utf8.decode s pos).1 : Int) :: decs s f (pos + (Utf8.decode s pos).2) else []
def OwnR (base : Nat) (w : World) (v : Value) (cs : List Int) : Prop := w.ownsRow base 21 1 v cs.length (cs.map (Value.int .i32))
theorem info_i32 : (Tryz.prog.info? 21).map (fun i => (i.zero, i.size, i.bytes)) = some (some (.int .i32 0), 1, 4) := by kernel_rfl
theorem OwnR.form {base : Nat} {w : World} {v : Value} {cs : List Int} (h : OwnR base w v cs) : ∃ a c, v = .slice a cs.length c := by
  obtain ⟨_, h | ⟨g, cap, cur, hv, _⟩⟩ := h
  · exact ⟨none, 0, by rw [h.1, h.2]⟩
  · exact ⟨_, cap, hv⟩
theorem OwnR.mono {base base' : Nat} {w : World} {v : Value} {cs : List Int} (h : OwnR base w v cs) (hB : base' ≤ base) : OwnR base' w v cs := by
  obtain ⟨h1, h | ⟨g, cap, cur, hv, hg, r⟩⟩ := h
  · exact ⟨h1, Or.inl h⟩
  · exact ⟨h1, Or.inr ⟨g, cap, cur, hv, by omega, r⟩⟩
theorem OwnR.below {base B : Nat} {w w' : World} {v : Value} {cs : List Int} (h : OwnR base w v cs) (hb : Below B w w') (hB : w.heap.size ≤ B) : OwnR base w' v cs := by
  obtain ⟨h1, h | ⟨g, cap, cur, hv, hg, hh, r⟩⟩ := h
  · exact ⟨h1, Or.inl h⟩
  · exact ⟨h1, Or.inr ⟨g, cap, cur, hv, hg, by rw [hb.block g (Nat.lt_of_lt_of_le (lt_of_block hh) hB)]; exact hh, r⟩⟩
theorem OwnR.rd {base : Nat} {w : World} {v : Value} {cs : List Int} (h : OwnR base w v cs) (h0 : 0 < cs.length) : ∃ g cap, v = .slice (some ⟨g, 0, none⟩) cs.length cap ∧ g < w.heap.size ∧ cs.length ≤ cap ∧ cap ≤ 9223372036854775807 ∧ ∀ j, j < cs.length → w.cell? ⟨g, 0 + j, none⟩ = some (.int .i32 (cs.getD j 0)) := by
  have hrow := h
  obtain ⟨_, h | ⟨g, cap, cur, hv, hg, hh, h1, h2, _, _⟩⟩ := h
  · omega
  · subst hv
    refine ⟨g, cap, rfl, lt_of_block hh, h1, by unfold maxLen at h2; omega, fun j hj => ?_⟩
    have := hrow.cellAt j (by omega)
    rw [Nat.zero_add, this]
    simp [List.getD, hj]
theorem OwnR.empty {base : Nat} {w : World} {v : Value} (h : OwnR base w v []) : ∃ a c, v = .slice a 0 c := h.form

end Go.Proofs.YtnlmjibdifbnbaaGreat

/- array.Text: the characters of a text, as an iterator tells them. -/
namespace Go.Proofs.YtnlmjibdifbnbaaGreat
set_option linter.unusedVariables false
set_option linter.unusedSimpArgs false
open Go.RowKit Go.Shelf

attribute [local go_sem] Oper.semAt_some

/-- The cells of a character as an item. -/
def chCells (c : Int) : List Value := [.int .u8 2, .bool false, .slice none 0 0, .slice none 0 0, .int .i32 c, .slice none 0 0]
def chEncs (c : Int) : Array Value := #[.agg #[.int .u8 2, .bool false, .slice none 0 0, .slice none 0 0, .int .i32 c, .slice none 0 0]]
structure KeepC (n₀ : Nat) (W W' : World) : Prop where
  below : Below n₀ W W'
  others : KeepsWalks W W'
theorem KeepC.trans {n₀ : Nat} {A B C : World} (h : KeepC n₀ A B) (k : KeepC n₀ B C) : KeepC n₀ A C := ⟨h.below.trans k.below, h.others.trans k.others⟩

set_option maxRecDepth 100000 in
theorem character_any (c : Int) (w : World) : Calls Tryz.prog 77 #[.int .i32 c] w fun e w' => e = .returned (.agg #[.int .u8 2, .bool false, .slice none 0 0, .slice none 0 0, .int .i32 c, .slice none 0 0]) ∧ w' = w.alloc (.cells #[.int .u8 2, .bool false, .slice none 0 0, .slice none 0 0, .int .i32 c, .slice none 0 0] 42) := by
  have R := boxA_new w #[.int .u8 2, .bool false, .slice none 0 0, .slice none 0 0, .int .i32 c, .slice none 0 0] 42
  go_enter Tryz.func77, Tryz.ntmps77
  go_wp2
  have r0 := R.cell 0 rfl
  have r1 := R.cell 1 rfl
  have r2 := R.cell 2 rfl
  have r3 := R.cell 3 rfl
  have r4 := R.cell 4 rfl
  have r5 := R.cell 5 rfl
  refine bodyPost_ret (v := .agg #[.int .u8 2, .bool false, .slice none 0 0, .slice none 0 0, .int .i32 c, .slice none 0 0]) (by simp [results, Tryz.results77, go_sem, r0, r1, r2, r3, r4, r5]) rfl ?_
  exact ⟨rfl, rfl⟩

end Go.Proofs.YtnlmjibdifbnbaaGreat

/- The characters of a number's text. -/
namespace Go.Proofs.YtnlmjibdifbnbaaGreat
set_option linter.unusedVariables false
set_option linter.unusedSimpArgs false
open Go.RowKit

def ofB (l : List UInt8) : List Int := l.map (fun b => (b.toNat : Int))
theorem decs_ascii (s : ByteArray) : ∀ (f pos : Nat), s.size ≤ pos + f → pos ≤ s.size → (∀ j, pos ≤ j → j < s.size → (s.get! j).toNat < 128) → decs s f pos = ofB (s.data.toList.drop pos)
  | 0, pos, h, hp, _ => by
    have : s.data.toList.length = s.size := by simp
    rw [decs, List.drop_eq_nil_of_le (by omega)]; rfl
  | f + 1, pos, h, hp, ha => by
    have hl : s.data.toList.length = s.size := by simp
    rw [decs]
    by_cases hlt : pos < s.size
    · rw [if_pos hlt]
      have hd := dec_ascii s pos hlt (ha pos (Nat.le_refl _) hlt)
      have hg := get_data s pos hlt
      rw [List.getElem?_eq_getElem (by omega)] at hg
      rw [hd, List.drop_eq_getElem_cons (by omega), Option.some.inj hg]
      simp only
      rw [decs_ascii s f (pos + 1) (by omega) (by omega) (fun j h1 h2 => ha j (by omega) h2)]
      rfl
    · rw [if_neg hlt, List.drop_eq_nil_of_le (by omega)]; rfl

theorem runesBytes_from (ns : List Int) : ∀ s : ByteArray, ns.foldl (fun r n => r ++ Utf8.encode n) s = s ++ runesBytes ns := by
  induction ns with
  | nil => intro s; simp [runesBytes]
  | cons n ns ih =>
    intro s
    have e : runesBytes (n :: ns) = (ByteArray.empty ++ Utf8.encode n) ++ runesBytes ns := by
      rw [runesBytes, List.foldl_cons, ih]
    rw [List.foldl_cons, ih, e]
    simp [ByteArray.append_assoc]
theorem runesBytes_cons (n : Int) (ns : List Int) : (runesBytes (n :: ns)).data.toList = (Utf8.encode n).data.toList ++ (runesBytes ns).data.toList := by
  rw [runesBytes, List.foldl_cons, runesBytes_from]
  simp
theorem encode_ascii (c : Nat) (h : c < 128) : (Utf8.encode (c : Int)).data.toList = [UInt8.ofNat c] := by
  have hv : Utf8.valid (c : Int) = true := by
    simp [Utf8.valid]; omega
  unfold Utf8.encode
  simp only [hv, if_true, Int.toNat_natCast]
  rw [if_pos (by omega)]
theorem runesBytes_ascii (l : List UInt8) (h : ∀ b ∈ l, b.toNat < 128) : (runesBytes (ofB l)).data.toList = l := by
  induction l with
  | nil => rfl
  | cons b l ih =>
    have e : ofB (b :: l) = (b.toNat : Int) :: ofB l := rfl
    rw [e, runesBytes_cons, encode_ascii _ (h b (by simp)), ih (fun c hc => h c (by simp [hc]))]
    simp

theorem ofB_get (l : List UInt8) (k : Nat) (hk : k < l.length) : (ofB l).getD k 0 = ((l[k]).toNat : Int) := by
  unfold ofB
  simp [List.getD, hk]
theorem dg_of {x : UInt8} (h : 48 ≤ x.toNat ∧ x.toNat ≤ 57) : dg (x.toNat : Int) = true := by
  unfold dg; simp; omega
/-- A number's text behind its sign. -/
def numTail (ns ds : List Int) : List UInt8 := Lib.decDigits (val ns).toNat ++ (if ds = [1] then [] else 114 :: Lib.decDigits (val ds).toNat)
theorem numTail_in (ns ds : List Int) : ∀ x ∈ numTail ns ds, (48 ≤ x.toNat ∧ x.toNat ≤ 57) ∨ x.toNat = 114 := by
  intro x hx
  unfold numTail at hx
  rw [List.mem_append] at hx
  rcases hx with hx | hx
  · exact Or.inl ((dval_decDigits _).2.1 x hx)
  · by_cases h1 : ds = [1]
    · rw [if_pos h1] at hx; simp at hx
    · rw [if_neg h1] at hx
      rcases List.mem_cons.1 hx with rfl | hx
      · exact Or.inr rfl
      · exact Or.inl ((dval_decDigits _).2.1 x hx)
theorem numTail_first (ns ds : List Int) : ∃ x l, numTail ns ds = x :: l ∧ 48 ≤ x.toNat ∧ x.toNat ≤ 57 := by
  unfold numTail
  cases h : Lib.decDigits (val ns).toNat with
  | nil => have := (dval_decDigits (val ns).toNat).2.2; rw [h] at this; simp at this
  | cons x k => exact ⟨x, _, rfl, (dval_decDigits (val ns).toNat).2.1 x (by rw [h]; simp)⟩
theorem inn_of {x : UInt8} (h : (48 ≤ x.toNat ∧ x.toNat ≤ 57) ∨ x.toNat = 114) : inn (x.toNat : Int) = true := by
  unfold inn
  rcases h with h | h
  · rw [dg_of h]; rfl
  · rw [h]; decide
theorem get_of_list (s : ByteArray) {l k : List UInt8} (h : s.data.toList = k ++ l) (j : Nat) (hj : k.length ≤ j) (hs : j < s.size) : s.get! j ∈ l := by
  have hg := get_data s j hs
  rw [h, List.getElem?_append_right hj] at hg
  exact List.mem_of_getElem? hg

/-- What the characters of a number's text are. -/
theorem ratText_decs (b : Bool) (ns ds : List Int) : decs (ratText b ns ds) (ratText b ns ds).size 0 = (if b = true then [175] else []) ++ ofB (numTail ns ds) := by
  have hl := ratText_list b ns ds
  obtain ⟨s, hs⟩ : ∃ s, ratText b ns ds = s := ⟨_, rfl⟩
  rw [hs] at hl ⊢
  have hsz : s.data.toList.length = s.size := by simp
  have ha := numTail_in ns ds
  cases b with
  | false =>
    simp only [Bool.false_eq_true, if_false, List.nil_append] at hl ⊢
    have hl' : s.data.toList = [] ++ numTail ns ds := hl
    rw [decs_ascii s s.size 0 (by omega) (by omega) (fun j _ h2 => by have := ha _ (get_of_list s hl' j (by simp) h2); omega), List.drop_zero, hl]
    rfl
  | true =>
    simp only [if_true] at hl ⊢
    have hl' : s.data.toList = [194, 175] ++ numTail ns ds := hl
    have hm : isMac s.data.toList = true := by rw [hl']; rfl
    have h2 : 2 ≤ s.size := by rw [← hsz, hl']; simp
    have hd := dec_mac s (by omega)
    have e1 := hd.1.2 hm
    have e2 := hd.2 e1
    obtain ⟨f, hf⟩ : ∃ f, s.size = f + 1 := ⟨s.size - 1, by omega⟩
    rw [hf, decs, if_pos (by omega), e1, e2, Nat.zero_add]
    rw [decs_ascii s f 2 (by omega) (by omega) (fun j h1 h2 => by have := ha _ (get_of_list s hl' j (by simpa using h1) h2); omega), hl']
    rfl
theorem ratText_runes (b : Bool) (ns ds : List Int) : ∃ cs, cs = decs (ratText b ns ds) (ratText b ns ds).size 0 ∧
    (∀ c ∈ cs, ¬ c = 65533) ∧ 0 < cs.length ∧ (cs.getD 0 0 = 175 ∨ dg (cs.getD 0 0) = true) ∧ (∀ k, 1 ≤ k → k < cs.length → inn (cs.getD k 0) = true) ∧ runesBytes cs = ratText b ns ds ∧ bl (cs.getD 0 0) = false ∧ ¬ cs.getD 0 0 = 9053 := by
  refine ⟨_, rfl, ?_⟩
  rw [ratText_decs]
  have hl := ratText_list b ns ds
  have ha := numTail_in ns ds
  obtain ⟨x, l, hx, hx1, hx2⟩ := numTail_first ns ds
  have hmem : ∀ c ∈ ofB (numTail ns ds), 48 ≤ c ∧ c ≤ 114 := by
    intro c hc
    obtain ⟨y, hy, rfl⟩ := List.mem_map.1 hc
    have := ha y hy
    omega
  have hlt : ∀ y ∈ numTail ns ds, y.toNat < 128 := fun y hy => by have := ha y hy; omega
  have hext : ∀ {t : ByteArray} {m : List UInt8}, t.data.toList = m → (ratText b ns ds).data.toList = m → t = ratText b ns ds := fun h1 h2 => ByteArray.ext (Array.toList_inj.1 (h1.trans h2.symm))
  have hlen : (ofB (numTail ns ds)).length = (numTail ns ds).length := by simp [ofB]
  have hin : ∀ k, k < (numTail ns ds).length → inn ((ofB (numTail ns ds)).getD k 0) = true := fun k hk => by
    rw [ofB_get _ _ hk]
    exact inn_of (ha _ (List.getElem_mem hk))
  cases b with
  | false =>
    simp only [Bool.false_eq_true, if_false, List.nil_append] at hl ⊢
    have e0 : (ofB (numTail ns ds)).getD 0 0 = (x.toNat : Int) := by rw [hx]; rfl
    refine ⟨fun c hc => by have := hmem c hc; omega, by rw [hlen, hx]; simp, Or.inr (by rw [e0]; exact dg_of ⟨hx1, hx2⟩), fun k _ h2 => hin k (by omega), ?_, ?_, ?_⟩
    · exact hext (runesBytes_ascii _ hlt) hl
    · rw [e0]; unfold bl; simp; omega
    · rw [e0]; omega
  | true =>
    simp only [if_true] at hl ⊢
    refine ⟨?_, by simp, Or.inl rfl, ?_, ?_, (show bl (175 : Int) = false by decide), (show ¬ (175 : Int) = 9053 by decide)⟩
    · intro c hc
      rcases List.mem_cons.1 hc with rfl | hc
      · decide
      · have := hmem c hc; omega
    · intro k h1 h2
      obtain ⟨j, rfl⟩ : ∃ j, k = j + 1 := ⟨k - 1, by omega⟩
      have e : ([175] ++ ofB (numTail ns ds) : List Int).getD (j + 1) 0 = (ofB (numTail ns ds)).getD j 0 := by simp [List.getD]
      rw [e]
      refine hin j ?_
      simp at h2
      omega
    · refine hext (m := [194, 175] ++ numTail ns ds) ?_ hl
      have e : ([175] ++ ofB (numTail ns ds) : List Int) = 175 :: ofB (numTail ns ds) := rfl
      rw [e, runesBytes_cons, runesBytes_ascii _ hlt]
      rfl
end Go.Proofs.YtnlmjibdifbnbaaGreat

/- lex.tokens at a number's text: what its iterator tells. -/
namespace Go.Proofs.YtnlmjibdifbnbaaGreat
set_option linter.unusedVariables false
set_option linter.unusedSimpArgs false
open Go.RowKit Go.Shelf

attribute [local go_sem] Oper.semAt_some

/-- A token: its kind, text and place, and where its array's items lie. -/
structure Tok where
  kd : Int
  tx : ByteArray
  pl : Int
  ia : Option Addr
  il : Nat
  ic : Nat
def Tok.cells (x : Tok) : List Value := [.int .u8 x.kd, .string x.tx, .int .i64 x.pl, .slice none 0 0, .slice x.ia x.il x.ic]
def Tok.encs (x : Tok) : Array Value := #[.agg #[.int .u8 x.kd, .string x.tx, .int .i64 x.pl, .slice none 0 0, .slice x.ia x.il x.ic], .int .i64 0]
/-- What a round keeps: what lay below n₀, the block Bn, and items that are numbers. -/
structure KeepT (n₀ Bn : Nat) (W W' : World) : Prop where
  below : Below n₀ W W'
  box : W'.heap[Bn]? = W.heap[Bn]?
  num : ∀ base k b ns ds, NumAt base W k b ns ds → NumAt base W' k b ns ds
theorem KeepT.trans {n₀ Bn : Nat} {A B C : World} (h : KeepT n₀ Bn A B) (k : KeepT n₀ Bn B C) : KeepT n₀ Bn A C := ⟨h.below.trans k.below, k.box.trans h.box, fun _ _ _ _ _ hN => k.num _ _ _ _ _ (h.num _ _ _ _ _ hN)⟩
/-- The number's token, and the end. -/
def numTok (T : ByteArray) (k : Nat) : Tok := ⟨1, T, 0, some ⟨k, 0, none⟩, 1, 1⟩
def endTok (n : Nat) : Tok := ⟨0, ⟨#[]⟩, n, none, 0, 0⟩

theorem passTo_end (cs : List Int) : passTo cs cs.length = cs.length := by
  have h := runEnd_le bl cs cs.length (Nat.le_refl _)
  unfold passTo
  rw [if_neg (by omega)]
  omega
theorem passTo_first {cs : List Int} (h0 : 0 < cs.length) (hb : bl (cs.getD 0 0) = false) (hr : ¬ cs.getD 0 0 = 9053) : passTo cs 0 = 0 := by
  have e : runEnd bl cs 0 = 0 := runEnd_is (Nat.le_refl _) (Nat.zero_le _) (fun k k1 k2 => by omega) (Or.inr hb)
  unfold passTo
  rw [e, if_neg (fun h => hr h.2)]

end Go.Proofs.YtnlmjibdifbnbaaGreat

/- lex.All at a number's text. -/
namespace Go.Proofs.YtnlmjibdifbnbaaGreat
set_option linter.unusedVariables false
set_option linter.unusedSimpArgs false
open Go.RowKit Go.Shelf

attribute [local go_sem] Oper.semAt_some

/-- The type of what lies in a block. -/
def tyOf : Obj → Option TypeId | .cells _ t _ => some t | _ => none
theorem tyOf_none {o : Obj} (h : o.isCells = false) : tyOf o = none := by
  cases o <;> first | rfl | (simp [Obj.isCells] at h)
/-- A step that turns one block, neither an item nor limbs, leaves a number's item. -/
theorem NumAt.kept {base k : Nat} {W W' : World} {b : Bool} {ns ds : List Int} {row : Option Nat} (h : NumAt base W k b ns ds) (hg : W.grownBy W' row) (hr : ∀ r, row = some r → ∃ o, W.heap[r]? = some o ∧ tyOf o ≠ some 42 ∧ tyOf o ≠ some 71) : NumAt base W' k b ns ds := by
  obtain ⟨h0, x1, y1, x2, y2, hB, o1, o2⟩ := h
  have ob : ∀ {v : Value} {xs : List Int}, Own base W v xs → Own base W' v xs := fun {v xs} ho => by
    refine ho.grown hg ?_
    by_cases hv : v.ownBlock = none
    · exact Or.inl hv
    · refine Or.inr (fun e => ?_)
      obtain ⟨_, _, h | ⟨g, cap, cur, rfl, _, hh, _⟩⟩ := ho
      · rw [h.1] at hv; exact hv rfl
      · obtain ⟨o, ho', _, h2⟩ := hr g e.symm
        rw [hh] at ho'
        cases ho'
        exact h2 rfl
  refine ⟨h0, x1, y1, x2, y2, ?_, ob o1, ob o2⟩
  have hlt := hB.lt
  unfold BoxA at hB ⊢
  rw [hg.block k hlt (fun e => ?_)]
  · exact hB
  · obtain ⟨o, ho', h1, _⟩ := hr k e.symm
    rw [hB] at ho'
    cases ho'
    exact h1 rfl
theorem keepT_put {n₀ Bn B0 : Nat} (h1 : n₀ ≤ B0) (h2 : Bn < B0) (W : World) (l : Nat) (o o' : Obj) (hl : B0 ≤ l) (ho : W.heap[l]? = some o) (hc : o.isCells = false) : KeepT n₀ Bn W (W.putObj l o') :=
  ⟨(Below.refl _ W).grown (grownBy_putObj' W l o') (by have := (Array.getElem?_eq_some_iff.1 ho).1; omega) (fun k e => by cases e; omega), World.putObj_heap_other (by omega),
    fun _ _ _ _ _ h => h.kept (grownBy_putObj' W l o') (fun r e => by cases e; exact ⟨o, ho, by rw [tyOf_none hc]; simp, by rw [tyOf_none hc]; simp⟩)⟩
theorem BoxA.grown {W W' : World} {B ty : Nat} {xs : Array Value} {row : Option Nat} (h : BoxA W B ty xs) (hg : W.grownBy W' row) (hr : row ≠ some B) : BoxA W' B ty xs := by
  have hlt := h.lt
  unfold BoxA at h ⊢
  rw [hg.block B hlt (fun e => hr e.symm)]; exact h

theorem BoxA.put1 {W : World} {B ty : Nat} {u : Value} (h : BoxA W B ty #[u]) (v : Value) : BoxA (W.setCell ⟨B, 0, none⟩ v) B ty #[v] := by
  unfold BoxA at h ⊢
  simp [World.setCell, Array.getElem?_modify, h]
theorem row_ty {W : World} {base e size n : Nat} {v : Value} {xs : List Value} (h : W.ownsRow base e size v n xs) : ∀ j, v.ownBlock = some j → ∃ o, W.heap[j]? = some o ∧ tyOf o = some e ∧ o.isCells = true := by
  intro j hj
  obtain ⟨_, h | ⟨g, cap, cur, rfl, _, hh, _⟩⟩ := h
  · rw [h.1] at hj; cases hj
  · cases hj
    exact ⟨_, hh, rfl, rfl⟩
theorem row_form {W : World} {base e size n : Nat} {v : Value} {xs : List Value} (h : W.ownsRow base e size v (n + 1) xs) : ∃ g cap, v = .slice (some ⟨g, 0, none⟩) (n + 1) cap := by
  obtain ⟨_, h | ⟨g, cap, cur, rfl, _⟩⟩ := h
  · omega
  · exact ⟨g, cap, rfl⟩

end Go.Proofs.YtnlmjibdifbnbaaGreat

/- array.vector over the characters of a text. -/
namespace Go.Proofs.YtnlmjibdifbnbaaGreat
set_option linter.unusedVariables false
set_option linter.unusedSimpArgs false
open Go.RowKit Go.Shelf

attribute [local go_sem] Oper.semAt_some

theorem info_item : (Tryz.prog.info? 42).map (fun i => (i.zero, i.size, i.bytes)) = some (some (.agg #[.int .u8 0, .bool false, .slice none 0 0, .slice none 0 0, .int .i32 0, .slice none 0 0]), 6, 96) := by kernel_rfl
theorem row_form2 {W : World} {base e size n : Nat} {v : Value} {xs : List Value} (h : W.ownsRow base e size v n xs) : ∃ a cap, v = .slice a n cap := by
  obtain ⟨_, h | ⟨g, cap, cur, rfl, _⟩⟩ := h
  · obtain ⟨rfl, rfl, _⟩ := h; exact ⟨_, _, rfl⟩
  · exact ⟨_, cap, rfl⟩
theorem row_mono {W : World} {base base' e size n : Nat} {v : Value} {xs : List Value} (h : W.ownsRow base e size v n xs) (hb : base' ≤ base) : W.ownsRow base' e size v n xs := by
  obtain ⟨h1, h | ⟨g, cap, cur, h2, h3, h4⟩⟩ := h
  · exact ⟨h1, .inl h⟩
  · exact ⟨h1, .inr ⟨g, cap, cur, h2, Nat.le_trans hb h3, h4⟩⟩
theorem keepC_put {n₀ B0 : Nat} (h1 : n₀ ≤ B0) (W : World) (l : Nat) (o o' : Obj) (hl : B0 ≤ l) (ho : W.heap[l]? = some o) (hw : o.isWalk = false) : KeepC n₀ W (W.putObj l o') :=
  ⟨(Below.refl _ W).grown (grownBy_putObj' W l o') (by have := (Array.getElem?_eq_some_iff.1 ho).1; omega) (fun k e => by cases e; omega), KeepsWalks.putObj _ ho hw⟩
/-- A list's variable and its own block, where no cells of it are turned. -/
theorem row_grown {A B W0 : World} {R ty e size n Z : Nat} {v : Value} {xs : List Value} {row : Option Nat} (b1 : BoxA A R ty #[v]) (b2 : A.ownsRow Z e size v n xs) (b3 : Below R W0 A) (hg : A.grownBy B row) (hR : R < Z) (hrow : ∀ k, row = some k → Z ≤ k ∧ ∃ o : Obj, A.heap[k]? = some o ∧ o.isCells = false) :
    BoxA B R ty #[v] ∧ B.ownsRow Z e size v n xs ∧ Below R W0 B := by
  have hne : row ≠ some R := fun e => by have := (hrow _ e).1; omega
  refine ⟨b1.grown hg hne, b2.kept hg ?_, b3.grown hg (by have := b1.lt; omega) (fun k e => by have := (hrow k e).1; omega)⟩
  by_cases hv : v.ownBlock = none
  · exact Or.inl hv
  · refine Or.inr (fun e => ?_)
    obtain ⟨_, h | ⟨g, cap, cur, rfl, _, hh, _⟩⟩ := b2
    · rw [h.1] at hv; exact hv rfl
    · obtain ⟨_, o, ho, hc⟩ := hrow g e.symm
      rw [hh] at ho
      cases ho
      cases hc
end Go.Proofs.YtnlmjibdifbnbaaGreat

/- array.Text. -/
namespace Go.Proofs.YtnlmjibdifbnbaaGreat
set_option linter.unusedVariables false
set_option linter.unusedSimpArgs false
open Go.RowKit Go.Shelf

/-- A vector of characters, as array.Text answers it: the shape, and the items, or the prototype of none. -/
structure TextAt (base : Nat) (w' : World) (v : Value) (ys : List Int) : Prop where
  form : ∃ g1 v2, v = .agg #[.slice (some ⟨g1, 0, none⟩) 1 1, v2] ∧ base ≤ g1 ∧ BoxA w' g1 3 #[.int .i64 ((ys.length : Nat) : Int)] ∧
      ((ys = [] ∧ ∃ g2, v2 = .slice (some ⟨g2, 0, none⟩) 1 1 ∧ base ≤ g2 ∧ BoxA w' g2 42 #[.int .u8 2, .bool false, .slice none 0 0, .slice none 0 0, .int .i32 32, .slice none 0 0]) ∨
        (ys ≠ [] ∧ w'.ownsRow base 42 6 v2 ys.length (ys.flatMap chCells)))

theorem TextAt.mono {b b' : Nat} {W : World} {v : Value} {ys : List Int} (h : TextAt b W v ys) (hb : b' ≤ b) : TextAt b' W v ys := by
  obtain ⟨g1, v2, rfl, h1, h2, h3⟩ := h.form
  refine ⟨_, _, rfl, by omega, h2, ?_⟩
  rcases h3 with ⟨h, g2, e, h4, h5⟩ | ⟨h, h4⟩
  · exact .inl ⟨h, g2, e, by omega, h5⟩
  · exact .inr ⟨h, row_mono h4 hb⟩
theorem TextAt.setC {n : Nat} {W : World} {v : Value} {ys : List Int} (h : TextAt (n + 1) W v ys) (i : Nat) (u : Value) : TextAt (n + 1) (W.setCell ⟨n, i, none⟩ u) v ys := by
  obtain ⟨g1, v2, rfl, h1, h2, h3⟩ := h.form
  refine ⟨_, _, rfl, h1, h2.other (p := ⟨n, i, none⟩) (show n ≠ g1 by omega) u, ?_⟩
  rcases h3 with ⟨h, g2, e, h4, h5⟩ | ⟨h, h4⟩
  · exact .inl ⟨h, g2, e, h4, h5.other (p := ⟨n, i, none⟩) (show n ≠ g2 by omega) u⟩
  · exact .inr ⟨h, ownsRow_setCell_other h4 (a := ⟨n, i, none⟩) (fun e => by have := (h4.lt _ e).1; simp at this; omega) u⟩
theorem TextAt.below {base : Nat} {W W' : World} {v : Value} {ys : List Int} (h : TextAt base W v ys) (hk : Below W.heap.size W W') : TextAt base W' v ys := by
  obtain ⟨g1, v2, rfl, h1, h2, h3⟩ := h.form
  refine ⟨_, _, rfl, h1, h2.below hk h2.lt, ?_⟩
  rcases h3 with ⟨h, g2, e, h4, h5⟩ | ⟨h, h4, h5 | ⟨g, cap, cur, h6, h7, h8, h9⟩⟩
  · exact .inl ⟨h, g2, e, h4, h5.below hk h5.lt⟩
  · exact .inr ⟨h, h4, .inl h5⟩
  · exact .inr ⟨h, h4, .inr ⟨g, cap, cur, h6, h7, (hk.block g (Array.getElem?_eq_some_iff.1 h8).1).trans h8, h9⟩⟩
end Go.Proofs.YtnlmjibdifbnbaaGreat

/- The document's Sign, OfInt, IsInt. -/
namespace Go.Proofs.YtnlmjibdifbnbaaGreat
set_option linter.unusedVariables false
set_option linter.unusedSimpArgs false
open Go.RowKit

section
variable {w : World} {bx : Bool} {a1 a2 : Option Addr} {c1 c2 : Nat} {xn xd : List Int}
end

theorem one_cmp {ds os : List Int} (ho : os = [1]) (cd : can ds) : cmpI (val ds) (val os) = 0 ↔ ds = [1] := by
  subst ho
  rw [cmpI_zero', one_val]
  constructor
  · intro h
    exact can_inj cd can_one (by rw [h, one_val])
  · rintro rfl
    exact one_val
section
variable {w : World} {b : Bool} {a1 a2 : Option Addr} {c1 c2 : Nat} {ns ds : List Int}
set_option maxRecDepth 100000 in
set_option maxHeartbeats 3200000 in
theorem refIsInt_rat (h1 : Rd w.heap.size w (.slice a1 ns.length c1) ns) (h2 : Rd w.heap.size w (.slice a2 ds.length c2) ds) :
    Calls Tryz.prog 34 #[.agg #[.bool b, .slice a1 ns.length c1, .slice a2 ds.length c2]] w fun e w' => TellsP (IsWhole b ns ds) e ∧ Below w.heap.size w w' := by
  have X := nvar_new (b := b) h1 h2
  have g := below_alloc w (.cells #[.bool b, .slice a1 ns.length c1, .slice a2 ds.length c2] 39)
  obtain ⟨x0, x1, x2⟩ := X.cells
  go_enter Tryz.func34, Tryz.ntmps34
  go_wp2_with fail
  clear x0 x1 x2
  generalize hA : w.alloc (.cells #[.bool b, .slice a1 ns.length c1, .slice a2 ds.length c2] 39) = v at *
  clear hA
  obtain ⟨x0, x1, x2⟩ := X.cells
  have hcells : ∀ {w' : World}, Below v.heap.size v w' → w'.cell? ⟨w.heap.size, 0, none⟩ = some (.bool b) ∧ w'.cell? ⟨w.heap.size, 1, none⟩ = some (.slice a1 ns.length c1) ∧ w'.cell? ⟨w.heap.size, 2, none⟩ = some (.slice a2 ds.length c2) := fun hb => (X.below hb).cells
  by_cases hP : RightP b ns ds
  · have HP : Hid (RightP b ns ds) := hP
    clear hP
    have l2 : ds.length * 4 ≤ 140737488355328 := by have := HP.out.2.1; omega
    go_region_held3 (fun w' => w'.cell? ⟨w.heap.size, 0, none⟩ = some (.bool b) ∧ w'.cell? ⟨w.heap.size, 1, none⟩ = some (.slice a1 ns.length c1) ∧ w'.cell? ⟨w.heap.size, 2, none⟩ = some (.slice a2 ds.length c2))
      (first | (go_keep; done) | exact tw | exact tw2 | exact tw3)
      (first
        | (go_at_call 65; refine (refRight_rat (w := v.drew) X.rn X.rd).mono ?_; rintro e wa ⟨⟨r, rfl, hr⟩, ka'⟩; obtain rfl : r = true := hr.2 HP.out; have ka : Below v.heap.size v wa := below_undrew (w := v) (B := v.heap.size) ka'; have tw := hcells ka; clear hr)
        | (have j := tw; go_at_call 70; refine (refOne_any _).mono ?_; rintro e wb ⟨os, x5, y5, HO, rfl, o5, kb⟩; have tb : Below v.heap.size v wb := ka.trans (kb.mono ka.size); have tw2 := hcells tb; have lo : os.length * 4 ≤ 140737488355328 := (by rw [HO.out]; decide))
        | (have j := tw2; go_at_call 69; refine (refCompare_rd (X.below tb).rd o5.rd (Nat.le_refl _) l2 lo).mono ?_; rintro e wc ⟨rfl, kc⟩; have tc : Below v.heap.size v wc := tb.trans (kc.mono tb.size); have tw3 := hcells tc; have hq : Hid (cmpI (val ds) (val os) = 0 ↔ ds = [1]) := (one_cmp HO.out HP.out.2.2.2.1)))
    by_cases hone : ds = [1]
    · have HD : Hid (ds = [1]) := hone
      have hqb : (cmpI (val ds) (val os) == 0) = true := by rw [beq_iff_eq]; exact hq.out.2 hone
      clear hone
      go_wp2
      go_ret
      exact ⟨⟨_, rfl, ⟨fun _ => ⟨HP.out, HD.out⟩, fun _ => hqb⟩⟩, g.trans (tc.mono g.size)⟩
    · have HD : Hid (¬ ds = [1]) := hone
      have hqb : (cmpI (val ds) (val os) == 0) = false := by rw [beq_eq_false_iff_ne]; exact fun h => hone (hq.out.1 h)
      clear hone
      go_wp2
      go_ret
      exact ⟨⟨_, rfl, ⟨fun h => absurd (h.symm.trans hqb) (by decide), fun h => absurd h.2 HD.out⟩⟩, g.trans (tc.mono g.size)⟩
  · have HP : Hid (¬ RightP b ns ds) := hP
    clear hP
    first
    | go_region_with (first
        | (go_at_call 65; refine (refRight_rat (w := v.drew) X.rn X.rd).mono ?_; rintro e wa ⟨⟨r, rfl, hr⟩, ka'⟩; have hrf : r = false := (by cases r with | false => rfl | true => exact absurd (hr.1 rfl) HP.out); subst hrf; have ka : Below v.heap.size v wa := below_undrew (w := v) (B := v.heap.size) ka'; have tw := hcells ka; clear hr))
    | fail
    all_goals
      go_wp2
      go_ret
      exact ⟨TellsP.no (fun h => HP.out h.1), g.trans (ka.mono g.size)⟩
end
end Go.Proofs.YtnlmjibdifbnbaaGreat

/- The document's Int, Num, Ints. -/
namespace Go.Proofs.YtnlmjibdifbnbaaGreat
set_option linter.unusedVariables false
set_option linter.unusedSimpArgs false
open Go.RowKit

theorem wpList_append_at {P : Program} (w : World) {ops : Array Oper} {rest : List Oper} {o : Oper} {a : Act} {Q : Exit → Act → World → Prop}
    (hg : o.guard = none) (s x : Operand) (t : TypeId) (hop : o.op = Op.call { callee := Callee.builtin Builtin.append, args := #[s, x], argTypes := #[t, t] })
    (base : Nat) (e : TypeId) (i : TypeInfo) (z : Value) (size bytes : Nat) (h1 : P.underlying t = some (.slice e)) (h2 : P.info? e = some i) (h3 : i.zero = some z) (h4 : i.size = size) (h5 : i.bytes = bytes) (h6 : z.cells.size = size) (h7 : 0 < size)
    (v : Value) (k : Nat) (xs : List Value) (hs : a.eval s = v) (hown : w.ownsRow base e size v k xs) (ad : Addr) (m c : Nat) (news : List Value) (hx : a.eval x = .slice (some ad) m c) (hn : news.length = m * size)
    (hc : ∀ j u, news[j]? = some u → w.cell? (ad.add j) = some u) (h1c : ∀ u ∈ news, u.oneCell' = true) (b1 : k + m ≤ maxLen) (b2 : (k + m) * bytes ≤ 140737488355328) (b3 : base ≤ w.heap.size)
    (hK : ∀ v' w', w'.ownsRow base e size v' (k + m) (xs ++ news) → w.grownBy w' v.ownBlock → (v'.ownBlock = v.ownBlock ∨ v'.ownBlock = some w.heap.size) → wpList P ops Q rest (a.put o.dst v') w') :
    wpList P ops Q (o :: rest) a w := by
  refine wpList_plain hg fun K hK' => ?_
  obtain ⟨v', w', hrun, r1, r2, r3, r4⟩ := run_append_own_at (P := P) w base t o.type e i z size bytes h1 h2 h3 h4 h5 h6 h7 v k xs hown ad m c news hn hc h1c b1 b2 b3
  unfold Oper.wp execOp
  simp only [hop, resolve, invoke, builtin, Sem.run_bind, Sem.run_pure, Result.andThen_ok, List.map_toArray, List.map_cons, List.map_nil, hs, hx, hrun]
  exact hK' _ _ (hK v' w' r1 r2 r4)
theorem own_s2 {base B : Nat} {w : World} {v : Value} {xs : List Int} (h : Own base w v xs) (hB : B < base) (u u' : Value) : Own base ((w.setCell ⟨B, 0, none⟩ u).setCell ⟨B, 1, none⟩ u') v xs := by
  have e : v.ownBlock ≠ some B := ownBlock_ne h hB
  exact (h.setCell (a := ⟨B, 0, none⟩) e _).setCell (a := ⟨B, 1, none⟩) e _
/-- A scalar of a number of its own: its one item lies in block k. -/
def ScalarW (w : World) (q : Int) (e : Ending) (w' : World) : Prop := ∃ k b ns ds z1 u1 z2 u2, Hid (WholeIs q b ns ds) ∧ e = .returned (.agg #[.slice none 0 0, .slice (some ⟨k, 0, none⟩) 1 1]) ∧ w.heap.size ≤ k ∧ BoxA w' k 42 #[.int .u8 1, .bool b, .slice z1 ns.length u1, .slice z2 ds.length u2, .int .i32 0, .slice none 0 0] ∧ Own w.heap.size w' (.slice z1 ns.length u1) ns ∧ Own w.heap.size w' (.slice z2 ds.length u2) ds ∧ Below w.heap.size w w'
end Go.Proofs.YtnlmjibdifbnbaaGreat

/- The document's Text and Char; texts as trees. -/
namespace Go.Proofs.YtnlmjibdifbnbaaGreat
set_option linter.unusedVariables false
set_option linter.unusedSimpArgs false
open Go.RowKit

theorem chRow_len : ∀ l : List Int, (l.flatMap chCells).length = l.length * 6
  | [] => rfl
  | c :: r => by
    have := chRow_len r
    rw [List.flatMap_cons, List.length_append, this, List.length_cons]
    simp [chCells]; omega
theorem chRow_get : ∀ (l : List Int) (j k : Nat), j < l.length → k < 6 → (l.flatMap chCells)[j * 6 + k]? = (chCells (l.getD j 0))[k]?
  | [], j, k, h, _ => by simp at h
  | c :: r, 0, k, _, hk => by
    rw [List.flatMap_cons, List.getElem?_append_left (by simp [chCells]; omega), Nat.zero_mul, Nat.zero_add]
    rfl
  | c :: r, j + 1, k, h, hk => by
    have := chRow_get r j k (by simp at h; omega) hk
    rw [List.flatMap_cons, List.getElem?_append_right (by simp [chCells]; omega)]
    simp only [chCells, List.length_cons, List.length_nil, List.getD_cons_succ]
    rw [show (j + 1) * 6 + k - (0 + 1 + 1 + 1 + 1 + 1 + 1) = j * 6 + k by omega]
    exact this
theorem chRow_snoc (l : List Int) (c : Int) : (l ++ [c]).flatMap chCells = l.flatMap chCells ++ [.int .u8 2, .bool false, .slice none 0 0, .slice none 0 0, .int .i32 c, .slice none 0 0] := by simp [chCells]
/-- A character as an item. -/
theorem itv_ch {P : Value → Value → Tr → Prop} {D : Nat → Prop} {w : World} (c : Int) : ItV P D w none 0 none 0 none 0 (charT c) := itv_none rfl rfl rfl
theorem ch_getD {l : List Int} {j : Nat} (h : j < l.length) : (l.map charT).getD j tr0 = charT (l.getD j 0) := by
  rw [List.getD_eq_getElem?_getD, List.getElem?_map, List.getElem?_eq_getElem h, List.getD_eq_getElem?_getD, List.getElem?_eq_getElem h]
  rfl
theorem chRow_rowB {W : World} {Z n : Nat} {v : Value} {l : List Int} (hn : l.length = n) (h : W.ownsRow Z 42 6 v n (l.flatMap chCells)) : RowB (Fr Z W.heap.size) n v (fun g o j => ItC (ArV 0 (Fr Z W.heap.size) W) (Fr Z W.heap.size) W g (o + j * 6) ((l.map charT).getD j tr0)) := by
  have hrow := h
  obtain ⟨_, h | ⟨g, cap, cur, hv, hg, hh, h2, h3, _, _⟩⟩ := h
  · obtain ⟨rfl, e2⟩ := h
    exact ⟨none, 0, by rw [e2], by omega, by omega, fun _ => rfl, Or.inl e2⟩
  · subst hv
    refine ⟨_, cap, rfl, h2, by unfold maxLen at h3; omega, (fun h => by cases h), Or.inr ⟨g, 0, rfl, ⟨hg, lt_of_block hh⟩, fun j hj => ?_⟩⟩
    have hc : ∀ k, k < 6 → W.cell? ⟨g, 0 + j * 6 + k, none⟩ = (chCells (l.getD j 0))[k]? := fun k hk => by
      have e := hrow.cellAt (j * 6 + k) (by omega)
      rw [chRow_get l j k (by omega) hk] at e
      rw [Nat.zero_add]; exact e
    have e0 := hc 0 (by omega)
    have e1 := hc 1 (by omega)
    have e2 := hc 2 (by omega)
    have e3 := hc 3 (by omega)
    have e4 := hc 4 (by omega)
    have e5 := hc 5 (by omega)
    rw [Nat.add_zero] at e0
    show ItC _ _ W g (0 + j * 6) ((l.map charT).getD j tr0)
    rw [ch_getD (show j < l.length by omega)]
    exact ⟨none, 0, none, 0, none, 0, ⟨e0, e1, e2, e3, e4, e5⟩, itv_ch _⟩
/-- A text as a tree. -/
def textT (l : List Int) : Tr := vecT (charT 32) (l.map charT)
theorem text_arv {base : Nat} {w : World} {v : Value} {l : List Int} (h : TextAt base w v (l.take 4096)) : ∃ z1 m1 u1 z2 m2 u2, v = .agg #[.slice z1 m1 u1, .slice z2 m2 u2] ∧ ArV 1 (Fr base w.heap.size) w (.slice z1 m1 u1) (.slice z2 m2 u2) (textT l) := by
  obtain ⟨g1, v2, rfl, h1, h2, h3⟩ := h.form
  have hl4 : (l.take 4096).length ≤ 4096 := by rw [List.length_take]; omega
  have hlm : ((l.map charT).take 4096).length = (l.take 4096).length := by rw [List.length_take, List.length_map, List.length_take]
  rcases h3 with ⟨he, g2, rfl, h4, h5⟩ | ⟨he, h4⟩
  · refine ⟨_, _, _, _, _, _, rfl, ?_⟩
    have hl : l.length = 0 := by
      have := congrArg List.length he
      rw [List.length_take] at this
      simp only [List.length_nil] at this
      omega
    have e1 : textT l = arrT [(((l.take 4096).length : Nat) : Int)] [charT 32] := by unfold textT vecT vecK; rw [if_pos (by rw [List.length_map]; exact hl), hlm]
    rw [e1]
    refine ⟨rdN_one h2 ⟨h1, h2.lt⟩ (by omega) (by omega), ?_⟩
    refine ⟨_, 1, rfl, Nat.le_refl _, by omega, (fun h => by cases h), Or.inr ⟨g2, 0, rfl, ⟨h4, h5.lt⟩, fun j hj => ?_⟩⟩
    have hj : j < 1 := hj
    obtain rfl : j = 0 := by omega
    exact itc_of (x := ⟨2, false, none, 0, 0, none, 0, 0, 32, none, 0, 0⟩) (isIt_ch (t := charT 32) rfl rfl rfl rfl rfl) h5
  · obtain ⟨a2, c2, rfl⟩ := row_form3 h4
    refine ⟨_, _, _, _, _, _, rfl, ?_⟩
    have hl : ¬ (l.map charT).length = 0 := by
      rw [List.length_map]
      intro h0
      exact he (by rw [List.eq_nil_of_length_eq_zero h0]; rfl)
    have e1 : textT l = arrT [(((l.take 4096).length : Nat) : Int)] ((l.map charT).take 4096) := by unfold textT vecT vecK; rw [if_neg hl, hlm]
    rw [e1]
    refine ⟨rdN_one h2 ⟨h1, h2.lt⟩ (by omega) (by omega), ?_⟩
    have hr := chRow_rowB rfl h4
    show RowB _ ((l.map charT).take 4096).length _ _
    rw [hlm, ← List.map_take]
    exact hr
end Go.Proofs.YtnlmjibdifbnbaaGreat

/- array.Char at a character that is one. -/
namespace Go.Proofs.YtnlmjibdifbnbaaGreat
set_option linter.unusedVariables false
set_option linter.unusedSimpArgs false
open Go.RowKit Go.Shelf

set_option maxRecDepth 100000 in
set_option maxHeartbeats 1600000 in
theorem scalar_ch (c : Int) (w : World) :
    Calls Tryz.prog 53 #[.agg #[.int .u8 2, .bool false, .slice none 0 0, .slice none 0 0, .int .i32 c, .slice none 0 0]] w fun e w' => ∃ k, e = .returned (.agg #[.slice none 0 0, .slice (some ⟨k, 0, none⟩) 1 1]) ∧ w.heap.size ≤ k ∧ BoxA w' k 42 #[.int .u8 2, .bool false, .slice none 0 0, .slice none 0 0, .int .i32 c, .slice none 0 0] ∧ Below w.heap.size w w' := by
  have g1 := (Below.refl w.heap.size w).alloc (Nat.le_refl _) (.cells #[.int .u8 2, .bool false, .slice none 0 0, .slice none 0 0, .int .i32 c, .slice none 0 0] 42)
  have g2 := g1.alloc (by simp) (.cells #[.slice none 0 0, .slice (some ⟨w.heap.size + 1 + 1, 0, none⟩) 1 1] 25)
  have g3 := g2.alloc (by simp; omega) (.cells #[.int .u8 2, .bool false, .slice none 0 0, .slice none 0 0, .int .i32 c, .slice none 0 0] 42)
  have hk := boxA_new ((w.alloc (.cells #[.int .u8 2, .bool false, .slice none 0 0, .slice none 0 0, .int .i32 c, .slice none 0 0] 42)).alloc (.cells #[.slice none 0 0, .slice (some ⟨w.heap.size + 1 + 1, 0, none⟩) 1 1] 25)) #[.int .u8 2, .bool false, .slice none 0 0, .slice none 0 0, .int .i32 c, .slice none 0 0] 42
  rw [World.size_alloc, World.size_alloc] at hk
  have hb := boxA_new (w.alloc (.cells #[.int .u8 2, .bool false, .slice none 0 0, .slice none 0 0, .int .i32 c, .slice none 0 0] 42)) #[.slice none 0 0, .slice (some ⟨w.heap.size + 1 + 1, 0, none⟩) 1 1] 25
  have hb2 := hb.below (below_alloc _ (.cells #[.int .u8 2, .bool false, .slice none 0 0, .slice none 0 0, .int .i32 c, .slice none 0 0] 42)) (by simp)
  rw [World.size_alloc] at hb2
  go_enter Tryz.func53, Tryz.ntmps53
  go_wp2
  have r0 := hb2.cell 0 rfl
  have r1 := hb2.cell 1 rfl
  refine bodyPost_ret (v := .agg #[.slice none 0 0, .slice (some ⟨w.heap.size + 1 + 1, 0, none⟩) 1 1]) (by simp [results, Tryz.results53, go_sem, r0, r1]) rfl ?_
  exact ⟨_, rfl, by omega, hk, g3⟩

theorem validRune_ok (c : Int) (w : World) (hv : (0 ≤ c ∧ c < 55296) ∨ (57343 < c ∧ c ≤ 1114111)) : Calls Tryz.prog 87 #[.int .i32 c] w fun e w' => e = .returned (.bool true) ∧ Below w.heap.size w w' := by
  go_enter Tryz.func87, Tryz.ntmps87
  rcases hv with ⟨h1, h2⟩ | ⟨h1, h2⟩
  · go_wp2
    go_ret
    exact ⟨rfl, Below.refl _ _⟩
  · go_wp2
    go_ret
    exact ⟨rfl, Below.refl _ _⟩
end Go.Proofs.YtnlmjibdifbnbaaGreat

/- lex: more sorts of characters; a character among those of a text; pieces of a line; names. -/
namespace Go.Proofs.YtnlmjibdifbnbaaGreat
set_option linter.unusedVariables false
set_option linter.unusedSimpArgs false
open Go.RowKit

def lt (c : Int) : Bool := (decide (65 ≤ c) && decide (c ≤ 90)) || (decide (97 ≤ c) && decide (c ≤ 122))
def bn (c : Int) : Bool := lt c || decide (c = 95) || decide (c = 8710)
def inm (c : Int) : Bool := bn c || dg c

end Go.Proofs.YtnlmjibdifbnbaaGreat

/- lex.piece anywhere in a line; names. -/
namespace Go.Proofs.YtnlmjibdifbnbaaGreat
set_option linter.unusedVariables false
set_option linter.unusedSimpArgs false
open Go.RowKit

/-- The characters of a line from i to j, as a text. -/
def cutText (cs : List Int) (i j : Nat) : ByteArray := runesBytes ((cs.drop i).take (j - i))
section
variable {w : World} {cs : List Int} {b off cap : Nat}
/-- A token without an array, its end, and no error. -/
def PlainTok (w : World) (kd : Int) (T : ByteArray) (i j : Nat) (e : Ending) (w' : World) : Prop :=
  e = .returned (.tuple #[.agg #[.int .u8 kd, .string T, .int .i64 i, .slice none 0 0, .slice none 0 0], .int .i64 j, .int .i64 0]) ∧ Below w.heap.size w w'

end
end Go.Proofs.YtnlmjibdifbnbaaGreat

/- lex.literal: what characters in quotes are. -/
namespace Go.Proofs.YtnlmjibdifbnbaaGreat
set_option linter.unusedVariables false
set_option linter.unusedSimpArgs false
open Go.RowKit Go.Shelf

section
variable {w : World} {cs : List Int} {b off cap : Nat}
end
end Go.Proofs.YtnlmjibdifbnbaaGreat

/- lex.textAt. -/
namespace Go.Proofs.YtnlmjibdifbnbaaGreat
set_option linter.unusedVariables false
set_option linter.unusedSimpArgs false
open Go.RowKit Go.Shelf

/-- A text in quotes, from i on: the characters meant, and where it ends. -/
def qscan (cs : List Int) : Nat → Nat → List Int → Option (List Int × Nat)
  | 0, _, _ => none
  | f + 1, i, acc => if i < cs.length then
      if cs.getD i 0 = 39 then
        if i + 1 = cs.length ∨ ¬ cs.getD (i + 1) 0 = 39 then some (acc, i + 1) else qscan cs f (i + 2) (acc ++ [39])
      else qscan cs f (i + 1) (acc ++ [cs.getD i 0])
    else none
def TwoSl (v : Value) : Prop := ∃ a1 n1 c1 a2 n2 c2, v = .agg #[.slice a1 n1 c1, .slice a2 n2 c2]
theorem TextAt.two {b : Nat} {W : World} {v : Value} {ys : List Int} (h : TextAt b W v ys) : TwoSl v := by
  obtain ⟨g1, v2, rfl, h1, h2, h3⟩ := h.form
  rcases h3 with ⟨_, g2, rfl, _⟩ | ⟨_, h⟩
  · exact ⟨_, _, _, _, _, _, rfl⟩
  · obtain ⟨a, c, rfl⟩ := row_form2 h; exact ⟨_, _, _, _, _, _, rfl⟩

theorem getD_mem {l : List Int} {i : Nat} (h : i < l.length) : l.getD i 0 ∈ l := by
  rw [show l.getD i 0 = l[i] by simp [List.getD, h]]; exact List.getElem_mem h
section
variable {w : World} {cs : List Int} {b off cap : Nat}
def okRune (c : Int) : Prop := (0 ≤ c ∧ c < 55296) ∨ (57343 < c ∧ c ≤ 1114111)
theorem ok_app {acc : List Int} {c : Int} (h : ∀ d ∈ acc, okRune d) (hc : okRune c) : ∀ d ∈ acc ++ [c], okRune d := by
  intro d hd
  rcases List.mem_append.1 hd with h' | h'
  · exact h d h'
  · rw [List.mem_singleton.1 h']; exact hc
end
end Go.Proofs.YtnlmjibdifbnbaaGreat

/- lex.Runes of any text; what its characters are. -/
namespace Go.Proofs.YtnlmjibdifbnbaaGreat
set_option linter.unusedVariables false
set_option linter.unusedSimpArgs false
open Go.RowKit

/-- The characters of a text from a place on; or, of bytes that are none, an error and how many characters stand ahead. -/
def scanR (s : ByteArray) : Nat → Nat → List Int → List Int × Int × Nat
  | 0, _, acc => (acc, 0, 0)
  | f + 1, pos, acc => if pos < s.size then
      if (Utf8.decode s pos).1 = 65533 ∧ (Utf8.decode s pos).2 = 1 then ([], 26, acc.length) else scanR s f (pos + (Utf8.decode s pos).2) (acc ++ [((Utf8.decode s pos).1 : Int)])
    else (acc, 0, 0)

theorem drop_ne {s : ByteArray} {pos : Nat} (hp : pos < s.size) : s.data.toList.drop pos ≠ [] := fun h => by
  have := congrArg List.length h
  simp at this
  have h2 : s.data.size = s.size := rfl
  omega
theorem decodeL_ffd (t : List UInt8) : Lib.decodeL (239 :: 191 :: 189 :: t) = (65533, 3) := by
  rw [Lib.decodeL_N]
  simp [Lib.decodeN]
/-- A character 65533 stands there itself just if it is more than one byte wide. -/
theorem ffd_prefix (s : ByteArray) (pos : Nat) (hp : pos < s.size) (h : (Utf8.decode s pos).1 = 65533) : Lib.hasPrefix (s.data.toList.drop pos) [239, 191, 189] = !decide ((Utf8.decode s pos).2 = 1) := by
  rw [← Lib.decodeL_drop] at h ⊢
  have hne := drop_ne hp
  generalize s.data.toList.drop pos = l at *
  by_cases h1 : (Lib.decodeL l).2 = 1
  · rw [decide_eq_true h1]
    cases hb : Lib.hasPrefix l [239, 191, 189] with
    | false => rfl
    | true =>
      exfalso
      unfold Lib.hasPrefix at hb
      obtain ⟨t, rfl⟩ := List.isPrefixOf_iff_prefix.1 hb
      rw [show ([239, 191, 189] ++ t : List UInt8) = 239 :: 191 :: 189 :: t from rfl, decodeL_ffd] at h1
      cases h1
  · rw [decide_eq_false h1]
    have he := Lib.encode_decode l hne (fun hx => h1 hx.2)
    rw [h] at he
    have e3 : Lib.encodeRune ((65533 : Nat) : Int) = [239, 191, 189] := by decide
    rw [e3] at he
    unfold Lib.hasPrefix
    rw [List.isPrefixOf_iff_prefix.2 (by rw [he]; exact List.take_prefix _ _)]
    rfl

theorem scanR_ok (s : ByteArray) : ∀ (f pos : Nat) (acc : List Int), (∀ c ∈ acc, (0 ≤ c ∧ c < 55296) ∨ (57343 < c ∧ c ≤ 1114111)) → ∀ c ∈ (scanR s f pos acc).1, (0 ≤ c ∧ c < 55296) ∨ (57343 < c ∧ c ≤ 1114111)
  | 0, pos, acc, h => h
  | f + 1, pos, acc, h => by
    rw [scanR]
    by_cases hp : pos < s.size
    · rw [if_pos hp]
      by_cases hb : (Utf8.decode s pos).1 = 65533 ∧ (Utf8.decode s pos).2 = 1
      · rw [if_pos hb]; intro c hc; cases hc
      · rw [if_neg hb]
        refine scanR_ok s f _ _ ?_
        intro c hc
        rcases List.mem_append.1 hc with hc | hc
        · exact h c hc
        · rw [List.mem_singleton.1 hc, Lib.decode_at]
          have := Lib.decodeN_valid (s.size - pos) (s.get! pos).toNat (s.get! (pos + 1)).toNat (s.get! (pos + 2)).toNat (s.get! (pos + 3)).toNat (UInt8.toNat_lt _)
          omega
    · rw [if_neg hp]; exact h
theorem scanR_len (s : ByteArray) : ∀ (f pos : Nat) (acc : List Int), acc.length ≤ pos → pos ≤ s.size → (scanR s f pos acc).1.length ≤ s.size
  | 0, pos, acc, h, hp => by simp only [scanR]; omega
  | f + 1, pos, acc, h, hps => by
    rw [scanR]
    by_cases hp : pos < s.size
    · rw [if_pos hp]
      by_cases hb : (Utf8.decode s pos).1 = 65533 ∧ (Utf8.decode s pos).2 = 1
      · rw [if_pos hb]; simp
      · rw [if_neg hb]
        have hw := Lib.decode_width_pos s pos hp
        have he := dec_end s pos hp
        exact scanR_len s f _ _ (by simp; omega) (by omega)
    · rw [if_neg hp]; simp only; omega

end Go.Proofs.YtnlmjibdifbnbaaGreat
