/- Answers in one form; a variable of a number is given another number. -/
import Derived.Test.YthfmicokddcglaaGreatDoorK7
namespace Go.Proofs.YthfmicokddcglaaGreatDoor
set_option linter.unusedVariables false
set_option linter.unusedSimpArgs false
open Go.RowKit

/-- What is told of N by D, where P is asked: an error, or the number. -/
def OutSpec (P : Prop) (N D : Int) (b : Bool) (ns ds : List Int) (err : Int) : Prop :=
  (¬ P ∧ err = 22 ∧ b = false ∧ ns = [] ∧ ds = []) ∨ (P ∧ err = 8 ∧ b = false ∧ ns = [] ∧ ds = [] ∧ Big N D) ∨ (P ∧ err = 0 ∧ RightP b ns ds ∧ sg b (val ns) * D = N * val ds)
theorem OutSpec.unique {P : Prop} {N D : Int} {b c : Bool} {ns ds ms es : List Int} {e f : Int} (hD : P → 0 < D) (h : OutSpec P N D b ns ds e) (k : OutSpec P N D c ms es f) : c = b ∧ ms = ns ∧ es = ds ∧ f = e := by
  rcases h with ⟨hp, rfl, rfl, rfl, rfl⟩ | ⟨hp, rfl, rfl, rfl, rfl, hb⟩ | ⟨hp, rfl, hr, hv⟩ <;> rcases k with ⟨kp, rfl, rfl, rfl, rfl⟩ | ⟨kp, rfl, rfl, rfl, rfl, kb⟩ | ⟨kp, rfl, kr, kv⟩
  · exact ⟨rfl, rfl, rfl, rfl⟩
  · exact absurd kp hp
  · exact absurd kp hp
  · exact absurd hp kp
  · exact ⟨rfl, rfl, rfl, rfl⟩
  · exact absurd hb (not_big kr kv (hD hp))
  · exact absurd hp kp
  · exact absurd kb (not_big hr hv (hD hp))
  · obtain ⟨rfl, rfl, rfl⟩ := right_is hr hv (hD hp) kr kv
    exact ⟨rfl, rfl, rfl, rfl⟩
theorem Gives.spec {w w' : World} {P : Prop} {N D : Int} {e : Ending} (h : Gives w P N D e w') : ∃ b ns ds err, Hid (OutSpec P N D b ns ds err) ∧ RAns w b ns ds err e w' := by
  obtain ⟨hb, b, x1, n, y1, x2, m, y2, err, rfl, hO⟩ := h
  rcases hO.out with ⟨hp, rfl, rfl, rfl, rfl, rfl, rfl, rfl, rfl⟩ | ⟨hp, rfl, rfl, rfl, rfl, rfl, rfl, rfl, rfl, hbig⟩ | ⟨hp, rfl, ns, ds, rfl, rfl, on, od, hr, hv⟩
  · exact ⟨false, [], [], 22, Or.inl ⟨hp, rfl, rfl, rfl, rfl⟩, hb, none, 0, none, 0, rfl, nil_rd _, nil_rd _⟩
  · exact ⟨false, [], [], 8, Or.inr (Or.inl ⟨hp, rfl, rfl, rfl, rfl, hbig⟩), hb, none, 0, none, 0, rfl, nil_rd _, nil_rd _⟩
  · exact ⟨b, ns, ds, 0, Or.inr (Or.inr ⟨hp, rfl, hr, hv⟩), hb, x1, y1, x2, y2, rfl, on.rd, od.rd⟩
/-- Two answers of the same: the second one has the first one's numbers. -/
theorem Gives.same {w w' : World} {P : Prop} {N D : Int} {e : Ending} {b : Bool} {ns ds : List Int} {err : Int} (hD : P → 0 < D) (HS : Hid (OutSpec P N D b ns ds err)) (h : Gives w P N D e w') : RAns w b ns ds err e w' := by
  obtain ⟨c, ms, es, f, HK, hr⟩ := h.spec
  obtain ⟨rfl, rfl, rfl, rfl⟩ := OutSpec.unique hD HS.out HK.out
  exact hr
theorem Gives.of {w w' : World} {P : Prop} {N D M E : Int} {e : Ending} (h : Gives w P N D e w') (hE : P → M = N ∧ E = D) : Gives w P M E e w' := by
  obtain ⟨k1, c, z1, n, z2, z3, m, z4, er, he, hO⟩ := h
  refine ⟨k1, c, z1, n, z2, z3, m, z4, er, he, ?_⟩
  rcases hO.out with h | ⟨h, h2⟩ | ⟨h, h2⟩
  · exact Or.inl h
  · obtain ⟨rfl, rfl⟩ := hE h; exact Or.inr (Or.inl ⟨h, h2⟩)
  · obtain ⟨rfl, rfl⟩ := hE h; exact Or.inr (Or.inr ⟨h, h2⟩)

section
variable {w : World} {b c : Bool} {a1 a2 a3 a4 : Option Addr} {c1 c2 c3 c4 : Nat} {ns ds ms es : List Int} {j k ty : Nat} {x1 x2 : Option Addr} {n1 n2 m1 m2 : Nat}
theorem cell_set3 (h : j ≠ k) (o : Nat) (x y z : Value) : (((w.setCell ⟨k, 0, none⟩ x).setCell ⟨k, 1, none⟩ y).setCell ⟨k, 2, none⟩ z).cell? ⟨j, o, none⟩ = w.cell? ⟨j, o, none⟩ := by
  have hne : ¬ k = j := fun e => h e.symm
  simp [World.setCell, World.cell?, Array.getElem?_modify, hne]
theorem Rd.put {B : Nat} {v : Value} {xs : List Int} (h : Rd B w v xs) (hk : Box3 w k ty (.bool b) (.slice x1 n1 m1) (.slice x2 n2 m2)) (x y z : Value) : Rd B (((w.setCell ⟨k, 0, none⟩ x).setCell ⟨k, 1, none⟩ y).setCell ⟨k, 2, none⟩ z) v xs := by
  obtain ⟨hl, a, cap, hv, h1, h2, h3, h4⟩ := h
  refine ⟨hl, a, cap, hv, h1, h2, h3, ?_⟩
  rcases h4 with h4 | ⟨b', off, ha, hb, hc⟩
  · exact Or.inl h4
  · by_cases h0 : xs.length = 0
    · exact Or.inl h0
    · refine Or.inr ⟨b', off, ha, hb, fun i hi => ?_⟩
      rw [cell_set3 ?_]
      · exact hc i hi
      · rintro rfl
        have h5 := hc 0 (by omega)
        unfold Box3 at hk
        rw [Nat.add_zero] at h5
        match off, h5 with
        | 0, h5 => simp [World.cell?, hk] at h5
        | 1, h5 => simp [World.cell?, hk] at h5
        | 2, h5 => simp [World.cell?, hk] at h5
        | o + 3, h5 => simp [World.cell?, hk] at h5
theorem NVar.put (P : NVar w k b a1 ns c1 a2 ds c2) (h1 : Rd w.heap.size w (.slice a3 ms.length c3) ms) (h2 : Rd w.heap.size w (.slice a4 es.length c4) es) :
    NVar (((w.setCell ⟨k, 0, none⟩ (.bool c)).setCell ⟨k, 1, none⟩ (.slice a3 ms.length c3)).setCell ⟨k, 2, none⟩ (.slice a4 es.length c4)) k c a3 ms c3 a4 es c4 := by
  have szz : (((w.setCell ⟨k, 0, none⟩ (.bool c)).setCell ⟨k, 1, none⟩ (.slice a3 ms.length c3)).setCell ⟨k, 2, none⟩ (.slice a4 es.length c4)).heap.size = w.heap.size := by simp [World.setCell]
  refine ⟨by rw [szz]; exact P.lt, P.box.set _ _ _, ?_, ?_⟩
  · rw [szz]; exact h1.put P.box _ _ _
  · rw [szz]; exact h2.put P.box _ _ _
theorem NVar.by' (X : NVar w j b a1 ns c1 a2 ds c2) (P : NVar w k c a3 ms c3 a4 es c4) (h : j ≠ k) (x y z : Value) : NVar (((w.setCell ⟨k, 0, none⟩ x).setCell ⟨k, 1, none⟩ y).setCell ⟨k, 2, none⟩ z) j b a1 ns c1 a2 ds c2 := by
  have szz : (((w.setCell ⟨k, 0, none⟩ x).setCell ⟨k, 1, none⟩ y).setCell ⟨k, 2, none⟩ z).heap.size = w.heap.size := by simp [World.setCell]
  refine ⟨by rw [szz]; exact X.lt, X.box.other h _ _ _, ?_, ?_⟩
  · rw [szz]; exact X.rn.put P.box _ _ _
  · rw [szz]; exact X.rd.put P.box _ _ _
end
end Go.Proofs.YthfmicokddcglaaGreatDoor

/- rat.Neg, Abs, Ceil. -/
namespace Go.Proofs.YthfmicokddcglaaGreatDoor
set_option linter.unusedVariables false
set_option linter.unusedSimpArgs false
open Go.RowKit

/-- A right number with another sign is right. -/
theorem right_with {b : Bool} {ns ds : List Int} (c : Bool) (h : RightP b ns ds) : RightP (c && decide (0 < ns.length)) ns ds ∧ sg (c && decide (0 < ns.length)) (val ns) = sg c (val ns) := by
  obtain ⟨l1, l2, c1, c2, hb, hd, hg⟩ := h
  by_cases h0 : ns.length = 0
  · have hv := (can_zero c1).1 h0
    have hf : (c && decide (0 < ns.length)) = false := by rw [h0]; simp
    rw [hf]
    refine ⟨⟨l1, l2, c1, c2, ?_, hd, hg⟩, ?_⟩
    · rintro ⟨h, _⟩; cases h
    · rw [hv, sg_zero, sg_zero]
  · have hf : (c && decide (0 < ns.length)) = c := by rw [decide_eq_true (by omega)]; simp
    rw [hf]
    exact ⟨⟨l1, l2, c1, c2, fun h => h0 h.2, hd, hg⟩, rfl⟩
theorem sg_neg (b : Bool) (x : Int) : sg b (-x) = -(sg b x) := by unfold sg; cases b <;> simp
theorem ceil_whole (b : Bool) (n d : Int) (hn : 0 ≤ n) (hd : 0 < d) : sg b (wholeM (!b) n d) = -((-(sg b n)) / d) := by
  have h := floor_whole (!b) n d hn hd
  rw [sg_not, sg_not] at h
  omega
theorem big_neg {N D : Int} (h : Big N D) : Big (-N) D := by
  obtain ⟨b, ns, ds, h1, h2, h3, h4, h5, h6⟩ := h
  exact ⟨!b, ns, ds, h1, h2, h3, h4, by rw [sg_not, Int.neg_mul, Int.neg_mul, h5], h6⟩
/-- A right number is told. -/
theorem gives_num {w wF : World} {P : Prop} {N D : Int} {b : Bool} {ns ds : List Int} {x1 x2 : Option Addr} {y1 y2 : Nat} (hP : P) (hb : Below w.heap.size w wF) (on : Own w.heap.size wF (.slice x1 ns.length y1) ns) (od : Own w.heap.size wF (.slice x2 ds.length y2) ds) (hr : RightP b ns ds) (hv : sg b (val ns) * D = N * val ds) :
    Gives w P N D (.returned (.tuple #[.agg #[.bool b, .slice x1 ns.length y1, .slice x2 ds.length y2], .int .i64 0])) wF :=
  ⟨hb, b, x1, ns.length, y1, x2, ds.length, y2, 0, rfl, Or.inr (Or.inr ⟨hP, rfl, ns, ds, rfl, rfl, on, od, hr, hv⟩)⟩

section
variable {w : World} {b : Bool} {a1 a2 : Option Addr} {c1 c2 : Nat} {ns ds : List Int}
end
end Go.Proofs.YthfmicokddcglaaGreatDoor

/- rat.IsInt, ToInt. -/
namespace Go.Proofs.YthfmicokddcglaaGreatDoor
set_option linter.unusedVariables false
set_option linter.unusedSimpArgs false
open Go.RowKit

/-- Is a number right and whole? -/
def IsWhole (b : Bool) (ns ds : List Int) : Prop := RightP b ns ds ∧ ds = [1]
/-- What is told of a whole number as an int. -/
def IntTold (P : Prop) (z n : Int) (ok : Bool) : Prop := (ok = true ∧ P ∧ -9223372036854775808 ≤ z ∧ z < 9223372036854775808 ∧ n = z) ∨ (ok = false ∧ n = 0 ∧ ¬ (P ∧ -9223372036854775808 ≤ z ∧ z < 9223372036854775808))
theorem IntTold.unique {P : Prop} {z n m : Int} {ok fine : Bool} (h : IntTold P z n ok) (k : IntTold P z m fine) : m = n ∧ fine = ok := by
  rcases h with ⟨rfl, hp, h1, h2, rfl⟩ | ⟨rfl, rfl, h⟩ <;> rcases k with ⟨rfl, kp, k1, k2, rfl⟩ | ⟨rfl, rfl, k⟩
  · exact ⟨rfl, rfl⟩
  · exact absurd ⟨hp, h1, h2⟩ k
  · exact absurd ⟨kp, k1, k2⟩ h
  · exact ⟨rfl, rfl⟩

section
variable {w : World} {b : Bool} {a1 a2 : Option Addr} {c1 c2 : Nat} {ns ds : List Int}
end
end Go.Proofs.YthfmicokddcglaaGreatDoor
