/- array.Int of any int; a scalar of a number as a tree. -/
import Derived.Test.YtimfnalpmmkndaaGreatDoorKZ
import Derived.Test.YtimfnalpmmkndaaGreatDoorTA
import Derived.Test.YtimfnalpmmkndaaGreatDoorAE
import Derived.Stop.RegionWithIn
import Derived.Test.YtimfnalpmmkndaaGreatDoorAN
import Derived.Test.YtimfnalpmmkndaaGreatDoorKX
import Derived.Test.YtimfnalpmmkndaaGreatDoorRK
namespace Go.Proofs.YtimfnalpmmkndaaGreatDoor
set_option linter.unusedVariables false
set_option linter.unusedSimpArgs false
open Go.RowKit

set_option maxRecDepth 100000 in
set_option maxHeartbeats 6400000 in
theorem arrInt_any (w : World) (q : Int) (hq0 : -9223372036854775808 ≤ q) (hq1 : q < 9223372036854775808) : Calls Tryz.prog 28 #[.int .i64 q] w fun e w' => ∃ b ns ds, Hid (WholeIs q b ns ds) ∧ ScalarAns w b ns ds e w' := by
 have R := boxA_new w #[.slice none 0 0, .slice none 0 0] 29
 have g := below_alloc w (.cells #[.slice none 0 0, .slice none 0 0] 29)
 have s0 : w.heap.size < (w.alloc (.cells #[.slice none 0 0, .slice none 0 0] 29)).heap.size := by simp
 go_enter Tryz.func28, Tryz.ntmps28
 go_wp2_with fail
 generalize hA : w.alloc (.cells #[.slice none 0 0, .slice none 0 0] 29) = v at *
 clear hA
 refine (ofInt_any q hq0 hq1 _).mono ?_
 rintro e w1 ⟨k1, bo, on, od, o1, o2, o3, o4, HO, rfl, oo, oe⟩
 go_wp2_with fail
 refine number_any.mono ?_
 rintro e w2 ⟨rfl, k2⟩
 have s1 := k1.size
 have t2 : Below v.heap.size v w2 := k1.trans (k2.mono s1)
 have p1 := oo.below k2 (Nat.le_refl _)
 have p2 := oe.below k2 (Nat.le_refl _)
 go_wp2_with fail
 refine scalar_any.mono ?_
 rintro e w3 ⟨k, rfl, hk, hB, k3⟩
 have s2 := t2.size
 have t3 : Below v.heap.size v w3 := t2.trans (k3.mono s2)
 have hN : NumAt v.heap.size w3 k bo on od := ⟨by omega, _, _, _, _, hB, p1.below k3 (Nat.le_refl _), p2.below k3 (Nat.le_refl _)⟩
 have HN : Hid (NumAt v.heap.size w3 k bo on od) := hN
 clear hN
 have R3 := R.below t3 s0
 have q0 := R3.cell 0 rfl
 have q1 := R3.cell 1 rfl
 have f0 := R3.frozen 0
 have f1 := R3.frozen 1
 go_wp2
 have R4 := R3.set2 (.slice none 0 0) (.slice (some ⟨k, 0, none⟩) 1 1)
 have r0 := R4.cell 0 rfl
 have r1 := R4.cell 1 rfl
 refine bodyPost_ret (v := .agg #[.slice none 0 0, .slice (some ⟨k, 0, none⟩) 1 1]) (by simp [results, Tryz.results28, go_sem, r0, r1]) rfl ?_
 exact ⟨bo, on, od, HO, k, rfl, (HN.out.set2 s0 _ _).mono (by omega), Below.set2 (g.trans (t3.mono (by omega))) (Nat.le_refl _) _ _⟩

theorem numAt_arv {base k : Nat} {w : World} {b : Bool} {ns ds : List Int} (h : NumAt base w k b ns ds) : ArV 1 (Fr base w.heap.size) w (.slice none 0 0) (.slice (some ⟨k, 0, none⟩) 1 1) (arrT [] [numT b ns ds]) := by
 have hlt := h.lt
 obtain ⟨hk, x1, y1, x2, y2, hB, o1, o2⟩ := h
 refine ⟨⟨(fun x h => by cases h), none, 0, rfl, Nat.le_refl _, by omega, fun _ => rfl, Or.inl rfl⟩, some ⟨k, 0, none⟩, 1, rfl, Nat.le_refl _, by omega, (fun h => by cases h), Or.inr ⟨k, 0, rfl, ⟨hk, hlt⟩, fun j hj => ?_⟩⟩
 have hj : j < 1 := hj
 obtain rfl : j = 0 := by omega
 obtain ⟨e0, e1, e2, e3, e4, e5⟩ := hB.num
 exact ⟨x1, y1, x2, y2, none, 0, ⟨e0, e1, e2, e3, e4, e5⟩, RdL.of_own o1, RdL.of_own o2, none, 0, rfl, Nat.le_refl _, by omega, fun _ => rfl, Or.inl rfl⟩
end Go.Proofs.YtimfnalpmmkndaaGreatDoor

/- array.over: so many of a list, over and over. -/
namespace Go.Proofs.YtimfnalpmmkndaaGreatDoor
set_option linter.unusedVariables false
set_option linter.unusedSimpArgs false
open Go.RowKit Go.Shelf

attribute [local go_sem] Oper.semAt_some

end Go.Proofs.YtimfnalpmmkndaaGreatDoor

/- array.each over so many items, over and over. -/
namespace Go.Proofs.YtimfnalpmmkndaaGreatDoor
set_option linter.unusedVariables false
set_option linter.unusedSimpArgs false
open Go.RowKit

section
variable {w : World} {f : Nat} {D : Nat → Prop} {a2 : Option Addr} {c2 N Bn Bs : Nat} {l l' : List Tr}
end
end Go.Proofs.YtimfnalpmmkndaaGreatDoor

/- array.over: so many of a list, over and over. -/
namespace Go.Proofs.YtimfnalpmmkndaaGreatDoor
set_option linter.unusedVariables false
set_option linter.unusedSimpArgs false
open Go.RowKit Go.Shelf

attribute [local go_sem] Oper.semAt_some

/-- A slice of measures. -/
def RowM (D : Nat → Prop) (W : World) (v : Value) (L : List (Int × Int)) : Prop := RowB D L.length v (fun g o j => W.cell? ⟨g, o + j * 2, none⟩ = some (.int .i64 (L.getD j (0, 0)).1) ∧ W.cell? ⟨g, o + j * 2 + 1, none⟩ = some (.int .i64 (L.getD j (0, 0)).2))
theorem RowM.agree {D : Nat → Prop} {W W' : World} {v : Value} {L : List (Int × Int)} (h : RowM D W v L) (hb : Agree D W W') : RowM D W' v L :=
 RowB.imp h (fun _ h => h) (fun g o j hg _ hc => ⟨(hb.cell hg).trans hc.1, (hb.cell hg).trans hc.2⟩)

end Go.Proofs.YtimfnalpmmkndaaGreatDoor

/- array.together over measures that come; array.measuredItems of right items. -/
namespace Go.Proofs.YtimfnalpmmkndaaGreatDoor
set_option linter.unusedVariables false
set_option linter.unusedSimpArgs false
open Go.RowKit Go.Shelf

attribute [local go_sem] Oper.semAt_some

end Go.Proofs.YtimfnalpmmkndaaGreatDoor

/- array.measuredItems of any items. -/
namespace Go.Proofs.YtimfnalpmmkndaaGreatDoor
set_option linter.unusedVariables false
set_option linter.unusedSimpArgs false
open Go.RowKit

end Go.Proofs.YtimfnalpmmkndaaGreatDoor

/- array.Make, where it makes an array that has items. -/
namespace Go.Proofs.YtimfnalpmmkndaaGreatDoor
set_option linter.unusedVariables false
set_option linter.unusedSimpArgs false
open Go.RowKit

section
variable {w : World} {f : Nat} {D : Nat → Prop} {x1 a2 : Option Addr} {y1 c2 N : Nat} {sh : List Int} {l : List Tr}
end
end Go.Proofs.YtimfnalpmmkndaaGreatDoor

/- array.vector over an iterator of items without boxes. -/
namespace Go.Proofs.YtimfnalpmmkndaaGreatDoor
set_option linter.unusedVariables false
set_option linter.unusedSimpArgs false
open Go.RowKit Go.Shelf

attribute [local go_sem] Oper.semAt_some

/-- A block of cells that holds no items. -/
def NotRow (W : World) (g : Nat) : Prop := ∃ cs ty fz, W.heap[g]? = some (.cells cs ty fz) ∧ ty ≠ 113
def ItemAt (Z : Nat) (W : World) (x : IV) (t : Tr) : Prop := IsIt 0 (fun g => Z ≤ g ∧ NotRow W g) W x t
theorem ItemAt.grown {Z : Nat} {A B : World} {x : IV} {t : Tr} {row : Option Nat} (h : ItemAt Z A x t) (hg : A.grownBy B row) (hrow : ∀ k, row = some k → ∃ o : Obj, A.heap[k]? = some o ∧ o.isCells = false) : ItemAt Z B x t := by
 have hk : ∀ g, NotRow A g → B.heap[g]? = A.heap[g]? := by
  rintro g ⟨cs, ty, fz, e, _⟩
  refine hg.block g (lt_of_block e) (fun hr => ?_)
  obtain ⟨o, ho, hc⟩ := hrow g hr.symm
  rw [e] at ho
  cases ho
  cases hc
 refine IsIt.imp h ?_ (fun g hg' => hk g hg'.2)
 rintro g ⟨h1, h2⟩
 refine ⟨h1, ?_⟩
 obtain ⟨cs, ty, fz, e, hne⟩ := h2
 exact ⟨cs, ty, fz, by rw [hk g ⟨cs, ty, fz, e, hne⟩]; exact e, hne⟩
end Go.Proofs.YtimfnalpmmkndaaGreatDoor

/- array.Ints of any row. -/
namespace Go.Proofs.YtimfnalpmmkndaaGreatDoor
set_option linter.unusedVariables false
set_option linter.unusedSimpArgs false
open Go.RowKit Go.Shelf

attribute [local go_sem] Oper.semAt_some

def limbs2 (n : Int) : List Int := if n = 0 then [] else if n < 4294967296 then [n] else [n % 4294967296, n / 4294967296]
theorem limbs2_ok {n : Int} (h0 : 0 ≤ n) (h1 : n ≤ 9223372036854775808) : can (limbs2 n) ∧ val (limbs2 n) = n := by
 unfold limbs2
 by_cases hz : n = 0
 · rw [if_pos hz]; exact ⟨⟨lim_nil, Or.inl rfl⟩, by rw [hz]; rfl⟩
 rw [if_neg hz]
 by_cases hs : n < 4294967296
 · rw [if_pos hs]
   refine ⟨⟨?_, Or.inr (by simpa using hz)⟩, by simp [val]⟩
   intro x hx
   simp at hx
   subst hx
   omega
 · rw [if_neg hs]
   refine ⟨⟨?_, Or.inr ?_⟩, ?_⟩
   · intro x hx
     simp at hx
     rcases hx with rfl | rfl <;> omega
   · simp; omega
   · simp [val]; omega
/-- A whole number as an item. -/
def wholeT (q : Int) : Tr := numT (decide (q < 0)) (limbs2 (if q < 0 then -q else q)) [1]
theorem wholeIs_eq {q : Int} {b : Bool} {ns ds : List Int} (h0 : -9223372036854775808 ≤ q) (h1 : q < 9223372036854775808) (h : WholeIs q b ns ds) : numT b ns ds = wholeT q := by
 obtain ⟨rfl, hc, hv, _, rfl⟩ := h
 unfold wholeT
 have hl := limbs2_ok (n := if q < 0 then -q else q) (by split <;> omega) (by split <;> omega)
 rw [can_inj hc hl.1 (by rw [hv, hl.2])]
end Go.Proofs.YtimfnalpmmkndaaGreatDoor

/- Answers in one form; a variable of a number is given another number. -/
namespace Go.Proofs.YtimfnalpmmkndaaGreatDoor
set_option linter.unusedVariables false
set_option linter.unusedSimpArgs false
open Go.RowKit

/-- What is told of N by D, where P is asked: an error, or the number. -/
def OutSpec (P : Prop) (N D : Int) (b : Bool) (ns ds : List Int) (err : Int) : Prop :=
 (¬ P ∧ err = 22 ∧ b = false ∧ ns = [] ∧ ds = []) ∨ (P ∧ err = 8 ∧ b = false ∧ ns = [] ∧ ds = [] ∧ Big N D) ∨ (P ∧ err = 0 ∧ RightP b ns ds ∧ sg b (val ns) * D = N * val ds)
theorem OutSpec.unique {P : Prop} {N D : Int} {b c : Bool} {ns ds ms es : List Int} {e f : Int} (hD : P → 0 < D) (h : OutSpec P N D b ns ds e) (k : OutSpec P N D c ms es f) : c = b ∧ ms = ns ∧ es = ds ∧ f = e := by
 rcases h with ⟨hp, rfl, rfl, rfl, rfl⟩ | ⟨hp, rfl, rfl, rfl, rfl, hb⟩ | ⟨hp, rfl, hr, hv⟩ <;> rcases k with ⟨kp, rfl, rfl, rfl, rfl⟩ | ⟨kp, rfl, rfl, rfl, rfl, kb⟩ | ⟨kp, rfl, kr, kv⟩
 · exact ⟨rfl, rfl, rfl, rfl⟩
 · exact absurd kp hp
 · exact absurd kp hp
 · exact absurd hp kp
 · exact ⟨rfl, rfl, rfl, rfl⟩
 · exact absurd hb (not_big kr kv (hD hp))
 · exact absurd hp kp
 · exact absurd kb (not_big hr hv (hD hp))
 · obtain ⟨rfl, rfl, rfl⟩ := right_is hr hv (hD hp) kr kv
   exact ⟨rfl, rfl, rfl, rfl⟩
theorem Gives.spec {w w' : World} {P : Prop} {N D : Int} {e : Ending} (h : Gives w P N D e w') : ∃ b ns ds err, Hid (OutSpec P N D b ns ds err) ∧ RAns w b ns ds err e w' := by
 obtain ⟨hb, b, x1, n, y1, x2, m, y2, err, rfl, hO⟩ := h
 rcases hO.out with ⟨hp, rfl, rfl, rfl, rfl, rfl, rfl, rfl, rfl⟩ | ⟨hp, rfl, rfl, rfl, rfl, rfl, rfl, rfl, rfl, hbig⟩ | ⟨hp, rfl, ns, ds, rfl, rfl, on, od, hr, hv⟩
 · exact ⟨false, [], [], 22, Or.inl ⟨hp, rfl, rfl, rfl, rfl⟩, hb, none, 0, none, 0, rfl, nil_rd _, nil_rd _⟩
 · exact ⟨false, [], [], 8, Or.inr (Or.inl ⟨hp, rfl, rfl, rfl, rfl, hbig⟩), hb, none, 0, none, 0, rfl, nil_rd _, nil_rd _⟩
 · exact ⟨b, ns, ds, 0, Or.inr (Or.inr ⟨hp, rfl, hr, hv⟩), hb, x1, y1, x2, y2, rfl, on.rd, od.rd⟩
/-- Two answers of the same: the second one has the first one's numbers. -/
theorem Gives.same {w w' : World} {P : Prop} {N D : Int} {e : Ending} {b : Bool} {ns ds : List Int} {err : Int} (hD : P → 0 < D) (HS : Hid (OutSpec P N D b ns ds err)) (h : Gives w P N D e w') : RAns w b ns ds err e w' := by
 obtain ⟨c, ms, es, f, HK, hr⟩ := h.spec
 obtain ⟨rfl, rfl, rfl, rfl⟩ := OutSpec.unique hD HS.out HK.out
 exact hr
theorem Gives.of {w w' : World} {P : Prop} {N D M E : Int} {e : Ending} (h : Gives w P N D e w') (hE : P → M = N ∧ E = D) : Gives w P M E e w' := by
 obtain ⟨k1, c, z1, n, z2, z3, m, z4, er, he, hO⟩ := h
 refine ⟨k1, c, z1, n, z2, z3, m, z4, er, he, ?_⟩
 rcases hO.out with h | ⟨h, h2⟩ | ⟨h, h2⟩
 · exact Or.inl h
 · obtain ⟨rfl, rfl⟩ := hE h; exact Or.inr (Or.inl ⟨h, h2⟩)
 · obtain ⟨rfl, rfl⟩ := hE h; exact Or.inr (Or.inr ⟨h, h2⟩)

section
variable {w : World} {b c : Bool} {a1 a2 a3 a4 : Option Addr} {c1 c2 c3 c4 : Nat} {ns ds ms es : List Int} {j k ty : Nat} {x1 x2 : Option Addr} {n1 n2 m1 m2 : Nat}
theorem cell_set3 (h : j ≠ k) (o : Nat) (x y z : Value) : (((w.setCell ⟨k, 0, none⟩ x).setCell ⟨k, 1, none⟩ y).setCell ⟨k, 2, none⟩ z).cell? ⟨j, o, none⟩ = w.cell? ⟨j, o, none⟩ := by
 have hne : ¬ k = j := fun e => h e.symm
 simp [World.setCell, World.cell?, Array.getElem?_modify, hne]
theorem Rd.put {B : Nat} {v : Value} {xs : List Int} (h : Rd B w v xs) (hk : Box3 w k ty (.bool b) (.slice x1 n1 m1) (.slice x2 n2 m2)) (x y z : Value) : Rd B (((w.setCell ⟨k, 0, none⟩ x).setCell ⟨k, 1, none⟩ y).setCell ⟨k, 2, none⟩ z) v xs := by
 obtain ⟨hl, a, cap, hv, h1, h2, h3, h4⟩ := h
 refine ⟨hl, a, cap, hv, h1, h2, h3, ?_⟩
 rcases h4 with h4 | ⟨b', off, ha, hb, hc⟩
 · exact Or.inl h4
 · by_cases h0 : xs.length = 0
   · exact Or.inl h0
   · refine Or.inr ⟨b', off, ha, hb, fun i hi => ?_⟩
     rw [cell_set3 ?_]
     · exact hc i hi
     · rintro rfl
       have h5 := hc 0 (by omega)
       unfold Box3 at hk
       rw [Nat.add_zero] at h5
       match off, h5 with
       | 0, h5 => simp [World.cell?, hk] at h5
       | 1, h5 => simp [World.cell?, hk] at h5
       | 2, h5 => simp [World.cell?, hk] at h5
       | o + 3, h5 => simp [World.cell?, hk] at h5
theorem NVar.put (P : NVar w k b a1 ns c1 a2 ds c2) (h1 : Rd w.heap.size w (.slice a3 ms.length c3) ms) (h2 : Rd w.heap.size w (.slice a4 es.length c4) es) :
    NVar (((w.setCell ⟨k, 0, none⟩ (.bool c)).setCell ⟨k, 1, none⟩ (.slice a3 ms.length c3)).setCell ⟨k, 2, none⟩ (.slice a4 es.length c4)) k c a3 ms c3 a4 es c4 := by
 have szz : (((w.setCell ⟨k, 0, none⟩ (.bool c)).setCell ⟨k, 1, none⟩ (.slice a3 ms.length c3)).setCell ⟨k, 2, none⟩ (.slice a4 es.length c4)).heap.size = w.heap.size := by simp [World.setCell]
 refine ⟨by rw [szz]; exact P.lt, P.box.set _ _ _, ?_, ?_⟩
 · rw [szz]; exact h1.put P.box _ _ _
 · rw [szz]; exact h2.put P.box _ _ _
theorem NVar.by' (X : NVar w j b a1 ns c1 a2 ds c2) (P : NVar w k c a3 ms c3 a4 es c4) (h : j ≠ k) (x y z : Value) : NVar (((w.setCell ⟨k, 0, none⟩ x).setCell ⟨k, 1, none⟩ y).setCell ⟨k, 2, none⟩ z) j b a1 ns c1 a2 ds c2 := by
 have szz : (((w.setCell ⟨k, 0, none⟩ x).setCell ⟨k, 1, none⟩ y).setCell ⟨k, 2, none⟩ z).heap.size = w.heap.size := by simp [World.setCell]
 refine ⟨by rw [szz]; exact X.lt, X.box.other h _ _ _, ?_, ?_⟩
 · rw [szz]; exact X.rn.put P.box _ _ _
 · rw [szz]; exact X.rd.put P.box _ _ _
end
end Go.Proofs.YtimfnalpmmkndaaGreatDoor

/- rat.Neg, Abs, Ceil. -/
namespace Go.Proofs.YtimfnalpmmkndaaGreatDoor
set_option linter.unusedVariables false
set_option linter.unusedSimpArgs false
open Go.RowKit

section
variable {w : World} {b : Bool} {a1 a2 : Option Addr} {c1 c2 : Nat} {ns ds : List Int}
end
end Go.Proofs.YtimfnalpmmkndaaGreatDoor

/- rat.IsInt, ToInt. -/
namespace Go.Proofs.YtimfnalpmmkndaaGreatDoor
set_option linter.unusedVariables false
set_option linter.unusedSimpArgs false
open Go.RowKit

/-- What is told of a whole number as an int. -/
def IntTold (P : Prop) (z n : Int) (ok : Bool) : Prop := (ok = true ∧ P ∧ -9223372036854775808 ≤ z ∧ z < 9223372036854775808 ∧ n = z) ∨ (ok = false ∧ n = 0 ∧ ¬ (P ∧ -9223372036854775808 ≤ z ∧ z < 9223372036854775808))
theorem IntTold.unique {P : Prop} {z n m : Int} {ok fine : Bool} (h : IntTold P z n ok) (k : IntTold P z m fine) : m = n ∧ fine = ok := by
 rcases h with ⟨rfl, hp, h1, h2, rfl⟩ | ⟨rfl, rfl, h⟩ <;> rcases k with ⟨rfl, kp, k1, k2, rfl⟩ | ⟨rfl, rfl, k⟩
 · exact ⟨rfl, rfl⟩
 · exact absurd ⟨hp, h1, h2⟩ k
 · exact absurd ⟨kp, k1, k2⟩ h
 · exact ⟨rfl, rfl⟩

section
variable {w : World} {b : Bool} {a1 a2 : Option Addr} {c1 c2 : Nat} {ns ds : List Int}
end
end Go.Proofs.YtimfnalpmmkndaaGreatDoor

/- array.isEmpty, whole, ToInt of any array. -/
namespace Go.Proofs.YtimfnalpmmkndaaGreatDoor
set_option linter.unusedVariables false
set_option linter.unusedSimpArgs false
open Go.RowKit

section
variable {D : Nat → Prop} {f : Nat} {W : World} {x1 : Option Addr} {n1 y1 : Nat} {x2 : Option Addr} {n2 y2 : Nat} {t : Tr}
variable {a1 a2 a3 : Option Addr} {c1 c2 c3 : Nat} {P : Value → Value → Tr → Prop}
end
end Go.Proofs.YtimfnalpmmkndaaGreatDoor

/- Arrays of numbers and characters are right; array.Items of a right array. -/
namespace Go.Proofs.YtimfnalpmmkndaaGreatDoor
set_option linter.unusedVariables false
set_option linter.unusedSimpArgs false
open Go.RowKit

theorem limbs2_len (n : Int) : (limbs2 n).length ≤ 2 := by
 unfold limbs2
 split
 · simp
 · split <;> simp
theorem wholeT_is {q : Int} (h0 : -9223372036854775808 ≤ q) (h1 : q < 9223372036854775808) : WholeIs q (wholeT q).b (wholeT q).ns (wholeT q).ds := by
 have hl := limbs2_ok (n := if q < 0 then -q else q) (by split <;> omega) (by split <;> omega)
 exact ⟨rfl, hl.1, hl.2, limbs2_len _, rfl⟩
/-- A simple item that is right. -/
theorem whole_meas {q : Int} (M : Tr → Option (Int × Int)) (h0 : -9223372036854775808 ≤ q) (h1 : q < 9223372036854775808) : measI M (wholeT q) = some (0, 0) := measI_num rfl ⟨(wholeT_is h0 h1).right, rfl, rfl⟩
theorem measL_zero {I : Tr → Option (Int × Int)} : ∀ (l : List Tr) (c : Int), (∀ t ∈ l, I t = some (0, 0)) → c ≤ 16384 → measL I l (1, c) = some (1, c)
 | [], c, _, _ => rfl
 | t :: r, c, h, hc => by
  rw [measL, h t (by simp)]
  simp only [Int.add_zero]
  rw [if_neg (by omega)]
  exact measL_zero r c (fun x hx => h x (by simp [hx])) hc
/-- A scalar of a simple item. -/
theorem meas_scalar {L : Nat} {x : Tr} (hk : x.k = 1 ∨ x.k = 2) (h : measI (measF L) x = some (0, 0)) : measF (L + 1) (arrT [] [x]) = some (0, 1) := by
 have e0 : sizeF ([] : List Int) = (1, 0) := by decide
 have e : sizeF (arrT [] [x]).ns = (1, 0) := e0
 rw [measF_succ ⟨by rw [e], by rw [e]; rfl⟩]
 rw [measL_zero _ _ (by intro t ht; simp [arrT, Tr.kids] at ht; subst ht; exact h) (by show ((1 : Nat) : Int) ≤ 16384; omega)]
 unfold finM simpB
 have e2 : ((arrT [] [x]).kids.getD 0 tr0) = x := rfl
 rw [e2]
 rcases hk with hk | hk <;> simp [hk, arrT, Tr.ns, Tr.kids]
section
variable {D : Nat → Prop} {f : Nat} {W : World} {x1 : Option Addr} {n1 y1 : Nat} {x2 : Option Addr} {n2 y2 : Nat} {t : Tr}
end
end Go.Proofs.YtimfnalpmmkndaaGreatDoor
