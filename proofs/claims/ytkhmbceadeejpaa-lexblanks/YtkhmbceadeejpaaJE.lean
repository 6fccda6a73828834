/- Arrays in memory, to any depth: what lies in the blocks that D tells. -/
import Derived.Test.YtkhmbceadeejpaaJ7
import Derived.Test.YtkhmbceadeejpaaJ8
import Derived.Test.YtkhmbceadeejpaaJC
import Derived.Test.YtkhmbceadeejpaaJA
import Derived.Test.YtkhmbceadeejpaaJD
namespace Go.Proofs.Ytkhmbceadeejpaa
set_option linter.unusedVariables false
set_option linter.unusedSimpArgs false
open Go.RowKit

/-- An item: its kind, sign, limbs of both, character, boxes. An array: its lengths stand in ns, its items in kids. -/
inductive Tr where
  | mk (k : Int) (b : Bool) (ns ds : List Int) (c : Int) (kids : List Tr) : Tr
def Tr.k : Tr → Int | .mk k _ _ _ _ _ => k
def Tr.b : Tr → Bool | .mk _ b _ _ _ _ => b
def Tr.ns : Tr → List Int | .mk _ _ ns _ _ _ => ns
def Tr.ds : Tr → List Int | .mk _ _ _ ds _ _ => ds
def Tr.c : Tr → Int | .mk _ _ _ _ c _ => c
def Tr.kids : Tr → List Tr | .mk _ _ _ _ _ l => l
def tr0 : Tr := .mk 0 false [] [] 0 []
def arrT (sh : List Int) (its : List Tr) : Tr := .mk 0 false sh [] 0 its
def numT (b : Bool) (ns ds : List Int) : Tr := .mk 1 b ns ds 0 []
def charT (c : Int) : Tr := .mk 2 false [] [] c []
def boxT (a : Tr) : Tr := .mk 3 false [] [] 0 [a]

/-- The blocks that D tells are the same. -/
def Agree (D : Nat → Prop) (w w' : World) : Prop := ∀ g, D g → w'.heap[g]? = w.heap[g]?
theorem Agree.cell {D : Nat → Prop} {w w' : World} (h : Agree D w w') {g o : Nat} (hg : D g) : w'.cell? ⟨g, o, none⟩ = w.cell? ⟨g, o, none⟩ := World.cell?_of_block (w := w) (h g hg)
theorem Agree.of {D : Nat → Prop} {B : Nat} {w w' : World} (h : Below B w w') (hD : ∀ g, D g → g < B) : Agree D w w' := fun g hg => h.block g (hD g hg)
/-- A slice of limbs. -/
def RdL (D : Nat → Prop) (w : World) (v : Value) (xs : List Int) : Prop :=
  lim xs ∧ ∃ a cap, v = .slice a xs.length cap ∧ xs.length ≤ cap ∧ cap ≤ 9223372036854775807 ∧ (a = none → cap = 0) ∧
    (xs.length = 0 ∨ ∃ b off, a = some ⟨b, off, none⟩ ∧ D b ∧ ∀ j, j < xs.length → w.cell? ⟨b, off + j, none⟩ = some (.int .u32 (xs.getD j 0)))
theorem RdL.imp {D D' : Nat → Prop} {w w' : World} {v : Value} {xs : List Int} (h : RdL D w v xs) (hD : ∀ g, D g → D' g) (hb : Agree D w w') : RdL D' w' v xs := by
  obtain ⟨h0, a, cap, rfl, h1, h2, h3, h4⟩ := h
  refine ⟨h0, a, cap, rfl, h1, h2, h3, ?_⟩
  rcases h4 with h4 | ⟨b, off, rfl, hlt, hc⟩
  · exact Or.inl h4
  · exact Or.inr ⟨b, off, rfl, hD b hlt, fun j hj => (hb.cell hlt).trans (hc j hj)⟩
theorem RdL.rd {D : Nat → Prop} {B : Nat} {w : World} {v : Value} {xs : List Int} (h : RdL D w v xs) (hD : ∀ g, D g → g < B) : Rd B w v xs := by
  obtain ⟨h0, a, cap, rfl, h1, h2, h3, h4⟩ := h
  refine ⟨h0, a, cap, rfl, h1, h2, h3, ?_⟩
  rcases h4 with h4 | ⟨b, off, rfl, hlt, hc⟩
  · exact Or.inl h4
  · exact Or.inr ⟨b, off, rfl, hD b hlt, hc⟩
theorem RdL.of_rd {B : Nat} {w : World} {v : Value} {xs : List Int} (h : Rd B w v xs) : RdL (· < B) w v xs := h
theorem RdL.of_own {base : Nat} {w : World} {v : Value} {xs : List Int} (h : Own base w v xs) : RdL (fun g => base ≤ g ∧ g < w.heap.size) w v xs := by
  obtain ⟨h0, hl, h | ⟨g, cap, cur, rfl, hg, hh, h1, h2, h3, h4⟩⟩ := h
  · obtain ⟨rfl, hz⟩ := h
    have : xs = [] := List.eq_nil_of_length_eq_zero hz
    subst this
    exact ⟨h0, none, 0, rfl, Nat.le_refl _, by omega, fun _ => rfl, Or.inl rfl⟩
  · refine ⟨h0, _, cap, rfl, h1, by unfold maxLen at h2; omega, (fun h => by cases h), Or.inr ⟨g, 0, rfl, ⟨hg, (Array.getElem?_eq_some_iff.1 hh).1⟩, fun j hj => ?_⟩⟩
    have e : cur.toList[j]? = (xs.map (Value.int .u32))[j]? := by rw [← h4, List.getElem?_take]; simp; omega
    rw [getD_map_u32 xs j hj] at e
    simp only [World.cell?, hh, Nat.zero_add]
    simpa using e
/-- A slice of ints. -/
def RdN (D : Nat → Prop) (w : World) (v : Value) (xs : List Int) : Prop :=
  (∀ x ∈ xs, -9223372036854775808 ≤ x ∧ x ≤ 9223372036854775807) ∧ ∃ a cap, v = .slice a xs.length cap ∧ xs.length ≤ cap ∧ cap ≤ 9223372036854775807 ∧ (a = none → cap = 0) ∧
    (xs.length = 0 ∨ ∃ b off, a = some ⟨b, off, none⟩ ∧ D b ∧ ∀ j, j < xs.length → w.cell? ⟨b, off + j, none⟩ = some (.int .i64 (xs.getD j 0)))
theorem RdN.imp {D D' : Nat → Prop} {w w' : World} {v : Value} {xs : List Int} (h : RdN D w v xs) (hD : ∀ g, D g → D' g) (hb : Agree D w w') : RdN D' w' v xs := by
  obtain ⟨h0, a, cap, rfl, h1, h2, h3, h4⟩ := h
  refine ⟨h0, a, cap, rfl, h1, h2, h3, ?_⟩
  rcases h4 with h4 | ⟨b, off, rfl, hlt, hc⟩
  · exact Or.inl h4
  · exact Or.inr ⟨b, off, rfl, hD b hlt, fun j hj => (hb.cell hlt).trans (hc j hj)⟩
/-- A slice of n things: what is so of each, by its block, the slice's place in it, and its number. -/
def RowB (D : Nat → Prop) (n : Nat) (v : Value) (C : Nat → Nat → Nat → Prop) : Prop :=
  ∃ a cap, v = .slice a n cap ∧ n ≤ cap ∧ cap ≤ 9223372036854775807 ∧ (a = none → cap = 0) ∧ (n = 0 ∨ ∃ g o, a = some ⟨g, o, none⟩ ∧ D g ∧ ∀ j, j < n → C g o j)
theorem RowB.imp {D D' : Nat → Prop} {n : Nat} {v : Value} {C C' : Nat → Nat → Nat → Prop} (h : RowB D n v C) (hD : ∀ g, D g → D' g) (hC : ∀ g o j, D g → j < n → C g o j → C' g o j) : RowB D' n v C' := by
  obtain ⟨a, cap, rfl, h1, h2, h3, h4⟩ := h
  refine ⟨a, cap, rfl, h1, h2, h3, ?_⟩
  rcases h4 with h4 | ⟨g, o, rfl, hlt, hc⟩
  · exact Or.inl h4
  · exact Or.inr ⟨g, o, rfl, hD g hlt, fun j hj => hC g o j hlt hj (hc j hj)⟩
/-- What an item's slices are. -/
structure ItV (P : Value → Value → Tr → Prop) (D : Nat → Prop) (w : World) (a1 : Option Addr) (c1 : Nat) (a2 : Option Addr) (c2 : Nat) (a3 : Option Addr) (c3 : Nat) (t : Tr) : Prop where
  rn : RdL D w (.slice a1 t.ns.length c1) t.ns
  rd : RdL D w (.slice a2 t.ds.length c2) t.ds
  bx : RowB D t.kids.length (.slice a3 t.kids.length c3) (fun g o j => ∃ x1 n1 y1 x2 n2 y2, w.cell? ⟨g, o + j * 2, none⟩ = some (.slice x1 n1 y1) ∧ w.cell? ⟨g, o + j * 2 + 1, none⟩ = some (.slice x2 n2 y2) ∧ P (.slice x1 n1 y1) (.slice x2 n2 y2) (t.kids.getD j tr0))
/-- An item's cells. -/
def ItC (P : Value → Value → Tr → Prop) (D : Nat → Prop) (w : World) (g o : Nat) (t : Tr) : Prop :=
  ∃ a1 c1 a2 c2 a3 c3, (w.cell? ⟨g, o, none⟩ = some (.int .u8 t.k) ∧ w.cell? ⟨g, o + 1, none⟩ = some (.bool t.b) ∧ w.cell? ⟨g, o + 2, none⟩ = some (.slice a1 t.ns.length c1) ∧ w.cell? ⟨g, o + 3, none⟩ = some (.slice a2 t.ds.length c2) ∧ w.cell? ⟨g, o + 4, none⟩ = some (.int .i32 t.c) ∧ w.cell? ⟨g, o + 5, none⟩ = some (.slice a3 t.kids.length c3)) ∧ ItV P D w a1 c1 a2 c2 a3 c3 t
/-- An array's two slices, so many levels deep at most. -/
def ArV : Nat → (Nat → Prop) → World → Value → Value → Tr → Prop
  | 0, _, _, _, _, _ => False
  | f + 1, D, w, v1, v2, t => RdN D w v1 t.ns ∧ RowB D t.kids.length v2 (fun g o j => ItC (ArV f D w) D w g (o + j * 6) (t.kids.getD j tr0))
theorem ItV.imp {P P' : Value → Value → Tr → Prop} {D D' : Nat → Prop} {w w' : World} {a1 a2 a3 : Option Addr} {c1 c2 c3 : Nat} {t : Tr} (h : ItV P D w a1 c1 a2 c2 a3 c3 t) (hD : ∀ g, D g → D' g) (hb : Agree D w w') (hP : ∀ v1 v2 t, P v1 v2 t → P' v1 v2 t) : ItV P' D' w' a1 c1 a2 c2 a3 c3 t :=
  ⟨h.rn.imp hD hb, h.rd.imp hD hb, h.bx.imp hD (fun g o j hg hj ⟨x1, n1, y1, x2, n2, y2, e1, e2, e3⟩ => ⟨x1, n1, y1, x2, n2, y2, (hb.cell hg).trans e1, (hb.cell hg).trans e2, hP _ _ _ e3⟩)⟩
theorem ItC.imp {P P' : Value → Value → Tr → Prop} {D D' : Nat → Prop} {w w' : World} {g o : Nat} {t : Tr} (h : ItC P D w g o t) (hg : D g) (hD : ∀ g, D g → D' g) (hb : Agree D w w') (hP : ∀ v1 v2 t, P v1 v2 t → P' v1 v2 t) : ItC P' D' w' g o t := by
  obtain ⟨a1, c1, a2, c2, a3, c3, ⟨e0, e1, e2, e3, e4, e5⟩, hv⟩ := h
  exact ⟨a1, c1, a2, c2, a3, c3, ⟨(hb.cell hg).trans e0, (hb.cell hg).trans e1, (hb.cell hg).trans e2, (hb.cell hg).trans e3, (hb.cell hg).trans e4, (hb.cell hg).trans e5⟩, hv.imp hD hb hP⟩
theorem ArV.imp {D D' : Nat → Prop} {w w' : World} (hD : ∀ g, D g → D' g) (hb : Agree D w w') : ∀ (f f' : Nat) (v1 v2 : Value) (t : Tr), f ≤ f' → ArV f D w v1 v2 t → ArV f' D' w' v1 v2 t
  | 0, _, _, _, _, _, h => h.elim
  | f + 1, 0, _, _, _, hf, h => by omega
  | f + 1, f' + 1, v1, v2, t, hf, h => ⟨h.1.imp hD hb, h.2.imp hD (fun g o j hg hj hc => hc.imp hg hD hb (fun u1 u2 s hs => ArV.imp hD hb f f' u1 u2 s (by omega) hs))⟩
theorem ArV.agree {D : Nat → Prop} {f : Nat} {w w' : World} {v1 v2 : Value} {t : Tr} (h : ArV f D w v1 v2 t) (hb : Agree D w w') : ArV f D w' v1 v2 t := ArV.imp (fun _ h => h) hb f f v1 v2 t (Nat.le_refl _) h
theorem ArV.mono {D D' : Nat → Prop} {f : Nat} {w : World} {v1 v2 : Value} {t : Tr} (h : ArV f D w v1 v2 t) (hD : ∀ g, D g → D' g) : ArV f D' w v1 v2 t := ArV.imp hD (fun _ _ => rfl) f f v1 v2 t (Nat.le_refl _) h
theorem ArV.up {D : Nat → Prop} {f f' : Nat} {w : World} {v1 v2 : Value} {t : Tr} (h : ArV f D w v1 v2 t) (hf : f ≤ f') : ArV f' D w v1 v2 t := ArV.imp (fun _ h => h) (fun _ _ => rfl) f f' v1 v2 t hf h
theorem ItV.agree {D : Nat → Prop} {f : Nat} {w w' : World} {a1 a2 a3 : Option Addr} {c1 c2 c3 : Nat} {t : Tr} (h : ItV (ArV f D w) D w a1 c1 a2 c2 a3 c3 t) (hb : Agree D w w') : ItV (ArV f D w') D w' a1 c1 a2 c2 a3 c3 t := h.imp (fun _ h => h) hb (fun _ _ _ h => h.agree hb)
theorem RowB.len {D : Nat → Prop} {n m : Nat} {a : Option Addr} {c : Nat} {C : Nat → Nat → Nat → Prop} (h : RowB D n (.slice a m c) C) : m = n := by
  obtain ⟨a', c', e, _⟩ := h
  cases e; rfl
theorem RdN.len {D : Nat → Prop} {m : Nat} {w : World} {a : Option Addr} {c : Nat} {xs : List Int} (h : RdN D w (.slice a m c) xs) : m = xs.length := by
  obtain ⟨_, a', c', e, _⟩ := h
  cases e; rfl
theorem RowB.bounds {D : Nat → Prop} {n : Nat} {a : Option Addr} {c : Nat} {C : Nat → Nat → Nat → Prop} (h : RowB D n (.slice a n c) C) : n ≤ c ∧ c ≤ 9223372036854775807 := by
  obtain ⟨a', c', e, h1, h2, _⟩ := h
  cases e; exact ⟨h1, h2⟩
theorem RowB.ptr {D : Nat → Prop} {n : Nat} {a : Option Addr} {c : Nat} {C : Nat → Nat → Nat → Prop} (h : RowB D n (.slice a n c) C) (h0 : 0 < n) : ∃ g o, a = some ⟨g, o, none⟩ ∧ D g ∧ ∀ j, j < n → C g o j := by
  obtain ⟨a', c', e, _, _, _, h4⟩ := h
  cases e
  rcases h4 with h4 | h4
  · omega
  · exact h4
theorem RdN.bounds {D : Nat → Prop} {w : World} {a : Option Addr} {c : Nat} {xs : List Int} (h : RdN D w (.slice a xs.length c) xs) : xs.length ≤ c ∧ c ≤ 9223372036854775807 := by
  obtain ⟨_, a', c', e, h1, h2, _⟩ := h
  obtain ⟨rfl, _, rfl⟩ := Value.slice.inj e
  exact ⟨h1, h2⟩
theorem RdN.ptr {D : Nat → Prop} {w : World} {a : Option Addr} {c : Nat} {xs : List Int} (h : RdN D w (.slice a xs.length c) xs) (h0 : 0 < xs.length) : ∃ g o, a = some ⟨g, o, none⟩ ∧ D g ∧ ∀ j, j < xs.length → w.cell? ⟨g, o + j, none⟩ = some (.int .i64 (xs.getD j 0)) := by
  obtain ⟨_, a', c', e, _, _, _, h4⟩ := h
  obtain ⟨rfl, _, rfl⟩ := Value.slice.inj e
  rcases h4 with h4 | h4
  · omega
  · exact h4
theorem RdN.form {D : Nat → Prop} {w : World} {v : Value} {xs : List Int} (h : RdN D w v xs) : ∃ a c, v = .slice a xs.length c := by
  obtain ⟨_, a', c', e, _⟩ := h
  exact ⟨a', c', e⟩
theorem RowB.form {D : Nat → Prop} {n : Nat} {v : Value} {C : Nat → Nat → Nat → Prop} (h : RowB D n v C) : ∃ a c, v = .slice a n c := by
  obtain ⟨a', c', e, _⟩ := h
  exact ⟨a', c', e⟩
end Go.Proofs.Ytkhmbceadeejpaa

/- The arrays of tokens. -/
namespace Go.Proofs.Ytkhmbceadeejpaa
set_option linter.unusedVariables false
set_option linter.unusedSimpArgs false
open Go.RowKit Go.Shelf

/-- An array without boxes, in blocks of its own from base on: cells of ints, limbs, items. -/
def TA (base : Nat) (W : World) (x1 : Option Addr) (n1 y1 : Nat) (x2 : Option Addr) (n2 y2 : Nat) (t : Tr) : Prop :=
  ∃ D : Nat → Prop, (∀ g, D g → base ≤ g ∧ ∃ o, W.heap[g]? = some o ∧ o.isCells = true ∧ (tyOf o = some 3 ∨ tyOf o = some 52 ∨ tyOf o = some 69)) ∧ ArV 1 D W (.slice x1 n1 y1) (.slice x2 n2 y2) t
section
variable {base base' : Nat} {W W' : World} {x1 x2 : Option Addr} {n1 y1 n2 y2 : Nat} {t : Tr}
theorem TA.mono (h : TA base W x1 n1 y1 x2 n2 y2 t) (hb : base' ≤ base) : TA base' W x1 n1 y1 x2 n2 y2 t := by
  obtain ⟨D, h1, h2⟩ := h
  exact ⟨D, fun g hg => ⟨Nat.le_trans hb (h1 g hg).1, (h1 g hg).2⟩, h2⟩
theorem TA.same (h : TA base W x1 n1 y1 x2 n2 y2 t) (hw : ∀ g o, base ≤ g → W.heap[g]? = some o → o.isCells = true → (tyOf o = some 3 ∨ tyOf o = some 52 ∨ tyOf o = some 69) → W'.heap[g]? = W.heap[g]?) : TA base W' x1 n1 y1 x2 n2 y2 t := by
  obtain ⟨D, h1, h2⟩ := h
  have hA : Agree D W W' := fun g hg => by obtain ⟨a, o, b, c, d⟩ := h1 g hg; exact hw g o a b c d
  exact ⟨D, fun g hg => by obtain ⟨a, o, b, c, d⟩ := h1 g hg; exact ⟨a, o, (hw g o a b c d).trans b, c, d⟩, h2.agree hA⟩
theorem TA.below (h : TA base W x1 n1 y1 x2 n2 y2 t) (hb : Below W.heap.size W W') : TA base W' x1 n1 y1 x2 n2 y2 t :=
  h.same (fun g o _ ho _ _ => hb.block g (Array.getElem?_eq_some_iff.1 ho).1)
theorem TA.set (h : TA base W x1 n1 y1 x2 n2 y2 t) (p : Addr) (hp : p.block < base) (u : Value) : TA base (W.setCell p u) x1 n1 y1 x2 n2 y2 t :=
  h.same (fun g o hg _ _ _ => Below.heap_setCell _ _ _ _ (by omega))
end
theorem rdN_nil (D : Nat → Prop) (W : World) : RdN D W (.slice none 0 0) [] := ⟨(fun x h => by cases h), none, 0, rfl, Nat.le_refl _, by omega, fun _ => rfl, Or.inl rfl⟩
theorem rdL_nil (D : Nat → Prop) (W : World) : RdL D W (.slice none 0 0) [] := ⟨lim_nil, none, 0, rfl, Nat.le_refl _, by omega, fun _ => rfl, Or.inl rfl⟩
theorem rowB_nil (D : Nat → Prop) (C : Nat → Nat → Nat → Prop) : RowB D 0 (.slice none 0 0) C := ⟨none, 0, rfl, Nat.le_refl _, by omega, fun _ => rfl, Or.inl rfl⟩
/-- No array at all. -/
theorem TA.none (base : Nat) (W : World) : TA base W none 0 0 none 0 0 (arrT [] []) :=
  ⟨fun _ => False, fun g h => h.elim, rdN_nil _ _, rowB_nil _ _⟩
theorem BoxA.is {w : World} {B ty : Nat} {xs : Array Value} (h : BoxA w B ty xs) : ∃ o, w.heap[B]? = some o ∧ o.isCells = true ∧ tyOf o = some ty := ⟨_, h, rfl, rfl⟩
/-- Limbs of one's own. -/
theorem own_ty {base : Nat} {w : World} {v : Value} {xs : List Int} (h : Own base w v xs) : RdL (fun g => base ≤ g ∧ ∃ o, w.heap[g]? = some o ∧ o.isCells = true ∧ tyOf o = some 69) w v xs := by
  obtain ⟨h0, hl, h | ⟨g, cap, cur, rfl, hg, hh, h1, h2, h3, h4⟩⟩ := h
  · obtain ⟨rfl, hz⟩ := h
    have : xs = [] := List.eq_nil_of_length_eq_zero hz
    subst this
    exact rdL_nil _ _
  · refine ⟨h0, _, cap, rfl, h1, by unfold maxLen at h2; omega, (fun h => by cases h), Or.inr ⟨g, 0, rfl, ⟨hg, _, hh, rfl, rfl⟩, fun j hj => ?_⟩⟩
    have e : cur.toList[j]? = (xs.map (Value.int .u32))[j]? := by rw [← h4, List.getElem?_take]; simp; omega
    rw [getD_map_u32 xs j hj] at e
    simp only [World.cell?, hh, Nat.zero_add]
    simpa using e
/-- A scalar of a number. -/
theorem NumAt.ta {base : Nat} {w : World} {k : Nat} {b : Bool} {ns ds : List Int} (h : NumAt base w k b ns ds) : TA base w none 0 0 (some ⟨k, 0, none⟩) 1 1 (arrT [] [numT b ns ds]) := by
  obtain ⟨h0, z1, y1, z2, y2, hB, o1, o2⟩ := h
  refine ⟨fun g => base ≤ g ∧ ∃ o, w.heap[g]? = some o ∧ o.isCells = true ∧ (tyOf o = some 3 ∨ tyOf o = some 52 ∨ tyOf o = some 69), fun g hg => hg, rdN_nil _ _, _, 1, rfl, Nat.le_refl _, by omega, (fun h => by cases h), Or.inr ⟨k, 0, rfl, ⟨h0, _, hB, rfl, Or.inr (Or.inl rfl)⟩, fun j hj => ?_⟩⟩
  obtain rfl : j = 0 := by simp [arrT, Tr.kids] at hj; omega
  obtain ⟨r0, r1, r2, r3, r4, r5⟩ := hB.num
  have hD : ∀ g, (base ≤ g ∧ ∃ o, w.heap[g]? = some o ∧ o.isCells = true ∧ tyOf o = some 69) → base ≤ g ∧ ∃ o, w.heap[g]? = some o ∧ o.isCells = true ∧ (tyOf o = some 3 ∨ tyOf o = some 52 ∨ tyOf o = some 69) := fun g ⟨a, o, p, q, r⟩ => ⟨a, o, p, q, Or.inr (Or.inr r)⟩
  exact ⟨z1, y1, z2, y2, _, 0, ⟨r0, r1, r2, r3, r4, r5⟩, (own_ty o1).imp hD (fun _ _ => rfl), (own_ty o2).imp hD (fun _ _ => rfl), rowB_nil _ _⟩
/-- A character's item. -/
theorem ch_item {P : Value → Value → Tr → Prop} {D : Nat → Prop} {w : World} {g o : Nat} {c : Int} (h : ∀ k u, (chCells c)[k]? = some u → w.cell? ⟨g, o + k, none⟩ = some u) : ItC P D w g o (charT c) :=
  ⟨none, 0, none, 0, none, 0, ⟨h 0 _ rfl, h 1 _ rfl, h 2 _ rfl, h 3 _ rfl, h 4 _ rfl, h 5 _ rfl⟩, rdL_nil _ _, rdL_nil _ _, rowB_nil _ _⟩
theorem box_ch {P : Value → Value → Tr → Prop} {D : Nat → Prop} {w : World} {k : Nat} {c : Int} (h : BoxA w k 52 #[.int .u8 2, .bool false, .slice none 0 0, .slice none 0 0, .int .i32 c, .slice none 0 0]) : ItC P D w k 0 (charT c) :=
  ⟨none, 0, none, 0, none, 0, ⟨h.cell 0 rfl, h.cell 1 rfl, h.cell 2 rfl, h.cell 3 rfl, h.cell 4 rfl, h.cell 5 rfl⟩, rdL_nil _ _, rdL_nil _ _, rowB_nil _ _⟩
/-- A scalar of a character. -/
theorem charBox_ta {base : Nat} {w : World} {k : Nat} {c : Int} (hk : base ≤ k) (h : BoxA w k 52 #[.int .u8 2, .bool false, .slice none 0 0, .slice none 0 0, .int .i32 c, .slice none 0 0]) : TA base w none 0 0 (some ⟨k, 0, none⟩) 1 1 (arrT [] [charT c]) := by
  refine ⟨fun g => g = k, fun g hg => ?_, rdN_nil _ _, _, 1, rfl, Nat.le_refl _, by omega, (fun h => by cases h), Or.inr ⟨k, 0, rfl, rfl, fun j hj => ?_⟩⟩
  · subst hg
    obtain ⟨o, a, b, c⟩ := h.is
    exact ⟨hk, o, a, b, Or.inr (Or.inl c)⟩
  · obtain rfl : j = 0 := by simp [arrT, Tr.kids] at hj; omega
    exact box_ch h
theorem ch_flat {ys : List Int} {i : Nat} (hi : i < ys.length) (k : Nat) (hk : k < 6) : (ys.flatMap chCells)[6 * i + k]? = (chCells (ys.getD i 0))[k]? := by
  induction ys generalizing i with
  | nil => simp at hi
  | cons x xs ih =>
    rw [List.flatMap_cons]
    cases i with
    | zero => rw [Nat.mul_zero, Nat.zero_add, List.getElem?_append_left (by simpa [chCells] using hk)]; rfl
    | succ i =>
      rw [List.getElem?_append_right (by simp [chCells]; omega)]
      have e : 6 * (i + 1) + k - (chCells x).length = 6 * i + k := by simp [chCells]; omega
      rw [e, ih (by simpa using hi)]
      simp
/-- The array of characters in quotes. -/
def vecA (ys : List Int) : Tr := arrT [(ys.length : Int)] (if ys = [] then [charT 32] else ys.map charT)
def qA (acc : List Int) : Tr := if acc.length = 1 then arrT [] [charT (acc.getD 0 0)] else vecA acc
theorem TextAt.ta {base : Nat} {w : World} {v : Value} {ys : List Int} (h : TextAt base w v ys) (hl : ys.length ≤ 1000000) : ∃ x1 n1 y1 x2 n2 y2, v = .agg #[.slice x1 n1 y1, .slice x2 n2 y2] ∧ TA base w x1 n1 y1 x2 n2 y2 (vecA ys) := by
  obtain ⟨g1, v2, rfl, h1, h2, h3⟩ := h.form
  have hsh : ∀ D : Nat → Prop, D g1 → RdN D w (.slice (some ⟨g1, 0, none⟩) 1 1) [(ys.length : Int)] := fun D hD => by
    refine ⟨fun x hx => by rw [List.mem_singleton.1 hx]; omega, _, 1, rfl, Nat.le_refl _, by omega, (fun h => by cases h), Or.inr ⟨g1, 0, rfl, hD, fun j hj => ?_⟩⟩
    obtain rfl : j = 0 := by simp at hj; omega
    exact h2.cell 0 rfl
  rcases h3 with ⟨rfl, g2, rfl, h4, h5⟩ | ⟨hne, h4⟩
  · refine ⟨_, _, _, _, _, _, rfl, fun g => g = g1 ∨ g = g2, fun g hg => ?_, hsh _ (Or.inl rfl), _, 1, rfl, Nat.le_refl _, by omega, (fun h => by cases h), Or.inr ⟨g2, 0, rfl, Or.inr rfl, fun j hj => ?_⟩⟩
    · rcases hg with rfl | rfl
      · obtain ⟨o, a, b, c⟩ := h2.is
        exact ⟨h1, o, a, b, Or.inl c⟩
      · obtain ⟨o, a, b, c⟩ := h5.is
        exact ⟨h4, o, a, b, Or.inr (Or.inl c)⟩
    · obtain rfl : j = 0 := by simp [vecA, arrT, Tr.kids] at hj; omega
      exact box_ch h5
  · obtain ⟨a, c, rfl⟩ := row_form2 h4
    have h0 : 0 < ys.length := List.length_pos_iff.2 hne
    have hrow := h4
    obtain ⟨_, hx | ⟨g, cap, cur, hv, hg, hh, c1, c2, _, _⟩⟩ := h4
    · omega
    · obtain ⟨rfl, _, rfl⟩ := Value.slice.inj hv
      have hk : (vecA ys).kids = ys.map charT := by unfold vecA arrT Tr.kids; simp only; rw [if_neg hne]
      have hkl : (vecA ys).kids.length = ys.length := by rw [hk]; simp
      refine ⟨_, _, _, _, _, _, rfl, fun q => q = g1 ∨ q = g, fun q hq => ?_, hsh _ (Or.inl rfl), ?_⟩
      · rcases hq with rfl | rfl
        · obtain ⟨o, a, b, c⟩ := h2.is
          exact ⟨h1, o, a, b, Or.inl c⟩
        · exact ⟨hg, _, hh, rfl, Or.inr (Or.inl rfl)⟩
      · refine ⟨_, c, by rw [hkl], by rw [hkl]; exact c1, by unfold maxLen at c2; omega, (fun h => by cases h), Or.inr ⟨g, 0, rfl, Or.inr rfl, fun j hj => ?_⟩⟩
        rw [hkl] at hj
        have e : (vecA ys).kids.getD j tr0 = charT (ys.getD j 0) := by rw [hk]; simp [List.getD, hj]
        rw [e]
        refine ch_item (fun k u hu => ?_)
        have hk6 : k < 6 := by
          refine Decidable.byContradiction fun hn => ?_
          rw [List.getElem?_eq_none (by simp [chCells]; omega)] at hu
          cases hu
        have := hrow.cellAt (6 * j + k) (by omega)
        rw [show 0 + j * 6 + k = 6 * j + k by omega, this, ch_flat hj k hk6]
        exact hu
theorem decs_from (s : ByteArray) : ∀ (l : List Int) (pre : List UInt8) (f : Nat), (∀ c ∈ l, okRune c) → s.data.toList = pre ++ (runesBytes l).data.toList → s.size ≤ pre.length + f → decs s f pre.length = l
  | [], pre, f, _, hs, hf => by
    have hsz : s.data.toList.length = s.size := by simp
    rw [runesBytes_nil, List.append_nil] at hs
    rw [hs] at hsz
    cases f with
    | zero => rw [decs]
    | succ f => rw [decs, if_neg (by omega)]
  | c :: l, pre, f, hok, hs, hf => by
    have hc := hok c (by simp)
    have hlen := enc_len c hc
    have hsz : s.data.toList.length = s.size := by simp
    rw [runesBytes_cons] at hs
    have hl := congrArg List.length hs
    rw [List.length_append, List.length_append, hsz] at hl
    have hd : Utf8.decode s pre.length = (c.toNat, (Utf8.encode c).data.toList.length) := by
      rw [← Lib.decodeL_drop, hs, List.drop_left]
      exact enc_dec c hc _
    obtain ⟨f, rfl⟩ : ∃ g, f = g + 1 := ⟨f - 1, by omega⟩
    have hcn : ((c.toNat : Nat) : Int) = c := by unfold okRune at hc; omega
    rw [decs, if_pos (by omega), hd]
    simp only
    rw [hcn]
    have e : pre.length + (Utf8.encode c).data.toList.length = (pre ++ (Utf8.encode c).data.toList).length := by simp
    rw [e, decs_from s l (pre ++ (Utf8.encode c).data.toList) f (fun d hd => hok d (by simp [hd])) (by rw [hs, List.append_assoc]) (by rw [List.length_append]; omega)]
theorem decs_back (l : List Int) (hok : ∀ c ∈ l, okRune c) : decs (runesBytes l) (runesBytes l).size 0 = l := by
  have := decs_from (runesBytes l) l [] (runesBytes l).size hok (by simp) (by simp)
  simpa using this
section
variable {w : World}
set_option maxRecDepth 100000 in
set_option maxHeartbeats 1600000 in
theorem literal_noneA : Calls Try.prog 35 #[.slice none 0 0] w fun e w' => ∃ v, e = .returned v ∧ TextAt w.heap.size w' v [] ∧ Below w.heap.size w w' := by
  have k0 := below_alloc w (.cells #[.slice none 0 0, .slice none 0 0] 31)
  have RA := boxA_new w #[.slice none 0 0, .slice none 0 0] 31
  have s0 : (w.alloc (.cells #[.slice none 0 0, .slice none 0 0] 31)).heap.size = w.heap.size + 1 := by simp
  have hcv : ∀ W : World, (convert 39 9 (.slice none 0 0)).run Try.prog W = .ok (.string ⟨#[]⟩) W := fun W => by
    rw [run_convert_runes_string W _ _ _ none 0 0 Try.underlying39 Try.underlying21 Try.underlying9]
    simp [Conv.runesToString, go_sem]
    rfl
  go_enter Try.func35, Try.ntmps35
  go_wp2_with fail
  generalize w.alloc (.cells #[.slice none 0 0, .slice none 0 0] 31) = w0 at *
  refine (text_any _ w0 (by decide)).mono ?_
  rintro e w3 ⟨v, rfl, hA, k3⟩
  obtain ⟨a1, n1, c1, a2, n2, c2, rfl⟩ := hA.two
  rw [s0] at hA
  have HY : Hid (TextAt (w.heap.size + 1) w3 (.agg #[.slice a1 n1 c1, .slice a2 n2 c2]) []) := hA
  clear hA
  have R3 := RA.below k3 (by omega)
  have kW : Below w.heap.size w w3 := k0.trans (k3.mono (by omega))
  have q0 := R3.frozen 0
  have q1 := R3.frozen 1
  have q2 := R3.cell 0 rfl
  have q3 := R3.cell 1 rfl
  go_wp2
  have R4 := R3.set2 (.slice a1 n1 c1) (.slice a2 n2 c2)
  have x0 := R4.cell 0 rfl
  have x1 := R4.cell 1 rfl
  refine bodyPost_ret (v := .agg #[.slice a1 n1 c1, .slice a2 n2 c2]) (by simp [results, Try.results35, go_sem, x0, x1]) rfl ?_
  exact ⟨_, rfl, ((HY.out.setC 0 _).setC 1 _).mono (by omega), (kW.setCell (p := ⟨w.heap.size, 0, none⟩) (Nat.le_refl _) _).setCell (p := ⟨w.heap.size, 1, none⟩) (Nat.le_refl _) _⟩
theorem literal_ownA {base : Nat} {v : Value} {acc : List Int} (h : OwnR base w v acc) (hok : ∀ c ∈ acc, okRune c) (hl : acc.length ≤ 4096) : Calls Try.prog 35 #[v] w fun e w' => ∃ x1 n1 y1 x2 n2 y2, e = .returned (.agg #[.slice x1 n1 y1, .slice x2 n2 y2]) ∧ TA w.heap.size w' x1 n1 y1 x2 n2 y2 (qA acc) ∧ Below w.heap.size w w' := by
  have hrow := h
  obtain ⟨_, h | ⟨g, cap, cur, hv, hg, hh, h1, h2, _, _⟩⟩ := h
  · rw [h.1]
    have : acc = [] := List.eq_nil_of_length_eq_zero h.2
    subst this
    refine literal_noneA.mono ?_
    rintro e w' ⟨v, rfl, ht, hb⟩
    obtain ⟨x1, n1, y1, x2, n2, y2, rfl, hA⟩ := ht.ta (by simp)
    exact ⟨x1, n1, y1, x2, n2, y2, rfl, hA, hb⟩
  · subst hv
    have hc : ∀ j, j < acc.length → w.cell? ⟨g, 0 + j, none⟩ = some (.int .i32 (acc.getD j 0)) := fun j hj => by
      have := hrow.cellAt j (by omega)
      rw [Nat.zero_add, this]
      simp [List.getD, hj]
    have hcap : cap ≤ 9223372036854775807 := by unfold maxLen at h2; omega
    by_cases h1l : acc.length = 1
    · have hv := hok (acc.getD 0 0) (getD_mem (by omega))
      have h0 := hc 0 (by omega)
      rw [h1l]
      refine (literal_one (acc.getD 0 0) (by omega) hcap h0 (lt_of_block hh) hv).mono ?_
      rintro e w' ⟨k, rfl, hk, hB, hb⟩
      exact ⟨_, _, _, _, _, _, rfl, (by unfold qA; rw [if_pos h1l]; exact charBox_ta hk hB), hb⟩
    · refine (literal_many h1l h1 hcap hc (lt_of_block hh) (by have := runesBytes_size_le acc; omega)).mono ?_
      rintro e w' ⟨v, rfl, ht, hb⟩
      rw [decs_back acc hok, List.take_of_length_le hl] at ht
      obtain ⟨x1, n1, y1, x2, n2, y2, rfl, hA⟩ := ht.ta (by omega)
      exact ⟨x1, n1, y1, x2, n2, y2, rfl, (by unfold qA; rw [if_neg h1l]; exact hA), hb⟩
end
/-- na tells the array of each number's text. -/
def TellsArr (na : ByteArray → Tr) : Prop := ∀ T b ns ds, TextSpec T b ns ds 0 → (RightP b ns ds → na T = arrT [] [numT b ns ds]) ∧ (¬ RightP b ns ds → na T = arrT [] [numT false [] [1]])
theorem tellsArr_ex : ∃ na, TellsArr na := by
  have h : ∀ T : ByteArray, ∃ t : Tr, ∀ b ns ds, TextSpec T b ns ds 0 → (RightP b ns ds → t = arrT [] [numT b ns ds]) ∧ (¬ RightP b ns ds → t = arrT [] [numT false [] [1]]) := fun T => by
    by_cases hx : ∃ b ns ds, TextSpec T b ns ds 0
    · obtain ⟨b, ns, ds, h⟩ := hx
      by_cases hr : RightP b ns ds
      · refine ⟨arrT [] [numT b ns ds], fun b' ns' ds' h' => ?_⟩
        obtain ⟨rfl, rfl, rfl, _⟩ := h.unique h'
        exact ⟨fun _ => rfl, fun hn => absurd hr hn⟩
      · refine ⟨arrT [] [numT false [] [1]], fun b' ns' ds' h' => ?_⟩
        obtain ⟨rfl, rfl, rfl, _⟩ := h.unique h'
        exact ⟨fun hp => absurd hp hr, fun _ => rfl⟩
    · exact ⟨tr0, fun b ns ds h => absurd ⟨b, ns, ds, h⟩ hx⟩
  exact ⟨fun T => Classical.choose (h T), fun T b ns ds he => Classical.choose_spec (h T) b ns ds he⟩
/-- The array of a token, by its kind and text. -/
noncomputable def arrF (na : ByteArray → Tr) (kd : Int) (tx : ByteArray) : Tr :=
  if kd = 1 then na tx else if kd = 2 then (match qscan (scanR tx tx.size 0 []).1 (scanR tx tx.size 0 []).1.length 1 [] with | some p => qA p.1 | none => arrT [] []) else arrT [] []
end Go.Proofs.Ytkhmbceadeejpaa

/- lex.textAt, with its array. -/
namespace Go.Proofs.Ytkhmbceadeejpaa
set_option linter.unusedVariables false
set_option linter.unusedSimpArgs false
open Go.RowKit Go.Shelf

section
variable {w : World} {cs : List Int} {b off cap : Nat}
set_option maxRecDepth 100000 in
set_option maxHeartbeats 6400000 in
theorem textAt_anyA (at' : Nat) (hat : at' < cs.length) (hl : cs.length ≤ 1024) (hk : cs.length ≤ cap) (hcap : cap ≤ 9223372036854775807) (hc : ∀ m, m < cs.length → w.cell? ⟨b, off + m, none⟩ = some (.int .i32 (cs.getD m 0))) (hlt : b < w.heap.size) (hok : ∀ c ∈ cs, okRune c) :
    Calls Try.prog 24 #[.slice (some ⟨b, off, none⟩) cs.length cap, .int .i64 at'] w fun e w' =>
      (∃ acc j, qscan cs cs.length (at' + 1) [] = some (acc, j) ∧ ∃ a1 n1 c1 a2 n2 c2, e = .returned (.tuple #[.agg #[.int .u8 2, .string (cutText cs at' j), .int .i64 at', .slice a1 n1 c1, .slice a2 n2 c2], .int .i64 j, .int .i64 0]) ∧ TA w.heap.size w' a1 n1 c1 a2 n2 c2 (qA acc) ∧ Below w.heap.size w w') ∨
      (qscan cs cs.length (at' + 1) [] = none ∧ e = .returned (.tuple #[.agg #[.int .u8 0, .string ⟨#[]⟩, .int .i64 0, .slice none 0 0, .slice none 0 0], .int .i64 0, .int .i64 26]) ∧ Below w.heap.size w w') := by
  obtain ⟨i0, hi, hz0, hz1, hz2⟩ := info_parts info_i32
  have k0 := below_alloc w (.cells #[.int .u8 0, .string ⟨#[]⟩, .int .i64 0, .slice none 0 0, .slice none 0 0] 33)
  have RT := boxA_new w #[.int .u8 0, .string ⟨#[]⟩, .int .i64 0, .slice none 0 0, .slice none 0 0] 33
  have s0 : (w.alloc (.cells #[.int .u8 0, .string ⟨#[]⟩, .int .i64 0, .slice none 0 0, .slice none 0 0] 33)).heap.size = w.heap.size + 1 := by simp
  have HC : Hid (∀ m, m < cs.length → (w.alloc (.cells #[.int .u8 0, .string ⟨#[]⟩, .int .i64 0, .slice none 0 0, .slice none 0 0] 33)).cell? ⟨b, off + m, none⟩ = some (.int .i32 (cs.getD m 0))) := fun m hm => (k0.cell (p := ⟨b, off + m, none⟩) hlt).trans (hc m hm)
  have HOK : Hid (∀ c ∈ cs, okRune c) := hok
  clear hc hok
  go_enter Try.func24, Try.ntmps24
  go_wp2_with fail
  generalize w.alloc (.cells #[.int .u8 0, .string ⟨#[]⟩, .int .i64 0, .slice none 0 0, .slice none 0 0] 33) = w0 at *
  go_loopw [7, 8] (fun ct iv wr => ∃ (i f : Nat) (acc : List Int) (a : Option Addr) (c : Nat), ct = .slice a acc.length c ∧ iv = .int .i64 i ∧ OwnR (w.heap.size + 1) wr (.slice a acc.length c) acc ∧ Hid (qscan cs f i acc = qscan cs cs.length (at' + 1) []) ∧ Hid (∀ c ∈ acc, okRune c) ∧ cs.length ≤ i + f ∧ at' < i ∧ acc.length ≤ i ∧ i ≤ cs.length ∧ Below (w.heap.size + 1) w0 wr) (fun _ iv _ => cs.length - (intOf iv).toNat)
  case atStart => exact ⟨at' + 1, cs.length, [], none, 0, rfl, by go_num, World.ownsRow_nil _ _ _ _, rfl, (fun c h => by cases h), by omega, by omega, by simp, by omega, by rw [← s0]; exact Below.refl _ _⟩
  case round =>
    obtain ⟨i, f, acc, a, c, rfl, rfl, hO, HQ, HA, hf, hai, hacc, hile, hb⟩ := hrel
    have hsz := hb.size
    by_cases hil : i < cs.length
    · obtain ⟨f, rfl⟩ : ∃ f', f = f' + 1 := ⟨f - 1, by omega⟩
      have hci := (hb.cell (p := ⟨b, off + i, none⟩) (show b < w.heap.size + 1 by omega)).trans (HC.out i hil)
      have HI : Hid (okRune (cs.getD i 0)) := HOK.out _ (getD_mem hil)
      by_cases h39 : cs.getD i 0 = 39
      · rw [h39] at hci
        have HCr : Hid (∀ m, m < cs.length → wr.cell? ⟨b, off + m, none⟩ = some (.int .i32 (cs.getD m 0))) := fun m hm => (hb.cell (p := ⟨b, off + m, none⟩) (show b < w.heap.size + 1 by omega)).trans (HC.out m hm)
        by_cases hend : i + 1 = cs.length
        · have HE : Hid (qscan cs cs.length (at' + 1) [] = some (acc, i + 1)) := by
            unfold Hid
            rw [← HQ.out, qscan, if_pos hil, if_pos h39, if_pos (Or.inl hend)]
          have he1 : (((i : Int) + 1) == ((cs.length : Nat) : Int)) = true := by rw [beq_iff_eq]; omega
          have he2 : decide (((i : Int) + 1) = ((cs.length : Nat) : Int)) = true := decide_eq_true (by omega)
          clear hend
          go_wp2_with fail
          have hp := piece_any (w := wr) 2 at' (i + 1) (by omega) (by omega) hk hcap HCr.out (by omega)
          rw [show (((i + 1 : Nat)) : Int) = (i : Int) + 1 from rfl] at hp
          refine hp.mono ?_
          clear hp
          rintro e w2 ⟨rfl, k2⟩
          obtain ⟨T, hTT⟩ : ∃ T, cutText cs at' (i + 1) = T := ⟨_, rfl⟩
          have HTc : Hid (cutText cs at' (i + 1) = T) := hTT
          rw [hTT]
          clear hTT
          have s2 := k2.size
          have kt := below_alloc w2 (.cells #[.int .u8 2, .string T, .int .i64 at', .slice none 0 0, .slice none 0 0] 33)
          have Tk := boxA_new w2 #[.int .u8 2, .string T, .int .i64 at', .slice none 0 0, .slice none 0 0] 33
          have st : (w2.alloc (.cells #[.int .u8 2, .string T, .int .i64 at', .slice none 0 0, .slice none 0 0] 33)).heap.size = w2.heap.size + 1 := by simp
          have hO3 := (OwnR.below hO k2 (Nat.le_refl _)).below kt (Nat.le_refl _)
          go_wp2_with fail
          generalize hA : w2.alloc (.cells #[.int .u8 2, .string T, .int .i64 at', .slice none 0 0, .slice none 0 0] 33) = w3 at *
          clear hA
          refine (literal_ownA hO3 HA.out (by omega)).mono ?_
          rintro e w6 ⟨a1, n1, c1, a2, n2, c2, rfl, hTA, k6⟩
          have HTA : Hid (TA w3.heap.size w6 a1 n1 c1 a2 n2 c2 (qA acc)) := hTA
          clear hTA
          have s6 := k6.size
          have Tk6 := Tk.below k6 (by omega)
          have q3 := Tk6.cell 3 rfl
          have q4 := Tk6.cell 4 rfl
          have f3 := Tk6.frozen 3
          have f4 := Tk6.frozen 4
          have Tk7 := Tk6.set34 (.slice a1 n1 c1) (.slice a2 n2 c2)
          have m0 := Tk7.cell 0 rfl
          have m1 := Tk7.cell 1 rfl
          have m2 := Tk7.cell 2 rfl
          have m3 := Tk7.cell 3 rfl
          have m4 := Tk7.cell 4 rfl
          have T6 : Below w.heap.size w w6 := (((k0.trans (hb.mono (by omega))).trans (k2.mono (by omega))).trans (kt.mono (by omega))).trans (k6.mono (by omega))
          have R6 := (((RT.below hb (by omega)).below k2 (by omega)).below kt (by omega)).below k6 (by omega)
          have hRT : w2.heap.size ≠ w.heap.size := by omega
          have R7 := (R6.other (p := ⟨w2.heap.size, 3, none⟩) hRT (.slice a1 n1 c1)).other (p := ⟨w2.heap.size, 4, none⟩) hRT (.slice a2 n2 c2)
          have n0 := R7.cell 0 rfl
          have n1' := R7.cell 1 rfl
          have n2' := R7.cell 2 rfl
          have n3 := R7.cell 3 rfl
          have n4 := R7.cell 4 rfl
          have o0 := R7.frozen 0
          have o1 := R7.frozen 1
          have o2 := R7.frozen 2
          have o3 := R7.frozen 3
          have o4 := R7.frozen 4
          go_wp2
          have R8 := R7.set5 (.int .u8 2) (.string T) (.int .i64 at') (.slice a1 n1 c1) (.slice a2 n2 c2)
          have x0 := R8.cell 0 rfl
          have x1 := R8.cell 1 rfl
          have x2 := R8.cell 2 rfl
          have x3 := R8.cell 3 rfl
          have x4 := R8.cell 4 rfl
          refine bodyPost_ret (v := .tuple #[.agg #[.int .u8 2, .string T, .int .i64 at', .slice a1 n1 c1, .slice a2 n2 c2], .int .i64 ((i : Int) + 1), .int .i64 0]) (by simp [results, Try.results24, go_sem, x0, x1, x2, x3, x4]) rfl ?_
          refine Or.inl ⟨acc, i + 1, HE.out, a1, n1, c1, a2, n2, c2, by rw [HTc.out]; rfl, (((((((HTA.out.set ⟨w2.heap.size, 3, none⟩ (show w2.heap.size < w3.heap.size by omega) _).set ⟨w2.heap.size, 4, none⟩ (show w2.heap.size < w3.heap.size by omega) _).set ⟨w.heap.size, 0, none⟩ (show w.heap.size < w3.heap.size by omega) _).set ⟨w.heap.size, 1, none⟩ (show w.heap.size < w3.heap.size by omega) _).set ⟨w.heap.size, 2, none⟩ (show w.heap.size < w3.heap.size by omega) _).set ⟨w.heap.size, 3, none⟩ (show w.heap.size < w3.heap.size by omega) _).set ⟨w.heap.size, 4, none⟩ (show w.heap.size < w3.heap.size by omega) _).mono (by omega), ?_⟩
          exact Below.set5 ((T6.setCell (p := ⟨w2.heap.size, 3, none⟩) (show w.heap.size ≤ w2.heap.size by omega) _).setCell (p := ⟨w2.heap.size, 4, none⟩) (show w.heap.size ≤ w2.heap.size by omega) _) (Nat.le_refl _) _ _ _ _ _
        have hcj := HCr.out (i + 1) (by omega)
        by_cases hd39 : cs.getD (i + 1) 0 = 39
        · rw [hd39] at hcj
          have HS : Hid (qscan cs f (i + 2) (acc ++ [39]) = qscan cs cs.length (at' + 1) []) := by
            unfold Hid
            rw [← HQ.out, qscan, if_pos hil, if_pos h39, if_neg (by omega)]
          go_wp2_with (at_builtin; refine wpList_append_own _ rfl _ _ 39 rfl (w.heap.size + 1) 21 i0 (.int .i32 0) 1 4 Try.underlying39 hi hz0 hz1 hz2 rfl (by decide) _ _ _ rfl (hO.alloc _) ⟨wr.heap.size, 0, none⟩ 1 1 [.int .i32 39] rfl rfl ?c1 ?c2 ?c3 ?c4 ?c5 ?_)
          case c1 =>
            intro j u hj
            match j, hj with
            | 0, hj => simp at hj; subst hj; simp [Addr.add]
          case c2 => intro u hu; simp at hu; subst hu; rfl
          case c3 => unfold maxLen; omega
          case c4 => omega
          case c5 => simp; omega
          intro v' w1 hown' hgrow _
          have hO3 : OwnR (w.heap.size + 1) w1 v' (acc ++ [39]) := by
            unfold OwnR
            rw [List.length_append, List.map_append]; exact hown'
          obtain ⟨a2, c2, rfl⟩ := hO3.form
          have hrow : ∀ k, (Value.slice a acc.length c).ownBlock = some k → w.heap.size + 1 ≤ k := fun k hk => (hO.lt k hk).1
          have hb3 : Below (w.heap.size + 1) w0 w1 := (hb.alloc (by omega) _).grown hgrow (by simp; omega) (fun k hk => by have := hrow k hk; omega)
          clear hown' hgrow hO hrow
          go_wp2
          go_roundw
          case rel => exact ⟨i + 2, f, acc ++ [39], a2, c2, (by first | rfl | simp), by go_num, hO3, HS, (ok_app HA.out (by unfold okRune; omega)), by omega, by omega, (by simp; omega), by omega, hb3⟩
          case measure => simp [intOf]; omega
        generalize hD : cs.getD (i + 1) 0 = DC at *
        have HE : Hid (qscan cs cs.length (at' + 1) [] = some (acc, i + 1)) := by
          unfold Hid
          rw [← HQ.out, qscan, if_pos hil, if_pos h39, hD, if_pos (Or.inr hd39)]
        have he1 : (((i : Int) + 1) == ((cs.length : Nat) : Int)) = false := by rw [beq_eq_false_iff_ne]; omega
        have he2 : (DC != 39) = true := by rw [bne_iff_ne]; exact hd39
        go_wp2_with fail
        have hp := piece_any (w := wr) 2 at' (i + 1) (by omega) (by omega) hk hcap HCr.out (by omega)
        rw [show (((i + 1 : Nat)) : Int) = (i : Int) + 1 from rfl] at hp
        refine hp.mono ?_
        clear hp
        rintro e w2 ⟨rfl, k2⟩
        obtain ⟨T, hTT⟩ : ∃ T, cutText cs at' (i + 1) = T := ⟨_, rfl⟩
        have HTc : Hid (cutText cs at' (i + 1) = T) := hTT
        rw [hTT]
        clear hTT
        have s2 := k2.size
        have kt := below_alloc w2 (.cells #[.int .u8 2, .string T, .int .i64 at', .slice none 0 0, .slice none 0 0] 33)
        have Tk := boxA_new w2 #[.int .u8 2, .string T, .int .i64 at', .slice none 0 0, .slice none 0 0] 33
        have st : (w2.alloc (.cells #[.int .u8 2, .string T, .int .i64 at', .slice none 0 0, .slice none 0 0] 33)).heap.size = w2.heap.size + 1 := by simp
        have hO3 := (OwnR.below hO k2 (Nat.le_refl _)).below kt (Nat.le_refl _)
        go_wp2_with fail
        generalize hA : w2.alloc (.cells #[.int .u8 2, .string T, .int .i64 at', .slice none 0 0, .slice none 0 0] 33) = w3 at *
        clear hA
        refine (literal_ownA hO3 HA.out (by omega)).mono ?_
        rintro e w6 ⟨a1, n1, c1, a2, n2, c2, rfl, hTA, k6⟩
        have HTA : Hid (TA w3.heap.size w6 a1 n1 c1 a2 n2 c2 (qA acc)) := hTA
        clear hTA
        have s6 := k6.size
        have Tk6 := Tk.below k6 (by omega)
        have q3 := Tk6.cell 3 rfl
        have q4 := Tk6.cell 4 rfl
        have f3 := Tk6.frozen 3
        have f4 := Tk6.frozen 4
        have Tk7 := Tk6.set34 (.slice a1 n1 c1) (.slice a2 n2 c2)
        have m0 := Tk7.cell 0 rfl
        have m1 := Tk7.cell 1 rfl
        have m2 := Tk7.cell 2 rfl
        have m3 := Tk7.cell 3 rfl
        have m4 := Tk7.cell 4 rfl
        have T6 : Below w.heap.size w w6 := (((k0.trans (hb.mono (by omega))).trans (k2.mono (by omega))).trans (kt.mono (by omega))).trans (k6.mono (by omega))
        have R6 := (((RT.below hb (by omega)).below k2 (by omega)).below kt (by omega)).below k6 (by omega)
        have hRT : w2.heap.size ≠ w.heap.size := by omega
        have R7 := (R6.other (p := ⟨w2.heap.size, 3, none⟩) hRT (.slice a1 n1 c1)).other (p := ⟨w2.heap.size, 4, none⟩) hRT (.slice a2 n2 c2)
        have n0 := R7.cell 0 rfl
        have n1' := R7.cell 1 rfl
        have n2' := R7.cell 2 rfl
        have n3 := R7.cell 3 rfl
        have n4 := R7.cell 4 rfl
        have o0 := R7.frozen 0
        have o1 := R7.frozen 1
        have o2 := R7.frozen 2
        have o3 := R7.frozen 3
        have o4 := R7.frozen 4
        go_wp2
        have R8 := R7.set5 (.int .u8 2) (.string T) (.int .i64 at') (.slice a1 n1 c1) (.slice a2 n2 c2)
        have x0 := R8.cell 0 rfl
        have x1 := R8.cell 1 rfl
        have x2 := R8.cell 2 rfl
        have x3 := R8.cell 3 rfl
        have x4 := R8.cell 4 rfl
        refine bodyPost_ret (v := .tuple #[.agg #[.int .u8 2, .string T, .int .i64 at', .slice a1 n1 c1, .slice a2 n2 c2], .int .i64 ((i : Int) + 1), .int .i64 0]) (by simp [results, Try.results24, go_sem, x0, x1, x2, x3, x4]) rfl ?_
        refine Or.inl ⟨acc, i + 1, HE.out, a1, n1, c1, a2, n2, c2, by rw [HTc.out]; rfl, (((((((HTA.out.set ⟨w2.heap.size, 3, none⟩ (show w2.heap.size < w3.heap.size by omega) _).set ⟨w2.heap.size, 4, none⟩ (show w2.heap.size < w3.heap.size by omega) _).set ⟨w.heap.size, 0, none⟩ (show w.heap.size < w3.heap.size by omega) _).set ⟨w.heap.size, 1, none⟩ (show w.heap.size < w3.heap.size by omega) _).set ⟨w.heap.size, 2, none⟩ (show w.heap.size < w3.heap.size by omega) _).set ⟨w.heap.size, 3, none⟩ (show w.heap.size < w3.heap.size by omega) _).set ⟨w.heap.size, 4, none⟩ (show w.heap.size < w3.heap.size by omega) _).mono (by omega), ?_⟩
        exact Below.set5 ((T6.setCell (p := ⟨w2.heap.size, 3, none⟩) (show w.heap.size ≤ w2.heap.size by omega) _).setCell (p := ⟨w2.heap.size, 4, none⟩) (show w.heap.size ≤ w2.heap.size by omega) _) (Nat.le_refl _) _ _ _ _ _
      generalize hC : cs.getD i 0 = C at *
      have HS : Hid (qscan cs f (i + 1) (acc ++ [C]) = qscan cs cs.length (at' + 1) []) := by
        unfold Hid
        rw [← HQ.out, qscan, if_pos hil, hC, if_neg h39]
      go_wp2_with (at_builtin; refine wpList_append_own _ rfl _ _ 39 rfl (w.heap.size + 1) 21 i0 (.int .i32 0) 1 4 Try.underlying39 hi hz0 hz1 hz2 rfl (by decide) _ _ _ rfl (hO.alloc _) ⟨wr.heap.size, 0, none⟩ 1 1 [.int .i32 C] rfl rfl ?c1 ?c2 ?c3 ?c4 ?c5 ?_)
      case c1 =>
        intro j u hj
        match j, hj with
        | 0, hj => simp at hj; subst hj; simp [Addr.add]
      case c2 => intro u hu; simp at hu; subst hu; rfl
      case c3 => unfold maxLen; omega
      case c4 => omega
      case c5 => simp; omega
      intro v' w1 hown' hgrow _
      have hO3 : OwnR (w.heap.size + 1) w1 v' (acc ++ [C]) := by
        unfold OwnR
        rw [List.length_append, List.map_append]; exact hown'
      obtain ⟨a2, c2, rfl⟩ := hO3.form
      have hrow : ∀ k, (Value.slice a acc.length c).ownBlock = some k → w.heap.size + 1 ≤ k := fun k hk => (hO.lt k hk).1
      have hb3 : Below (w.heap.size + 1) w0 w1 := (hb.alloc (by omega) _).grown hgrow (by simp; omega) (fun k hk => by have := hrow k hk; omega)
      clear hown' hgrow hO hrow
      go_wp2
      go_roundw
      case rel => exact ⟨i + 1, f, acc ++ [C], a2, c2, (by first | rfl | simp), by go_num, hO3, HS, (ok_app HA.out HI.out), by omega, by omega, (by simp; omega), by omega, hb3⟩
      case measure => simp [intOf]; omega
    · have HN : Hid (qscan cs cs.length (at' + 1) [] = none) := by
        unfold Hid
        rw [← HQ.out]
        cases f with
        | zero => rfl
        | succ f => rw [qscan, if_neg hil]
      have R7 := RT.below hb (by omega)
      have n0 := R7.cell 0 rfl
      have n1 := R7.cell 1 rfl
      have n2 := R7.cell 2 rfl
      have n3 := R7.cell 3 rfl
      have n4 := R7.cell 4 rfl
      have o0 := R7.frozen 0
      have o1 := R7.frozen 1
      have o2 := R7.frozen 2
      have o3 := R7.frozen 3
      have o4 := R7.frozen 4
      go_wp2
      have R8 := R7.set5 (.int .u8 0) (.string ⟨#[]⟩) (.int .i64 0) (.slice none 0 0) (.slice none 0 0)
      have x0 := R8.cell 0 rfl
      have x1 := R8.cell 1 rfl
      have x2 := R8.cell 2 rfl
      have x3 := R8.cell 3 rfl
      have x4 := R8.cell 4 rfl
      refine bodyPost_ret (v := .tuple #[.agg #[.int .u8 0, .string ⟨#[]⟩, .int .i64 0, .slice none 0 0, .slice none 0 0], .int .i64 0, .int .i64 26]) (by simp [results, Try.results24, go_sem, x0, x1, x2, x3, x4]) rfl ?_
      exact Or.inr ⟨HN.out, rfl, Below.set5 (k0.trans (hb.mono (by omega))) (Nat.le_refl _) _ _ _ _ _⟩
end
end Go.Proofs.Ytkhmbceadeejpaa

/- lex.next, with the token's array. -/
namespace Go.Proofs.Ytkhmbceadeejpaa
set_option linter.unusedVariables false
set_option linter.unusedSimpArgs false
open Go.RowKit Go.Shelf

/-- A token with its array, its end, and no error; or an error. -/
def TokIsA (na : ByteArray → Tr) (w : World) (cs : List Int) (i : Nat) (r : Int × Nat × Int) (e : Ending) (w' : World) : Prop :=
  (r.2.2 = 0 ∧ ∃ a1 n1 c1 a2 n2 c2, e = .returned (.tuple #[.agg #[.int .u8 r.1, .string (cutText cs i r.2.1), .int .i64 i, .slice a1 n1 c1, .slice a2 n2 c2], .int .i64 r.2.1, .int .i64 0]) ∧ TA w.heap.size w' a1 n1 c1 a2 n2 c2 (arrF na r.1 (cutText cs i r.2.1)) ∧ Below w.heap.size w w') ∨
  (¬ r.2.2 = 0 ∧ e = .returned (.tuple #[.agg #[.int .u8 0, .string ⟨#[]⟩, .int .i64 0, .slice none 0 0, .slice none 0 0], .int .i64 0, .int .i64 r.2.2]) ∧ Below w.heap.size w w')
theorem arrF_none (na : ByteArray → Tr) {kd : Int} (h1 : ¬ kd = 1) (h2 : ¬ kd = 2) (tx : ByteArray) : arrF na kd tx = arrT [] [] := by unfold arrF; rw [if_neg h1, if_neg h2]
theorem arrF_text (na : ByteArray → Tr) {cs : List Int} (hok : ∀ c ∈ cs, okRune c) {i j : Nat} {acc : List Int} (hi : i < cs.length) (h : qscan cs cs.length (i + 1) [] = some (acc, j)) : arrF na 2 (cutText cs i j) = qA acc := by
  have he := qscan_end cs _ _ _ _ h
  simp only at he
  have hlen : ((cs.drop i).take (j - i)).length = j - i := by simp; omega
  have hS : Seg cs ((cs.drop i).take (j - i)) i := ⟨by rw [hlen]; omega, by rw [hlen]⟩
  have hq := hS.q _ 1 ((cs.drop i).take (j - i)).length [] acc j (by rw [show i + 1 = i + 1 from rfl] at h; exact h) (by rw [hlen]; omega) (by omega)
  have hsc : (scanR (cutText cs i j) (cutText cs i j).size 0 []).1 = (cs.drop i).take (j - i) := by
    unfold cutText
    rw [scan_back _ (fun c hc => hok c (List.mem_of_mem_drop (List.mem_of_mem_take hc)))]
  unfold arrF
  rw [if_neg (by decide), if_pos rfl, hsc, hq]
section
variable {w : World} {cs : List Int} {b off cap : Nat} {ne : ByteArray → Int} {na : ByteArray → Tr}
set_option maxRecDepth 100000 in
set_option maxHeartbeats 16000000 in
theorem numberAt_anyA (hne : TellsErr ne) (hna : TellsArr na) (i : Nat) (hi : i < cs.length) (hk : cs.length ≤ cap) (hcap : cap ≤ 9223372036854775807) (hc : ∀ m, m < cs.length → w.cell? ⟨b, off + m, none⟩ = some (.int .i32 (cs.getD m 0))) (hlt : b < w.heap.size) :
    Calls Try.prog 23 #[.slice (some ⟨b, off, none⟩) cs.length cap, .int .i64 i] w fun e w' => TokIsA na w cs i (1, runEnd inn cs (i + 1), ne (cutText cs i (runEnd inn cs (i + 1)))) e w' := by
  have hle := runEnd_le inn cs (i + 1) (by omega)
  have k0 := below_alloc w (.cells #[.int .u8 0, .string ⟨#[]⟩, .int .i64 0, .slice none 0 0, .slice none 0 0] 33)
  have R := boxA_new w #[.int .u8 0, .string ⟨#[]⟩, .int .i64 0, .slice none 0 0, .slice none 0 0] 33
  have s0 : w.heap.size < (w.alloc (.cells #[.int .u8 0, .string ⟨#[]⟩, .int .i64 0, .slice none 0 0, .slice none 0 0] 33)).heap.size := by simp
  have HC : Hid (∀ m, m < cs.length → (w.alloc (.cells #[.int .u8 0, .string ⟨#[]⟩, .int .i64 0, .slice none 0 0, .slice none 0 0] 33)).cell? ⟨b, off + m, none⟩ = some (.int .i32 (cs.getD m 0))) := fun m hm => (k0.cell (p := ⟨b, off + m, none⟩) hlt).trans (hc m hm)
  have HNE : Hid (TellsErr ne) := hne
  have HNA : Hid (TellsArr na) := hna
  clear hc hne hna
  go_enter Try.func23, Try.ntmps23
  go_wp2_with fail
  generalize hA : w.alloc (.cells #[.int .u8 0, .string ⟨#[]⟩, .int .i64 0, .slice none 0 0, .slice none 0 0] 33) = v at *
  clear hA
  have hR : RdR v.heap.size v (.slice (some ⟨b, off, none⟩) cs.length cap) cs := ⟨_, cap, rfl, hk, hcap, Or.inr ⟨b, off, rfl, by omega, HC.out⟩⟩
  refine (run_number hR (i + 1) (by omega)).mono ?_
  rintro e w1 ⟨rfl, rfl⟩
  obtain ⟨j, hj⟩ : ∃ j, runEnd inn cs (i + 1) = j := ⟨_, rfl⟩
  have HJ : Hid (runEnd inn cs (i + 1) = j) := hj
  rw [hj] at hle ⊢
  clear hj
  go_wp2_with fail
  refine (piece_any 1 i j (by omega) hle.2 hk hcap HC.out (by omega)).mono ?_
  rintro e w2 ⟨rfl, k2⟩
  obtain ⟨T, hTT⟩ : ∃ T, cutText cs i j = T := ⟨_, rfl⟩
  have HTc : Hid (cutText cs i j = T) := hTT
  rw [hTT]
  clear hTT HC hR
  have s2 := k2.size
  have kt := below_alloc w2 (.cells #[.int .u8 1, .string T, .int .i64 i, .slice none 0 0, .slice none 0 0] 33)
  have Tk := boxA_new w2 #[.int .u8 1, .string T, .int .i64 i, .slice none 0 0, .slice none 0 0] 33
  have st : w2.heap.size < (w2.alloc (.cells #[.int .u8 1, .string T, .int .i64 i, .slice none 0 0, .slice none 0 0] 33)).heap.size := by simp
  have t1 := Tk.cell 1 rfl
  go_wp2_with fail
  generalize hA : w2.alloc (.cells #[.int .u8 1, .string T, .int .i64 i, .slice none 0 0, .slice none 0 0] 33) = w3 at *
  clear hA t1
  refine (parse_rat T _).mono ?_
  intro e w4 hp
  obtain ⟨bK, nk, dk, ek, HK, k4, z1, i1, z2, i2, rfl, r1, r2⟩ := hp.spec
  clear hp
  have HE : Hid (ne T = ek) := HNE.out _ _ _ _ _ HK.out
  clear HNE
  have s4 := k4.size
  have K := nvar_new (b := bK) r1 r2
  have kK := below_alloc w4 (.cells #[.bool bK, .slice z1 nk.length i1, .slice z2 dk.length i2] 49)
  have sK := kK.size
  by_cases h0 : ek = 0
  · have he0 : (ek == 0) = true := by rw [beq_iff_eq]; exact h0
    obtain ⟨K0, K1, K2⟩ := K.cells
    go_wp2_with fail
    clear K0 K1 K2 r1 r2
    generalize hA : w4.alloc (.cells #[.bool bK, .slice z1 nk.length i1, .slice z2 dk.length i2] 49) = w5 at *
    clear hA
    have hA := arrRat_any (b := bK) K.rn K.rd
    have HSP : Hid (TextSpec T bK nk dk 0) := by have := HK.out; rw [h0] at this; exact this
    refine (hA.mono (fun e w' h => (show ∃ k, e = .returned (.agg #[.slice none 0 0, .slice (some ⟨k, 0, none⟩) 1 1]) ∧ TA w5.heap.size w' none 0 0 (some ⟨k, 0, none⟩) 1 1 (na T) ∧ Below w5.heap.size w5 w' from h.elim (fun h => by obtain ⟨hr, k, e1, e2, e3⟩ := h; exact ⟨k, e1, by rw [((HNA.out T bK nk dk HSP.out).1 hr)]; exact e2.ta, e3⟩) (fun h => by obtain ⟨hr, k, e1, e2, e3⟩ := h; exact ⟨k, e1, by rw [((HNA.out T bK nk dk HSP.out).2 hr)]; exact e2.ta, e3⟩)))).mono ?_
    clear hA
    rintro e w6 ⟨k, rfl, hTA, k6⟩
    have HTA : Hid (TA w5.heap.size w6 none 0 0 (some ⟨k, 0, none⟩) 1 1 (na T)) := hTA
    clear hTA HSP HNA
    have s6 := k6.size
    have t6 : Below w3.heap.size w3 w6 := (k4.trans (kK.mono s4)).trans (k6.mono (by omega))
    have Tk6 := Tk.below t6 (by omega)
    have q3 := Tk6.cell 3 rfl
    have q4 := Tk6.cell 4 rfl
    have f3 := Tk6.frozen 3
    have f4 := Tk6.frozen 4
    have Tk7 := Tk6.set34 (.slice none 0 0) (.slice (some ⟨k, 0, none⟩) 1 1)
    have m0 := Tk7.cell 0 rfl
    have m1 := Tk7.cell 1 rfl
    have m2 := Tk7.cell 2 rfl
    have m3 := Tk7.cell 3 rfl
    have m4 := Tk7.cell 4 rfl
    have T6 : Below w.heap.size w w6 := (((k0.trans (k2.mono (by omega))).trans (kt.mono (by omega))).trans (t6.mono (by omega)))
    have R6 := ((R.below k2 s0).below kt (by omega)).below t6 (by omega)
    have hRT : w2.heap.size ≠ w.heap.size := by omega
    have R7 := (R6.other (p := ⟨w2.heap.size, 3, none⟩) hRT (.slice none 0 0)).other (p := ⟨w2.heap.size, 4, none⟩) hRT (.slice (some ⟨k, 0, none⟩) 1 1)
    have cc0 := R7.cell 0 rfl
    have cc1 := R7.cell 1 rfl
    have cc2 := R7.cell 2 rfl
    have cc3 := R7.cell 3 rfl
    have cc4 := R7.cell 4 rfl
    have ccf0 := R7.frozen 0
    have ccf1 := R7.frozen 1
    have ccf2 := R7.frozen 2
    have ccf3 := R7.frozen 3
    have ccf4 := R7.frozen 4
    go_wp2
    have R8 := R7.set5 (.int .u8 1) (.string T) (.int .i64 i) (.slice none 0 0) (.slice (some ⟨k, 0, none⟩) 1 1)
    have x0 := R8.cell 0 rfl
    have x1 := R8.cell 1 rfl
    have x2 := R8.cell 2 rfl
    have x3 := R8.cell 3 rfl
    have x4 := R8.cell 4 rfl
    refine bodyPost_ret (v := .tuple #[.agg #[.int .u8 1, .string T, .int .i64 i, .slice none 0 0, .slice (some ⟨k, 0, none⟩) 1 1], .int .i64 j, .int .i64 0]) (by simp [results, Try.results23, go_sem, x0, x1, x2, x3, x4]) rfl ?_
    refine Or.inl ⟨by dsimp only; rw [HJ.out, HTc.out, HE.out]; exact h0, none, 0, 0, some ⟨k, 0, none⟩, 1, 1, by dsimp only; rw [HJ.out, HTc.out], (by dsimp only; rw [HJ.out, HTc.out]; unfold arrF; rw [if_pos rfl]; exact (((((((HTA.out.set ⟨w2.heap.size, 3, none⟩ (show w2.heap.size < w5.heap.size by omega) _).set ⟨w2.heap.size, 4, none⟩ (show w2.heap.size < w5.heap.size by omega) _).set ⟨w.heap.size, 0, none⟩ (show w.heap.size < w5.heap.size by omega) _).set ⟨w.heap.size, 1, none⟩ (show w.heap.size < w5.heap.size by omega) _).set ⟨w.heap.size, 2, none⟩ (show w.heap.size < w5.heap.size by omega) _).set ⟨w.heap.size, 3, none⟩ (show w.heap.size < w5.heap.size by omega) _).set ⟨w.heap.size, 4, none⟩ (show w.heap.size < w5.heap.size by omega) _).mono (by omega)), ?_⟩
    exact Below.set5 ((T6.setCell (p := ⟨w2.heap.size, 3, none⟩) (show w.heap.size ≤ w2.heap.size by omega) _).setCell (p := ⟨w2.heap.size, 4, none⟩) (show w.heap.size ≤ w2.heap.size by omega) _) (Nat.le_refl _) _ _ _ _ _
  · have he0 : (ek == 0) = false := by rw [beq_eq_false_iff_ne]; exact h0
    have t6 : Below w3.heap.size w3 _ := k4.trans (kK.mono s4)
    have T6 : Below w.heap.size w _ := (((k0.trans (k2.mono (by omega))).trans (kt.mono (by omega))).trans (t6.mono (by omega)))
    have R7 := ((R.below k2 s0).below kt (by omega)).below t6 (by omega)
    have cc0 := R7.cell 0 rfl
    have cc1 := R7.cell 1 rfl
    have cc2 := R7.cell 2 rfl
    have cc3 := R7.cell 3 rfl
    have cc4 := R7.cell 4 rfl
    have ccf0 := R7.frozen 0
    have ccf1 := R7.frozen 1
    have ccf2 := R7.frozen 2
    have ccf3 := R7.frozen 3
    have ccf4 := R7.frozen 4
    go_wp2
    have R8 := R7.set5 (.int .u8 0) (.string ⟨#[]⟩) (.int .i64 0) (.slice none 0 0) (.slice none 0 0)
    have x0 := R8.cell 0 rfl
    have x1 := R8.cell 1 rfl
    have x2 := R8.cell 2 rfl
    have x3 := R8.cell 3 rfl
    have x4 := R8.cell 4 rfl
    refine bodyPost_ret (v := .tuple #[.agg #[.int .u8 0, .string ⟨#[]⟩, .int .i64 0, .slice none 0 0, .slice none 0 0], .int .i64 0, .int .i64 ek]) (by simp [results, Try.results23, go_sem, x0, x1, x2, x3, x4]) rfl ?_
    refine Or.inr ⟨by dsimp only; rw [HJ.out, HTc.out, HE.out]; exact h0, by dsimp only; rw [HJ.out, HTc.out, HE.out], Below.set5 T6 (Nat.le_refl _) _ _ _ _ _⟩


set_option maxRecDepth 100000 in
set_option maxHeartbeats 16000000 in
theorem next_anyA (hne : TellsErr ne) (hna : TellsArr na) (i : Nat) (hi : i < cs.length) (hl : cs.length ≤ 1024) (hk : cs.length ≤ cap) (hcap : cap ≤ 9223372036854775807) (hc : ∀ m, m < cs.length → w.cell? ⟨b, off + m, none⟩ = some (.int .i32 (cs.getD m 0))) (hlt : b < w.heap.size) (hok : ∀ c ∈ cs, okRune c) :
    Calls Try.prog 17 #[.slice (some ⟨b, off, none⟩) cs.length cap, .int .i64 i] w fun e w' => TokIsA na w cs i (nextF ne cs i) e w' := by
  have HNE : Hid (TellsErr ne) := hne
  have HNA : Hid (TellsArr na) := hna
  have HOK : Hid (∀ c ∈ cs, okRune c) := hok
  have hleL := runEnd_le lt cs (i + 1) (by omega)
  clear hne hna hok
  have k0 := below_alloc w (.cells #[.int .u8 0, .string ⟨#[]⟩, .int .i64 0, .slice none 0 0, .slice none 0 0] 33)
  have R := boxA_new w #[.int .u8 0, .string ⟨#[]⟩, .int .i64 0, .slice none 0 0, .slice none 0 0] 33
  have s0 : w.heap.size < (w.alloc (.cells #[.int .u8 0, .string ⟨#[]⟩, .int .i64 0, .slice none 0 0, .slice none 0 0] 33)).heap.size := by simp
  have HC : Hid (∀ m, m < cs.length → (w.alloc (.cells #[.int .u8 0, .string ⟨#[]⟩, .int .i64 0, .slice none 0 0, .slice none 0 0] 33)).cell? ⟨b, off + m, none⟩ = some (.int .i32 (cs.getD m 0))) := fun m hm => (k0.cell (p := ⟨b, off + m, none⟩) hlt).trans (hc m hm)
  have hc0 := HC.out i hi
  clear hc
  obtain ⟨C, hC⟩ : ∃ C, cs.getD i 0 = C := ⟨_, rfl⟩
  have HCC : Hid (cs.getD i 0 = C) := hC
  rw [hC] at hc0
  clear hC
  go_enter Try.func17, Try.ntmps17
  go_upto_region 2 with fail
  go_cut [13] from 14 to 19 (fun q wx => q = .bool (decide (C = 175) || dg C) ∧ wx = w.alloc (.cells #[.int .u8 0, .string ⟨#[]⟩, .int .i64 0, .slice none 0 0, .slice none 0 0] 33))
  case first =>
    by_cases h175 : C = 175
    · have e1 : (C == 175) = true := by rw [beq_iff_eq]; exact h175
      have HD : Hid ((decide (C = 175) || dg C) = true) := by unfold Hid; rw [decide_eq_true h175]; rfl
      clear h175
      go_wp2_with fail
      go_meet
      exact ⟨by rw [HD.out], rfl⟩
    · have e1 : (C == 175) = false := by rw [beq_eq_false_iff_ne]; exact h175
      have HD : Hid ((decide (C = 175) || dg C) = dg C) := by unfold Hid; rw [decide_eq_false h175]; rfl
      clear h175
      go_wp2_with fail
      refine (isDigit_any C _).mono ?_
      rintro e w' ⟨rfl, rfl⟩
      generalize dg C = D at *
      go_wp2_with fail
      go_meet
      exact ⟨by rw [HD.out], rfl⟩
  case rest =>
    obtain ⟨rfl, rfl⟩ := hcut
    generalize hA : w.alloc (.cells #[.int .u8 0, .string ⟨#[]⟩, .int .i64 0, .slice none 0 0, .slice none 0 0] 33) = v at *
    clear hA
    by_cases hnum : (decide (C = 175) || dg C) = true
    · have HF : Hid (nextF ne cs i = (1, runEnd inn cs (i + 1), ne (cutText cs i (runEnd inn cs (i + 1))))) := by
        unfold Hid nextF
        rw [HCC.out, if_pos (by simpa using hnum)]
      rw [hnum]
      clear hnum
      go_wp2_with fail
      have hT := numberAt_anyA HNE.out HNA.out i hi hk hcap HC.out (show b < v.heap.size by omega)
      refine (hT.mono (fun e w' h => (show TokIsA na v cs i (nextF ne cs i) e w' from by rw [HF.out]; exact h))).mono ?_
      clear hT HF
      rintro e w1 (⟨hX0, a1, n1, c1, a2, n2, c2, rfl, hTA, k1⟩ | ⟨hX0, rfl, k1⟩)
      · have HX0 : Hid ((nextF ne cs i).2.2 = 0) := hX0
        have HTA : Hid (TA _ w1 a1 n1 c1 a2 n2 c2 (arrF na (nextF ne cs i).1 (cutText cs i (nextF ne cs i).2.1))) := hTA
        clear hTA
        obtain ⟨T, hTT⟩ : ∃ T, cutText cs i (nextF ne cs i).2.1 = T := ⟨_, rfl⟩
        have HTc : Hid (cutText cs i (nextF ne cs i).2.1 = T) := hTT
        rw [hTT]
        clear hTT hX0
        obtain ⟨KD, hKD⟩ : ∃ KD, (nextF ne cs i).1 = KD := ⟨_, rfl⟩
        have HKD : Hid ((nextF ne cs i).1 = KD) := hKD
        obtain ⟨J, hJ⟩ : ∃ J, (nextF ne cs i).2.1 = J := ⟨_, rfl⟩
        have HJ : Hid ((nextF ne cs i).2.1 = J) := hJ
        rw [hKD, hJ]
        clear hKD hJ
        have R7 := R.below k1 s0
        have cc0 := R7.cell 0 rfl
        have cc1 := R7.cell 1 rfl
        have cc2 := R7.cell 2 rfl
        have cc3 := R7.cell 3 rfl
        have cc4 := R7.cell 4 rfl
        have ccf0 := R7.frozen 0
        have ccf1 := R7.frozen 1
        have ccf2 := R7.frozen 2
        have ccf3 := R7.frozen 3
        have ccf4 := R7.frozen 4
        go_wp2
        have R8 := R7.set5 (.int .u8 KD) (.string T) (.int .i64 i) (.slice a1 n1 c1) (.slice a2 n2 c2)
        have x0 := R8.cell 0 rfl
        have x1 := R8.cell 1 rfl
        have x2 := R8.cell 2 rfl
        have x3 := R8.cell 3 rfl
        have x4 := R8.cell 4 rfl
        refine bodyPost_ret (v := .tuple #[.agg #[.int .u8 KD, .string T, .int .i64 i, .slice a1 n1 c1, .slice a2 n2 c2], .int .i64 J, .int .i64 0]) (by simp [results, Try.results17, go_sem, x0, x1, x2, x3, x4]) rfl ?_
        exact Or.inl ⟨HX0.out, a1, n1, c1, a2, n2, c2, by rw [HTc.out, HKD.out, HJ.out], (((((HTA.out.set ⟨w.heap.size, 0, none⟩ (by dsimp only; omega) _).set ⟨w.heap.size, 1, none⟩ (by dsimp only; omega) _).set ⟨w.heap.size, 2, none⟩ (by dsimp only; omega) _).set ⟨w.heap.size, 3, none⟩ (by dsimp only; omega) _).set ⟨w.heap.size, 4, none⟩ (by dsimp only; omega) _).mono (by omega), Below.set5 (k0.trans (k1.mono (by omega))) (Nat.le_refl _) _ _ _ _ _⟩
      · have HX0 : Hid (¬ (nextF ne cs i).2.2 = 0) := hX0
        obtain ⟨E, hE⟩ : ∃ E, (nextF ne cs i).2.2 = E := ⟨_, rfl⟩
        have HE : Hid ((nextF ne cs i).2.2 = E) := hE
        rw [hE]
        clear hE hX0
        have R7 := R.below k1 s0
        have cc0 := R7.cell 0 rfl
        have cc1 := R7.cell 1 rfl
        have cc2 := R7.cell 2 rfl
        have cc3 := R7.cell 3 rfl
        have cc4 := R7.cell 4 rfl
        have ccf0 := R7.frozen 0
        have ccf1 := R7.frozen 1
        have ccf2 := R7.frozen 2
        have ccf3 := R7.frozen 3
        have ccf4 := R7.frozen 4
        go_wp2
        have R8 := R7.set5 (.int .u8 0) (.string ⟨#[]⟩) (.int .i64 0) (.slice none 0 0) (.slice none 0 0)
        have x0 := R8.cell 0 rfl
        have x1 := R8.cell 1 rfl
        have x2 := R8.cell 2 rfl
        have x3 := R8.cell 3 rfl
        have x4 := R8.cell 4 rfl
        refine bodyPost_ret (v := .tuple #[.agg #[.int .u8 0, .string ⟨#[]⟩, .int .i64 0, .slice none 0 0, .slice none 0 0], .int .i64 0, .int .i64 E]) (by simp [results, Try.results17, go_sem, x0, x1, x2, x3, x4]) rfl ?_
        exact Or.inr ⟨HX0.out, by rw [HE.out], Below.set5 (k0.trans (k1.mono (by omega))) (Nat.le_refl _) _ _ _ _ _⟩
    have hnf : (decide (C = 175) || dg C) = false := by simpa using hnum
    have HF0 : Hid (¬ (C = 175 ∨ dg C = true)) := by unfold Hid; simpa using hnum
    rw [hnf]
    clear hnf hnum
    by_cases h39 : C = 39
    · have e1 : (C == 39) = true := by rw [beq_iff_eq]; exact h39
      have HF : Hid (nextF ne cs i = (match qscan cs cs.length (i + 1) [] with | some p => (2, p.2, 0) | none => (0, 0, 26))) := by
        unfold Hid nextF
        rw [HCC.out, if_neg HF0.out, if_pos h39]
        cases qscan cs cs.length (i + 1) [] <;> rfl
      clear h39
      go_wp2_with fail
      have hT := textAt_anyA i hi hl hk hcap HC.out (by omega) HOK.out
      refine (hT.mono (fun e w' h => (show TokIsA na v cs i (nextF ne cs i) e w' from ?_))).mono ?_
      · rw [HF.out]
        rcases h with ⟨acc, j, hq, a1, n1, c1, a2, n2, c2, he, hta, hb⟩ | ⟨hq, he, hb⟩
        · rw [hq]; exact Or.inl ⟨rfl, a1, n1, c1, a2, n2, c2, he, (by dsimp only; rw [arrF_text na HOK.out hi hq]; exact hta), hb⟩
        · rw [hq]; exact Or.inr ⟨by decide, he, hb⟩
      clear hT
      clear HF
      rintro e w1 (⟨hX0, a1, n1, c1, a2, n2, c2, rfl, hTA, k1⟩ | ⟨hX0, rfl, k1⟩)
      · have HX0 : Hid ((nextF ne cs i).2.2 = 0) := hX0
        have HTA : Hid (TA _ w1 a1 n1 c1 a2 n2 c2 (arrF na (nextF ne cs i).1 (cutText cs i (nextF ne cs i).2.1))) := hTA
        clear hTA
        obtain ⟨T, hTT⟩ : ∃ T, cutText cs i (nextF ne cs i).2.1 = T := ⟨_, rfl⟩
        have HTc : Hid (cutText cs i (nextF ne cs i).2.1 = T) := hTT
        rw [hTT]
        clear hTT hX0
        obtain ⟨KD, hKD⟩ : ∃ KD, (nextF ne cs i).1 = KD := ⟨_, rfl⟩
        have HKD : Hid ((nextF ne cs i).1 = KD) := hKD
        obtain ⟨J, hJ⟩ : ∃ J, (nextF ne cs i).2.1 = J := ⟨_, rfl⟩
        have HJ : Hid ((nextF ne cs i).2.1 = J) := hJ
        rw [hKD, hJ]
        clear hKD hJ
        have R7 := R.below k1 s0
        have cc0 := R7.cell 0 rfl
        have cc1 := R7.cell 1 rfl
        have cc2 := R7.cell 2 rfl
        have cc3 := R7.cell 3 rfl
        have cc4 := R7.cell 4 rfl
        have ccf0 := R7.frozen 0
        have ccf1 := R7.frozen 1
        have ccf2 := R7.frozen 2
        have ccf3 := R7.frozen 3
        have ccf4 := R7.frozen 4
        go_wp2
        have R8 := R7.set5 (.int .u8 KD) (.string T) (.int .i64 i) (.slice a1 n1 c1) (.slice a2 n2 c2)
        have x0 := R8.cell 0 rfl
        have x1 := R8.cell 1 rfl
        have x2 := R8.cell 2 rfl
        have x3 := R8.cell 3 rfl
        have x4 := R8.cell 4 rfl
        refine bodyPost_ret (v := .tuple #[.agg #[.int .u8 KD, .string T, .int .i64 i, .slice a1 n1 c1, .slice a2 n2 c2], .int .i64 J, .int .i64 0]) (by simp [results, Try.results17, go_sem, x0, x1, x2, x3, x4]) rfl ?_
        exact Or.inl ⟨HX0.out, a1, n1, c1, a2, n2, c2, by rw [HTc.out, HKD.out, HJ.out], (((((HTA.out.set ⟨w.heap.size, 0, none⟩ (by dsimp only; omega) _).set ⟨w.heap.size, 1, none⟩ (by dsimp only; omega) _).set ⟨w.heap.size, 2, none⟩ (by dsimp only; omega) _).set ⟨w.heap.size, 3, none⟩ (by dsimp only; omega) _).set ⟨w.heap.size, 4, none⟩ (by dsimp only; omega) _).mono (by omega), Below.set5 (k0.trans (k1.mono (by omega))) (Nat.le_refl _) _ _ _ _ _⟩
      · have HX0 : Hid (¬ (nextF ne cs i).2.2 = 0) := hX0
        obtain ⟨E, hE⟩ : ∃ E, (nextF ne cs i).2.2 = E := ⟨_, rfl⟩
        have HE : Hid ((nextF ne cs i).2.2 = E) := hE
        rw [hE]
        clear hE hX0
        have R7 := R.below k1 s0
        have cc0 := R7.cell 0 rfl
        have cc1 := R7.cell 1 rfl
        have cc2 := R7.cell 2 rfl
        have cc3 := R7.cell 3 rfl
        have cc4 := R7.cell 4 rfl
        have ccf0 := R7.frozen 0
        have ccf1 := R7.frozen 1
        have ccf2 := R7.frozen 2
        have ccf3 := R7.frozen 3
        have ccf4 := R7.frozen 4
        go_wp2
        have R8 := R7.set5 (.int .u8 0) (.string ⟨#[]⟩) (.int .i64 0) (.slice none 0 0) (.slice none 0 0)
        have x0 := R8.cell 0 rfl
        have x1 := R8.cell 1 rfl
        have x2 := R8.cell 2 rfl
        have x3 := R8.cell 3 rfl
        have x4 := R8.cell 4 rfl
        refine bodyPost_ret (v := .tuple #[.agg #[.int .u8 0, .string ⟨#[]⟩, .int .i64 0, .slice none 0 0, .slice none 0 0], .int .i64 0, .int .i64 E]) (by simp [results, Try.results17, go_sem, x0, x1, x2, x3, x4]) rfl ?_
        exact Or.inr ⟨HX0.out, by rw [HE.out], Below.set5 (k0.trans (k1.mono (by omega))) (Nat.le_refl _) _ _ _ _ _⟩
    have e39 : (C == 39) = false := by rw [beq_eq_false_iff_ne]; exact h39
    by_cases hbn : bn C = true
    · have HF : Hid (nextF ne cs i = (if runEnd inm cs i - i ≤ 32 then (3, runEnd inm cs i, 0) else (0, 0, 27))) := by
        unfold Hid nextF
        rw [HCC.out, if_neg HF0.out, if_neg h39, if_pos hbn]
      clear h39
      go_wp2_with fail
      refine (beginsName_any C _).mono ?_
      rintro e w' ⟨rfl, rfl⟩
      rw [hbn]
      go_wp2_with fail
      have hT := nameAt_any i hi hk hcap HC.out (by omega) (by rw [HCC.out]; unfold inm; rw [hbn]; rfl)
      refine (hT.mono (fun e w'' h => (show TokIsA na w' cs i (nextF ne cs i) e w'' from ?_))).mono ?_
      · rw [HF.out]
        rcases h with ⟨h32, he, hb⟩ | ⟨h32, he, hb⟩
        · rw [if_pos h32]; exact Or.inl ⟨rfl, none, 0, 0, none, 0, 0, he, (by dsimp only; rw [arrF_none na (by decide) (by decide)]; exact TA.none _ _), hb⟩
        · rw [if_neg (by omega)]; exact Or.inr ⟨by decide, he, hb⟩
      clear hT
      clear HF hbn
      rintro e w1 (⟨hX0, a1, n1, c1, a2, n2, c2, rfl, hTA, k1⟩ | ⟨hX0, rfl, k1⟩)
      · have HX0 : Hid ((nextF ne cs i).2.2 = 0) := hX0
        have HTA : Hid (TA _ w1 a1 n1 c1 a2 n2 c2 (arrF na (nextF ne cs i).1 (cutText cs i (nextF ne cs i).2.1))) := hTA
        clear hTA
        obtain ⟨T, hTT⟩ : ∃ T, cutText cs i (nextF ne cs i).2.1 = T := ⟨_, rfl⟩
        have HTc : Hid (cutText cs i (nextF ne cs i).2.1 = T) := hTT
        rw [hTT]
        clear hTT hX0
        obtain ⟨KD, hKD⟩ : ∃ KD, (nextF ne cs i).1 = KD := ⟨_, rfl⟩
        have HKD : Hid ((nextF ne cs i).1 = KD) := hKD
        obtain ⟨J, hJ⟩ : ∃ J, (nextF ne cs i).2.1 = J := ⟨_, rfl⟩
        have HJ : Hid ((nextF ne cs i).2.1 = J) := hJ
        rw [hKD, hJ]
        clear hKD hJ
        have R7 := R.below k1 s0
        have cc0 := R7.cell 0 rfl
        have cc1 := R7.cell 1 rfl
        have cc2 := R7.cell 2 rfl
        have cc3 := R7.cell 3 rfl
        have cc4 := R7.cell 4 rfl
        have ccf0 := R7.frozen 0
        have ccf1 := R7.frozen 1
        have ccf2 := R7.frozen 2
        have ccf3 := R7.frozen 3
        have ccf4 := R7.frozen 4
        go_wp2
        have R8 := R7.set5 (.int .u8 KD) (.string T) (.int .i64 i) (.slice a1 n1 c1) (.slice a2 n2 c2)
        have x0 := R8.cell 0 rfl
        have x1 := R8.cell 1 rfl
        have x2 := R8.cell 2 rfl
        have x3 := R8.cell 3 rfl
        have x4 := R8.cell 4 rfl
        refine bodyPost_ret (v := .tuple #[.agg #[.int .u8 KD, .string T, .int .i64 i, .slice a1 n1 c1, .slice a2 n2 c2], .int .i64 J, .int .i64 0]) (by simp [results, Try.results17, go_sem, x0, x1, x2, x3, x4]) rfl ?_
        exact Or.inl ⟨HX0.out, a1, n1, c1, a2, n2, c2, by rw [HTc.out, HKD.out, HJ.out], (((((HTA.out.set ⟨w.heap.size, 0, none⟩ (by dsimp only; omega) _).set ⟨w.heap.size, 1, none⟩ (by dsimp only; omega) _).set ⟨w.heap.size, 2, none⟩ (by dsimp only; omega) _).set ⟨w.heap.size, 3, none⟩ (by dsimp only; omega) _).set ⟨w.heap.size, 4, none⟩ (by dsimp only; omega) _).mono (by omega), Below.set5 (k0.trans (k1.mono (by omega))) (Nat.le_refl _) _ _ _ _ _⟩
      · have HX0 : Hid (¬ (nextF ne cs i).2.2 = 0) := hX0
        obtain ⟨E, hE⟩ : ∃ E, (nextF ne cs i).2.2 = E := ⟨_, rfl⟩
        have HE : Hid ((nextF ne cs i).2.2 = E) := hE
        rw [hE]
        clear hE hX0
        have R7 := R.below k1 s0
        have cc0 := R7.cell 0 rfl
        have cc1 := R7.cell 1 rfl
        have cc2 := R7.cell 2 rfl
        have cc3 := R7.cell 3 rfl
        have cc4 := R7.cell 4 rfl
        have ccf0 := R7.frozen 0
        have ccf1 := R7.frozen 1
        have ccf2 := R7.frozen 2
        have ccf3 := R7.frozen 3
        have ccf4 := R7.frozen 4
        go_wp2
        have R8 := R7.set5 (.int .u8 0) (.string ⟨#[]⟩) (.int .i64 0) (.slice none 0 0) (.slice none 0 0)
        have x0 := R8.cell 0 rfl
        have x1 := R8.cell 1 rfl
        have x2 := R8.cell 2 rfl
        have x3 := R8.cell 3 rfl
        have x4 := R8.cell 4 rfl
        refine bodyPost_ret (v := .tuple #[.agg #[.int .u8 0, .string ⟨#[]⟩, .int .i64 0, .slice none 0 0, .slice none 0 0], .int .i64 0, .int .i64 E]) (by simp [results, Try.results17, go_sem, x0, x1, x2, x3, x4]) rfl ?_
        exact Or.inr ⟨HX0.out, by rw [HE.out], Below.set5 (k0.trans (k1.mono (by omega))) (Nat.le_refl _) _ _ _ _ _⟩
    have hbf : bn C = false := by simpa using hbn
    by_cases hq : C = 9109
    · have e1 : (C == 9109) = true := by rw [beq_iff_eq]; exact hq
      have HF : Hid (nextF ne cs i = (4, runEnd lt cs (i + 1), 0)) := by
        unfold Hid nextF
        rw [HCC.out, if_neg HF0.out, if_neg h39, if_neg hbn, if_pos hq]
      clear h39 hbn hq
      go_wp2_with fail
      refine (beginsName_any C _).mono ?_
      rintro e w' ⟨rfl, rfl⟩
      rw [hbf]
      have hR : RdR w'.heap.size w' (.slice (some ⟨b, off, none⟩) cs.length cap) cs := ⟨_, cap, rfl, hk, hcap, Or.inr ⟨b, off, rfl, by omega, HC.out⟩⟩
      go_wp2_with fail
      refine (run_letter hR (i + 1) (by omega)).mono ?_
      rintro e w1 ⟨rfl, rfl⟩
      obtain ⟨j, hj⟩ : ∃ j, runEnd lt cs (i + 1) = j := ⟨_, rfl⟩
      rw [hj] at HF hleL ⊢
      clear hj
      go_wp2_with fail
      refine (piece_any 4 i j (by omega) hleL.2 hk hcap HC.out (by omega)).mono ?_
      rintro e w2 ⟨rfl, k2⟩
      obtain ⟨T, hTT⟩ : ∃ T, cutText cs i j = T := ⟨_, rfl⟩
      have HTc : Hid (cutText cs i j = T) := hTT
      rw [hTT]
      clear hTT
      have R7 := R.below k2 (by omega)
      have cc0 := R7.cell 0 rfl
      have cc1 := R7.cell 1 rfl
      have cc2 := R7.cell 2 rfl
      have cc3 := R7.cell 3 rfl
      have cc4 := R7.cell 4 rfl
      have ccf0 := R7.frozen 0
      have ccf1 := R7.frozen 1
      have ccf2 := R7.frozen 2
      have ccf3 := R7.frozen 3
      have ccf4 := R7.frozen 4
      go_wp2
      have R8 := R7.set5 (.int .u8 4) (.string T) (.int .i64 i) (.slice none 0 0) (.slice none 0 0)
      have x0 := R8.cell 0 rfl
      have x1 := R8.cell 1 rfl
      have x2 := R8.cell 2 rfl
      have x3 := R8.cell 3 rfl
      have x4 := R8.cell 4 rfl
      refine bodyPost_ret (v := .tuple #[.agg #[.int .u8 4, .string T, .int .i64 i, .slice none 0 0, .slice none 0 0], .int .i64 j, .int .i64 0]) (by simp [results, Try.results17, go_sem, x0, x1, x2, x3, x4]) rfl ?_
      rw [HF.out]
      exact Or.inl ⟨rfl, none, 0, 0, none, 0, 0, by dsimp only; rw [HTc.out] <;> rfl, (by dsimp only; rw [arrF_none na (by decide) (by decide)]; exact TA.none _ _), Below.set5 (k0.trans (k2.mono (by omega))) (Nat.le_refl _) _ _ _ _ _⟩
    have e9 : (C == 9109) = false := by rw [beq_eq_false_iff_ne]; exact hq
    go_wp2_with fail
    refine (beginsName_any C _).mono ?_
    rintro e w' ⟨rfl, rfl⟩
    rw [hbf]
    go_wp2_with fail
    refine (isPrimitive_any C _).mono ?_
    rintro e w1 ⟨rfl, k1⟩
    have R1 := R.below k1 s0
    have s1 := k1.size
    have HC1 : Hid (∀ m, m < cs.length → w1.cell? ⟨b, off + m, none⟩ = some (.int .i32 (cs.getD m 0))) := fun m hm => (k1.cell (p := ⟨b, off + m, none⟩) (show b < w'.heap.size by omega)).trans (HC.out m hm)
    by_cases hp : C ∈ decs prims prims.size 0
    · have HF : Hid (nextF ne cs i = (5, i + 1, 0)) := by
        unfold Hid nextF
        rw [HCC.out, if_neg HF0.out, if_neg h39, if_neg hbn, if_neg hq, if_pos hp]
      rw [decide_eq_true hp]
      clear h39 hbn hq hp
      go_wp2_with fail
      refine (piece_any 5 i (i + 1) (by omega) (by omega) hk hcap HC1.out (by omega)).mono ?_
      rintro e w2 ⟨rfl, k2⟩
      obtain ⟨T, hTT⟩ : ∃ T, cutText cs i (i + 1) = T := ⟨_, rfl⟩
      have HTc : Hid (cutText cs i (i + 1) = T) := hTT
      rw [hTT]
      clear hTT
      have R7 := R1.below k2 (by omega)
      have cc0 := R7.cell 0 rfl
      have cc1 := R7.cell 1 rfl
      have cc2 := R7.cell 2 rfl
      have cc3 := R7.cell 3 rfl
      have cc4 := R7.cell 4 rfl
      have ccf0 := R7.frozen 0
      have ccf1 := R7.frozen 1
      have ccf2 := R7.frozen 2
      have ccf3 := R7.frozen 3
      have ccf4 := R7.frozen 4
      go_wp2
      have R8 := R7.set5 (.int .u8 5) (.string T) (.int .i64 i) (.slice none 0 0) (.slice none 0 0)
      have x0 := R8.cell 0 rfl
      have x1 := R8.cell 1 rfl
      have x2 := R8.cell 2 rfl
      have x3 := R8.cell 3 rfl
      have x4 := R8.cell 4 rfl
      refine bodyPost_ret (v := .tuple #[.agg #[.int .u8 5, .string T, .int .i64 i, .slice none 0 0, .slice none 0 0], .int .i64 ((i : Int) + 1), .int .i64 0]) (by simp [results, Try.results17, go_sem, x0, x1, x2, x3, x4]) rfl ?_
      rw [HF.out]
      exact Or.inl ⟨rfl, none, 0, 0, none, 0, 0, by dsimp only; rw [HTc.out] <;> rfl, (by dsimp only; rw [arrF_none na (by decide) (by decide)]; exact TA.none _ _), Below.set5 ((k0.trans (k1.mono (by omega))).trans (k2.mono (by omega))) (Nat.le_refl _) _ _ _ _ _⟩
    rw [decide_eq_false hp]
    go_wp2_with fail
    refine (isAmong_any sgns C _).mono ?_
    rintro e w3 ⟨rfl, k3⟩
    have R3 := R1.below k3 (by omega)
    have s3 := k3.size
    have HC3 : Hid (∀ m, m < cs.length → w3.cell? ⟨b, off + m, none⟩ = some (.int .i32 (cs.getD m 0))) := fun m hm => (k3.cell (p := ⟨b, off + m, none⟩) (show b < w1.heap.size by omega)).trans (HC1.out m hm)
    by_cases hs : C ∈ decs sgns sgns.size 0
    · have HF : Hid (nextF ne cs i = (6, i + 1, 0)) := by
        unfold Hid nextF
        rw [HCC.out, if_neg HF0.out, if_neg h39, if_neg hbn, if_neg hq, if_neg hp, if_pos hs]
      rw [decide_eq_true hs]
      clear h39 hbn hq hp hs
      go_wp2_with fail
      refine (piece_any 6 i (i + 1) (by omega) (by omega) hk hcap HC3.out (by omega)).mono ?_
      rintro e w2 ⟨rfl, k2⟩
      obtain ⟨T, hTT⟩ : ∃ T, cutText cs i (i + 1) = T := ⟨_, rfl⟩
      have HTc : Hid (cutText cs i (i + 1) = T) := hTT
      rw [hTT]
      clear hTT
      have R7 := R3.below k2 (by omega)
      have cc0 := R7.cell 0 rfl
      have cc1 := R7.cell 1 rfl
      have cc2 := R7.cell 2 rfl
      have cc3 := R7.cell 3 rfl
      have cc4 := R7.cell 4 rfl
      have ccf0 := R7.frozen 0
      have ccf1 := R7.frozen 1
      have ccf2 := R7.frozen 2
      have ccf3 := R7.frozen 3
      have ccf4 := R7.frozen 4
      go_wp2
      have R8 := R7.set5 (.int .u8 6) (.string T) (.int .i64 i) (.slice none 0 0) (.slice none 0 0)
      have x0 := R8.cell 0 rfl
      have x1 := R8.cell 1 rfl
      have x2 := R8.cell 2 rfl
      have x3 := R8.cell 3 rfl
      have x4 := R8.cell 4 rfl
      refine bodyPost_ret (v := .tuple #[.agg #[.int .u8 6, .string T, .int .i64 i, .slice none 0 0, .slice none 0 0], .int .i64 ((i : Int) + 1), .int .i64 0]) (by simp [results, Try.results17, go_sem, x0, x1, x2, x3, x4]) rfl ?_
      rw [HF.out]
      exact Or.inl ⟨rfl, none, 0, 0, none, 0, 0, by dsimp only; rw [HTc.out] <;> rfl, (by dsimp only; rw [arrF_none na (by decide) (by decide)]; exact TA.none _ _), Below.set5 (((k0.trans (k1.mono (by omega))).trans (k3.mono (by omega))).trans (k2.mono (by omega))) (Nat.le_refl _) _ _ _ _ _⟩
    have HF : Hid (nextF ne cs i = (0, 0, 26)) := by
      unfold Hid nextF
      rw [HCC.out, if_neg HF0.out, if_neg h39, if_neg hbn, if_neg hq, if_neg hp, if_neg hs]
    rw [decide_eq_false hs]
    clear h39 hbn hq hp hs
    have cc0 := R3.cell 0 rfl
    have cc1 := R3.cell 1 rfl
    have cc2 := R3.cell 2 rfl
    have cc3 := R3.cell 3 rfl
    have cc4 := R3.cell 4 rfl
    have ccf0 := R3.frozen 0
    have ccf1 := R3.frozen 1
    have ccf2 := R3.frozen 2
    have ccf3 := R3.frozen 3
    have ccf4 := R3.frozen 4
    go_wp2
    have R8 := R3.set5 (.int .u8 0) (.string ⟨#[]⟩) (.int .i64 0) (.slice none 0 0) (.slice none 0 0)
    have x0 := R8.cell 0 rfl
    have x1 := R8.cell 1 rfl
    have x2 := R8.cell 2 rfl
    have x3 := R8.cell 3 rfl
    have x4 := R8.cell 4 rfl
    refine bodyPost_ret (v := .tuple #[.agg #[.int .u8 0, .string ⟨#[]⟩, .int .i64 0, .slice none 0 0, .slice none 0 0], .int .i64 0, .int .i64 26]) (by simp [results, Try.results17, go_sem, x0, x1, x2, x3, x4]) rfl ?_
    rw [HF.out]
    exact Or.inr ⟨by decide, rfl, Below.set5 ((k0.trans (k1.mono (by omega))).trans (k3.mono (by omega))) (Nat.le_refl _) _ _ _ _ _⟩
end
end Go.Proofs.Ytkhmbceadeejpaa
