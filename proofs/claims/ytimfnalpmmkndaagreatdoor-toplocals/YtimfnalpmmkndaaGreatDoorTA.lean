/- Arrays in memory, to any depth: what lies in the blocks that D tells. -/
import Derived.Test.YtimfnalpmmkndaaGreatDoorSA
import Derived.Maps.AppendAt
import Derived.Test.YtimfnalpmmkndaaGreatDoorRK
import Derived.Deep.RegionHeld3
import Derived.Laws.AppendOwnNone
namespace Go.Proofs.YtimfnalpmmkndaaGreatDoor
set_option linter.unusedVariables false
set_option linter.unusedSimpArgs false
open Go.RowKit

inductive Tr where
 | mk (k : Int) (b : Bool) (ns ds : List Int) (c : Int) (kids : List Tr) : Tr
def Tr.k : Tr → Int | .mk k _ _ _ _ _ => k
def Tr.b : Tr → Bool | .mk _ b _ _ _ _ => b
def Tr.ns : Tr → List Int | .mk _ _ ns _ _ _ => ns
def Tr.ds : Tr → List Int | .mk _ _ _ ds _ _ => ds
def Tr.c : Tr → Int | .mk _ _ _ _ c _ => c
def Tr.kids : Tr → List Tr | .mk _ _ _ _ _ l => l
def tr0 : Tr := .mk 0 false [] [] 0 []
def arrT (sh : List Int) (its : List Tr) : Tr := .mk 0 false sh [] 0 its
def Agree (D : Nat → Prop) (w w' : World) : Prop := ∀ g, D g → w'.heap[g]? = w.heap[g]?
theorem Agree.cell {D : Nat → Prop} {w w' : World} (h : Agree D w w') {g o : Nat} (hg : D g) : w'.cell? ⟨g, o, none⟩ = w.cell? ⟨g, o, none⟩ := World.cell?_of_block (w := w) (h g hg)
theorem Agree.of {D : Nat → Prop} {B : Nat} {w w' : World} (h : Below B w w') (hD : ∀ g, D g → g < B) : Agree D w w' := fun g hg => h.block g (hD g hg)
def RdL (D : Nat → Prop) (w : World) (v : Value) (xs : List Int) : Prop :=
 lim xs ∧ ∃ a cap, v = .slice a xs.length cap ∧ xs.length ≤ cap ∧ cap ≤ 9223372036854775807 ∧ (a = none → cap = 0) ∧
  (xs.length = 0 ∨ ∃ b off, a = some ⟨b, off, none⟩ ∧ D b ∧ ∀ j, j < xs.length → w.cell? ⟨b, off + j, none⟩ = some (.int .u32 (xs.getD j 0)))
theorem RdL.imp {D D' : Nat → Prop} {w w' : World} {v : Value} {xs : List Int} (h : RdL D w v xs) (hD : ∀ g, D g → D' g) (hb : Agree D w w') : RdL D' w' v xs := by
 obtain ⟨h0, a, cap, rfl, h1, h2, h3, h4⟩ := h
 refine ⟨h0, a, cap, rfl, h1, h2, h3, ?_⟩
 rcases h4 with h4 | ⟨b, off, rfl, hlt, hc⟩
 · exact Or.inl h4
 · exact Or.inr ⟨b, off, rfl, hD b hlt, fun j hj => (hb.cell hlt).trans (hc j hj)⟩
theorem RdL.rd {D : Nat → Prop} {B : Nat} {w : World} {v : Value} {xs : List Int} (h : RdL D w v xs) (hD : ∀ g, D g → g < B) : Rd B w v xs := by
 obtain ⟨h0, a, cap, rfl, h1, h2, h3, h4⟩ := h
 refine ⟨h0, a, cap, rfl, h1, h2, h3, ?_⟩
 rcases h4 with h4 | ⟨b, off, rfl, hlt, hc⟩
 · exact Or.inl h4
 · exact Or.inr ⟨b, off, rfl, hD b hlt, hc⟩
theorem RdL.of_own {base : Nat} {w : World} {v : Value} {xs : List Int} (h : Own base w v xs) : RdL (fun g => base ≤ g ∧ g < w.heap.size) w v xs := by
 obtain ⟨h0, hl, h | ⟨g, cap, cur, rfl, hg, hh, h1, h2, h3, h4⟩⟩ := h
 · obtain ⟨rfl, hz⟩ := h
   have : xs = [] := List.eq_nil_of_length_eq_zero hz
   subst this
   exact ⟨h0, none, 0, rfl, Nat.le_refl _, by omega, fun _ => rfl, Or.inl rfl⟩
 · refine ⟨h0, _, cap, rfl, h1, by unfold maxLen at h2; omega, (fun h => by cases h), Or.inr ⟨g, 0, rfl, ⟨hg, (Array.getElem?_eq_some_iff.1 hh).1⟩, fun j hj => ?_⟩⟩
   have e : cur.toList[j]? = (xs.map (Value.int .u32))[j]? := by rw [← h4, List.getElem?_take]; simp; omega
   rw [getD_map_u32 xs j hj] at e
   simp only [World.cell?, hh, Nat.zero_add]
   simpa using e
def RdN (D : Nat → Prop) (w : World) (v : Value) (xs : List Int) : Prop :=
 (∀ x ∈ xs, -9223372036854775808 ≤ x ∧ x ≤ 9223372036854775807) ∧ ∃ a cap, v = .slice a xs.length cap ∧ xs.length ≤ cap ∧ cap ≤ 9223372036854775807 ∧ (a = none → cap = 0) ∧
  (xs.length = 0 ∨ ∃ b off, a = some ⟨b, off, none⟩ ∧ D b ∧ ∀ j, j < xs.length → w.cell? ⟨b, off + j, none⟩ = some (.int .i64 (xs.getD j 0)))
theorem RdN.imp {D D' : Nat → Prop} {w w' : World} {v : Value} {xs : List Int} (h : RdN D w v xs) (hD : ∀ g, D g → D' g) (hb : Agree D w w') : RdN D' w' v xs := by
 obtain ⟨h0, a, cap, rfl, h1, h2, h3, h4⟩ := h
 refine ⟨h0, a, cap, rfl, h1, h2, h3, ?_⟩
 rcases h4 with h4 | ⟨b, off, rfl, hlt, hc⟩
 · exact Or.inl h4
 · exact Or.inr ⟨b, off, rfl, hD b hlt, fun j hj => (hb.cell hlt).trans (hc j hj)⟩
def RowB (D : Nat → Prop) (n : Nat) (v : Value) (C : Nat → Nat → Nat → Prop) : Prop :=
 ∃ a cap, v = .slice a n cap ∧ n ≤ cap ∧ cap ≤ 9223372036854775807 ∧ (a = none → cap = 0) ∧ (n = 0 ∨ ∃ g o, a = some ⟨g, o, none⟩ ∧ D g ∧ ∀ j, j < n → C g o j)
theorem RowB.imp {D D' : Nat → Prop} {n : Nat} {v : Value} {C C' : Nat → Nat → Nat → Prop} (h : RowB D n v C) (hD : ∀ g, D g → D' g) (hC : ∀ g o j, D g → j < n → C g o j → C' g o j) : RowB D' n v C' := by
 obtain ⟨a, cap, rfl, h1, h2, h3, h4⟩ := h
 refine ⟨a, cap, rfl, h1, h2, h3, ?_⟩
 rcases h4 with h4 | ⟨g, o, rfl, hlt, hc⟩
 · exact Or.inl h4
 · exact Or.inr ⟨g, o, rfl, hD g hlt, fun j hj => hC g o j hlt hj (hc j hj)⟩
structure ItV (P : Value → Value → Tr → Prop) (D : Nat → Prop) (w : World) (a1 : Option Addr) (c1 : Nat) (a2 : Option Addr) (c2 : Nat) (a3 : Option Addr) (c3 : Nat) (t : Tr) : Prop where
 rn : RdL D w (.slice a1 t.ns.length c1) t.ns
 rd : RdL D w (.slice a2 t.ds.length c2) t.ds
 bx : RowB D t.kids.length (.slice a3 t.kids.length c3) (fun g o j => ∃ x1 n1 y1 x2 n2 y2, w.cell? ⟨g, o + j * 2, none⟩ = some (.slice x1 n1 y1) ∧ w.cell? ⟨g, o + j * 2 + 1, none⟩ = some (.slice x2 n2 y2) ∧ P (.slice x1 n1 y1) (.slice x2 n2 y2) (t.kids.getD j tr0))
def ItC (P : Value → Value → Tr → Prop) (D : Nat → Prop) (w : World) (g o : Nat) (t : Tr) : Prop :=
 ∃ a1 c1 a2 c2 a3 c3, (w.cell? ⟨g, o, none⟩ = some (.int .u8 t.k) ∧ w.cell? ⟨g, o + 1, none⟩ = some (.bool t.b) ∧ w.cell? ⟨g, o + 2, none⟩ = some (.slice a1 t.ns.length c1) ∧ w.cell? ⟨g, o + 3, none⟩ = some (.slice a2 t.ds.length c2) ∧ w.cell? ⟨g, o + 4, none⟩ = some (.int .i32 t.c) ∧ w.cell? ⟨g, o + 5, none⟩ = some (.slice a3 t.kids.length c3)) ∧ ItV P D w a1 c1 a2 c2 a3 c3 t
def ArV : Nat → (Nat → Prop) → World → Value → Value → Tr → Prop
 | 0, _, _, _, _, _ => False
 | f + 1, D, w, v1, v2, t => RdN D w v1 t.ns ∧ RowB D t.kids.length v2 (fun g o j => ItC (ArV f D w) D w g (o + j * 6) (t.kids.getD j tr0))
theorem ItV.imp {P P' : Value → Value → Tr → Prop} {D D' : Nat → Prop} {w w' : World} {a1 a2 a3 : Option Addr} {c1 c2 c3 : Nat} {t : Tr} (h : ItV P D w a1 c1 a2 c2 a3 c3 t) (hD : ∀ g, D g → D' g) (hb : Agree D w w') (hP : ∀ v1 v2 t, P v1 v2 t → P' v1 v2 t) : ItV P' D' w' a1 c1 a2 c2 a3 c3 t :=
 ⟨h.rn.imp hD hb, h.rd.imp hD hb, h.bx.imp hD (fun g o j hg hj ⟨x1, n1, y1, x2, n2, y2, e1, e2, e3⟩ => ⟨x1, n1, y1, x2, n2, y2, (hb.cell hg).trans e1, (hb.cell hg).trans e2, hP _ _ _ e3⟩)⟩
theorem ItC.imp {P P' : Value → Value → Tr → Prop} {D D' : Nat → Prop} {w w' : World} {g o : Nat} {t : Tr} (h : ItC P D w g o t) (hg : D g) (hD : ∀ g, D g → D' g) (hb : Agree D w w') (hP : ∀ v1 v2 t, P v1 v2 t → P' v1 v2 t) : ItC P' D' w' g o t := by
 obtain ⟨a1, c1, a2, c2, a3, c3, ⟨e0, e1, e2, e3, e4, e5⟩, hv⟩ := h
 exact ⟨a1, c1, a2, c2, a3, c3, ⟨(hb.cell hg).trans e0, (hb.cell hg).trans e1, (hb.cell hg).trans e2, (hb.cell hg).trans e3, (hb.cell hg).trans e4, (hb.cell hg).trans e5⟩, hv.imp hD hb hP⟩
theorem ArV.imp {D D' : Nat → Prop} {w w' : World} (hD : ∀ g, D g → D' g) (hb : Agree D w w') : ∀ (f f' : Nat) (v1 v2 : Value) (t : Tr), f ≤ f' → ArV f D w v1 v2 t → ArV f' D' w' v1 v2 t
 | 0, _, _, _, _, _, h => h.elim
 | f + 1, 0, _, _, _, hf, h => by omega
 | f + 1, f' + 1, v1, v2, t, hf, h => ⟨h.1.imp hD hb, h.2.imp hD (fun g o j hg hj hc => hc.imp hg hD hb (fun u1 u2 s hs => ArV.imp hD hb f f' u1 u2 s (by omega) hs))⟩
theorem ArV.agree {D : Nat → Prop} {f : Nat} {w w' : World} {v1 v2 : Value} {t : Tr} (h : ArV f D w v1 v2 t) (hb : Agree D w w') : ArV f D w' v1 v2 t := ArV.imp (fun _ h => h) hb f f v1 v2 t (Nat.le_refl _) h
theorem ArV.mono {D D' : Nat → Prop} {f : Nat} {w : World} {v1 v2 : Value} {t : Tr} (h : ArV f D w v1 v2 t) (hD : ∀ g, D g → D' g) : ArV f D' w v1 v2 t := ArV.imp hD (fun _ _ => rfl) f f v1 v2 t (Nat.le_refl _) h
theorem ItV.agree {D : Nat → Prop} {f : Nat} {w w' : World} {a1 a2 a3 : Option Addr} {c1 c2 c3 : Nat} {t : Tr} (h : ItV (ArV f D w) D w a1 c1 a2 c2 a3 c3 t) (hb : Agree D w w') : ItV (ArV f D w') D w' a1 c1 a2 c2 a3 c3 t := h.imp (fun _ h => h) hb (fun _ _ _ h => h.agree hb)
theorem RowB.len {D : Nat → Prop} {n m : Nat} {a : Option Addr} {c : Nat} {C : Nat → Nat → Nat → Prop} (h : RowB D n (.slice a m c) C) : m = n := by
 obtain ⟨a', c', e, _⟩ := h
 cases e; rfl
theorem RdN.len {D : Nat → Prop} {m : Nat} {w : World} {a : Option Addr} {c : Nat} {xs : List Int} (h : RdN D w (.slice a m c) xs) : m = xs.length := by
 obtain ⟨_, a', c', e, _⟩ := h
 cases e; rfl
theorem RowB.bounds {D : Nat → Prop} {n : Nat} {a : Option Addr} {c : Nat} {C : Nat → Nat → Nat → Prop} (h : RowB D n (.slice a n c) C) : n ≤ c ∧ c ≤ 9223372036854775807 := by
 obtain ⟨a', c', e, h1, h2, _⟩ := h
 cases e; exact ⟨h1, h2⟩
theorem RowB.ptr {D : Nat → Prop} {n : Nat} {a : Option Addr} {c : Nat} {C : Nat → Nat → Nat → Prop} (h : RowB D n (.slice a n c) C) (h0 : 0 < n) : ∃ g o, a = some ⟨g, o, none⟩ ∧ D g ∧ ∀ j, j < n → C g o j := by
 obtain ⟨a', c', e, _, _, _, h4⟩ := h
 cases e
 rcases h4 with h4 | h4
 · omega
 · exact h4
theorem RdN.bounds {D : Nat → Prop} {w : World} {a : Option Addr} {c : Nat} {xs : List Int} (h : RdN D w (.slice a xs.length c) xs) : xs.length ≤ c ∧ c ≤ 9223372036854775807 := by
 obtain ⟨_, a', c', e, h1, h2, _⟩ := h
 obtain ⟨rfl, _, rfl⟩ := Value.slice.inj e
 exact ⟨h1, h2⟩
theorem RdN.ptr {D : Nat → Prop} {w : World} {a : Option Addr} {c : Nat} {xs : List Int} (h : RdN D w (.slice a xs.length c) xs) (h0 : 0 < xs.length) : ∃ g o, a = some ⟨g, o, none⟩ ∧ D g ∧ ∀ j, j < xs.length → w.cell? ⟨g, o + j, none⟩ = some (.int .i64 (xs.getD j 0)) := by
 obtain ⟨_, a', c', e, _, _, _, h4⟩ := h
 obtain ⟨rfl, _, rfl⟩ := Value.slice.inj e
 rcases h4 with h4 | h4
 · omega
 · exact h4
theorem row_below {base B e size n : Nat} {w w' : World} {v : Value} {xs : List Value} (h : w.ownsRow base e size v n xs) (hb : Below B w w') (hB : w.heap.size ≤ B) : w'.ownsRow base e size v n xs := by
 obtain ⟨h1, h | ⟨g, cap, cur, hv, hg, hh, r⟩⟩ := h
 · exact ⟨h1, Or.inl h⟩
 · exact ⟨h1, Or.inr ⟨g, cap, cur, hv, hg, by rw [hb.block g (Nat.lt_of_lt_of_le (lt_of_block hh) hB)]; exact hh, r⟩⟩
theorem row_own {base e size n : Nat} {w : World} {v : Value} {xs : List Value} (h : w.ownsRow base e size v n xs) : ∀ g, v.ownBlock = some g → base ≤ g ∧ g < w.heap.size := by
 intro g hg
 obtain ⟨_, h | ⟨g', cap, cur, rfl, hb, hh, _⟩⟩ := h
 · rw [h.1] at hg; cases hg
 · cases hg
   exact ⟨hb, lt_of_block hh⟩
theorem row_form3 {W : World} {base e size n : Nat} {v : Value} {xs : List Value} (h : W.ownsRow base e size v n xs) : ∃ a cap, v = .slice a n cap := by
 obtain ⟨_, h | ⟨g, cap, cur, rfl, _⟩⟩ := h
 · obtain ⟨rfl, rfl, _⟩ := h; exact ⟨_, _, rfl⟩
 · exact ⟨_, cap, rfl⟩
theorem boxA_grown {W W' : World} {B ty : Nat} {xs : Array Value} {row : Option Nat} (h : BoxA W B ty xs) (hg : W.grownBy W' row) (hr : row ≠ some B) : BoxA W' B ty xs := by
 have hlt := h.lt
 unfold BoxA at h ⊢
 rw [hg.block B hlt (fun e => hr e.symm)]; exact h
def FrR (Z : Nat) (W : World) (v : Value) : Nat → Prop := fun g => Z ≤ g ∧ g < W.heap.size ∧ v.ownBlock ≠ some g
def cellsOf (xs : List Value) (size j : Nat) : Nat → Option Value := fun k => xs[j * size + k]?
abbrev Elem := (Nat → Prop) → World → (Nat → Option Value) → Nat → Prop
def ElemOK (size : Nat) (El : Elem) : Prop := (∀ (D D' : Nat → Prop) (w w' : World) (c c' : Nat → Option Value) (j : Nat), (∀ g, D g → D' g) → Agree D w w' → (∀ k, k < size → c' k = c k) → El D w c j → El D' w' c' j)
def RowOf (e size : Nat) (El : Elem) (Z : Nat) (W : World) (v : Value) (n : Nat) : Prop := ∃ xs, W.ownsRow Z e size v n xs ∧ ∀ j, j < n → El (FrR Z W v) W (cellsOf xs size j) j
theorem RowOf.nil {e size : Nat} {El : Elem} {Z : Nat} {W : World} : RowOf e size El Z W (.slice none 0 0) 0 := ⟨[], ⟨by simp, Or.inl ⟨rfl, rfl⟩⟩, fun j hj => by omega⟩
theorem RowOf.push {e size n Z : Nat} {El : Elem} {W wa w' : World} {O : Obj} {v v' : Value} {xs news : List Value} (hE : ElemOK size El) (ho : W.ownsRow Z e size v n xs) (he : ∀ j, j < n → El (FrR Z W v) W (cellsOf xs size j) j)
    (hZ : Z ≤ W.heap.size) (k : Below W.heap.size W wa) (hl : news.length = size) (hn : El (fun g => W.heap.size ≤ g ∧ g < wa.heap.size) wa (fun k => news[k]?) n)
    (hr : w'.ownsRow Z e size v' (n + 1) (xs ++ news)) (hg : (wa.alloc O).grownBy w' v.ownBlock) (hv : v'.ownBlock = v.ownBlock ∨ v'.ownBlock = some (wa.alloc O).heap.size) : RowOf e size El Z w' v' (n + 1) := by
 refine ⟨_, hr, fun j hj => ?_⟩
 have s1 := k.size
 have s2 := hg.size
 rw [World.size_alloc] at s2
 have hx : xs.length = n * size := ho.1
 by_cases hjn : j < n
 · refine hE _ _ _ _ _ _ _ ?_ ?_ ?_ (he j hjn)
   · rintro g ⟨g1, g2, g3⟩
     refine ⟨g1, by omega, ?_⟩
     rcases hv with hv | hv
     · rw [hv]; exact g3
     · rw [hv, World.size_alloc]; intro h; have := Option.some.inj h; omega
   · rintro g ⟨g1, g2, g3⟩
     rw [hg.block g (by rw [World.size_alloc]; omega) (fun h => g3 h.symm), (below_alloc wa O).block g (by omega), k.block g g2]
   · intro q hq
     unfold cellsOf
     have : j * size + q < xs.length := by
      rw [hx]
      have : (j + 1) * size ≤ n * size := Nat.mul_le_mul_right _ (by omega)
      rw [Nat.add_mul] at this
      omega
     rw [List.getElem?_append_left this]
 · obtain rfl : j = n := by omega
   refine hE _ _ _ _ _ _ _ ?_ ?_ ?_ hn
   · rintro g ⟨g1, g2⟩
     refine ⟨by omega, by omega, ?_⟩
     intro h
     rcases hv with hv | hv
     · rw [hv] at h; have := (row_own ho g h).2; omega
     · rw [hv, World.size_alloc] at h; have := Option.some.inj h; omega
   · rintro g ⟨g1, g2⟩
     rw [hg.block g (by rw [World.size_alloc]; omega) (fun h => by have := (row_own ho g h.symm).2; omega), (below_alloc wa O).block g g2]
   · intro q hq
     unfold cellsOf
     rw [List.getElem?_append_right (by omega), hx]
     congr 1
     omega
theorem RowOf.setCell {e size n Z : Nat} {El : Elem} {W : World} {v : Value} (hE : ElemOK size El) (h : RowOf e size El Z W v n) {a : Addr} (ha : a.block < Z) (u : Value) : RowOf e size El Z (W.setCell a u) v n := by
 obtain ⟨xs, ho, he⟩ := h
 refine ⟨xs, ownsRow_setCell_other ho (fun h => by have := (row_own ho _ h).1; omega) u, fun j hj => hE _ _ _ _ _ _ _ ?_ ?_ (fun _ _ => rfl) (he j hj)⟩
 · rintro g ⟨g1, g2, g3⟩
   exact ⟨g1, by simpa [World.setCell] using g2, g3⟩
 · rintro g ⟨g1, g2, g3⟩
   have hne : ¬ a.block = g := by omega
   simp [World.setCell, Array.getElem?_modify, hne]
theorem RowOf.below {e size n Z B : Nat} {El : Elem} {W W' : World} {v : Value} (hE : ElemOK size El) (h : RowOf e size El Z W v n) (hb : Below B W W') (hB : W.heap.size ≤ B) : RowOf e size El Z W' v n := by
 obtain ⟨xs, ho, he⟩ := h
 refine ⟨xs, row_below ho hb hB, fun j hj => hE _ _ _ _ _ _ _ ?_ ?_ (fun _ _ => rfl) (he j hj)⟩
 · rintro g ⟨g1, g2, g3⟩
   exact ⟨g1, Nat.lt_of_lt_of_le g2 hb.size, g3⟩
 · rintro g ⟨g1, g2, g3⟩
   exact hb.block g (by omega)
theorem row_round {e size n Z Y o B : Nat} {El : Elem} {V wc W wa w' : World} {O : Obj} {v v' u : Value} {xs news : List Value} (hE : ElemOK size El) (ho : W.ownsRow Z e size v n xs) (he : ∀ j, j < n → El (FrR Z W v) W (cellsOf xs size j) j)
    (hk : ∀ g, g < Z → g ≠ Y → W.heap[g]? = wc.heap[g]?) (hb : Below B V W) (hZ : Z ≤ W.heap.size) (hY : B ≤ Y) (lY : Y < Z) (k : Below W.heap.size W wa) (hl : news.length = size) (hn : El (fun g => W.heap.size ≤ g ∧ g < wa.heap.size) wa (fun k => news[k]?) n)
    (hr : w'.ownsRow Z e size v' (n + 1) (xs ++ news)) (hg : (wa.alloc O).grownBy w' v.ownBlock) (hv : v'.ownBlock = v.ownBlock ∨ v'.ownBlock = some (wa.alloc O).heap.size) :
    RowOf e size El Z (w'.setCell ⟨Y, o, none⟩ u) v' (n + 1) ∧ Below B V (w'.setCell ⟨Y, o, none⟩ u) ∧ Z ≤ (w'.setCell ⟨Y, o, none⟩ u).heap.size ∧ ∀ g, g < Z → g ≠ Y → (w'.setCell ⟨Y, o, none⟩ u).heap[g]? = wc.heap[g]? := by
 have s1 := k.size
 have s2 := hg.size
 rw [World.size_alloc] at s2
 have kA := below_alloc wa O
 have kw : Below B V w' := ⟨hg.os.trans (kA.os.trans (k.os.trans hb.os)), hg.tape.trans (kA.tape.trans (k.tape.trans hb.tape)), hg.output.trans (kA.output.trans (k.output.trans hb.output)), by have := hb.size; omega, fun g hgB => by
  rw [hg.block g (by rw [World.size_alloc]; omega) (fun h => by have := (row_own ho g h.symm).1; omega), kA.block g (by omega), k.block g (by omega), hb.block g hgB]⟩
 refine ⟨(RowOf.push hE ho he hZ k hl hn hr hg hv).setCell hE (a := ⟨Y, o, none⟩) lY u, kw.setCell (p := ⟨Y, o, none⟩) hY u, by simp [World.setCell]; omega, fun g h1 h2 => ?_⟩
 have hne : ¬ Y = g := fun h => h2 h.symm
 have e1 : (w'.setCell ⟨Y, o, none⟩ u).heap[g]? = w'.heap[g]? := by simp [World.setCell, Array.getElem?_modify, hne]
 rw [e1, hg.block g (by rw [World.size_alloc]; omega) (fun h => by have := (row_own ho g h.symm).1; omega), kA.block g (by omega), k.block g (by omega), hk g h1 h2]
theorem RowOf.rowB {e size n Z : Nat} {El : Elem} {W : World} {v : Value} {C : Nat → Nat → Nat → Prop} {D : Nat → Prop} (h : RowOf e size El Z W v n) (hD : ∀ g, Z ≤ g → g < W.heap.size → D g)
    (hC : ∀ g c j, j < n → El (FrR Z W v) W c j → (∀ k, k < size → c k = W.cell? ⟨g, 0 + j * size + k, none⟩) → C g 0 j) : RowB D n v C := by
 obtain ⟨xs, ho, he⟩ := h
 have hrow := ho
 obtain ⟨h1, h | ⟨g, cap, cur, rfl, hg, hh, h2, h3, h4, h5⟩⟩ := ho
 · obtain ⟨rfl, rfl⟩ := h
   exact ⟨none, 0, rfl, Nat.le_refl _, by omega, fun _ => rfl, Or.inl rfl⟩
 · refine ⟨_, cap, rfl, h2, by unfold maxLen at h3; omega, (fun h => by cases h), Or.inr ⟨g, 0, rfl, hD g hg (lt_of_block hh), fun j hj => hC g _ j hj (he j hj) (fun k hk => ?_)⟩⟩
   have : (j + 1) * size ≤ n * size := Nat.mul_le_mul_right _ (by omega)
   rw [Nat.add_mul] at this
   have e := hrow.cellAt (j * size + k) (by omega)
   rw [Nat.zero_add]
   exact e.symm
def ElI (f : Nat) (l : List Tr) : Elem := fun D w c j => ∃ a1 c1 a2 c2 a3 c3, (c 0 = some (.int .u8 (l.getD j tr0).k) ∧ c 1 = some (.bool (l.getD j tr0).b) ∧ c 2 = some (.slice a1 (l.getD j tr0).ns.length c1) ∧ c 3 = some (.slice a2 (l.getD j tr0).ds.length c2) ∧ c 4 = some (.int .i32 (l.getD j tr0).c) ∧ c 5 = some (.slice a3 (l.getD j tr0).kids.length c3)) ∧ ItV (ArV f D w) D w a1 c1 a2 c2 a3 c3 (l.getD j tr0)
theorem elI_ok (f : Nat) (l : List Tr) : ElemOK 6 (ElI f l) := by
 rintro D D' w w' c c' j hD hb hc ⟨a1, c1, a2, c2, a3, c3, ⟨e0, e1, e2, e3, e4, e5⟩, hv⟩
 exact ⟨a1, c1, a2, c2, a3, c3, ⟨(hc 0 (by omega)).trans e0, (hc 1 (by omega)).trans e1, (hc 2 (by omega)).trans e2, (hc 3 (by omega)).trans e3, (hc 4 (by omega)).trans e4, (hc 5 (by omega)).trans e5⟩, hv.imp hD hb (fun _ _ _ h => ArV.imp hD hb f f _ _ _ (Nat.le_refl _) h)⟩
theorem rowB_I {e n Z f : Nat} {l : List Tr} {W : World} {v : Value} {D : Nat → Prop} (h : RowOf e 6 (ElI f l) Z W v n) (hD : ∀ g, Z ≤ g → g < W.heap.size → D g) :
    RowB D n v (fun g o j => ItC (ArV f D W) D W g (o + j * 6) (l.getD j tr0)) :=
 h.rowB hD (fun g c j hj ⟨a1, c1, a2, c2, a3, c3, ⟨e0, e1, e2, e3, e4, e5⟩, hv⟩ hc => ⟨a1, c1, a2, c2, a3, c3, ⟨(hc 0 (by omega)).symm.trans e0, (hc 1 (by omega)).symm.trans e1, (hc 2 (by omega)).symm.trans e2, (hc 3 (by omega)).symm.trans e3, (hc 4 (by omega)).symm.trans e4, (hc 5 (by omega)).symm.trans e5⟩, hv.imp (fun g hg => hD g hg.1 hg.2.1) (fun _ _ => rfl) (fun _ _ _ h => h.mono (fun g hg => hD g hg.1 hg.2.1))⟩)
theorem cells_new (w : World) (xs : Array Value) (t : TypeId) : ∀ j u, xs.toList[j]? = some u → (w.alloc (.cells xs t)).cell? ((⟨w.heap.size, 0, none⟩ : Addr).add j) = some u := by
 intro j u hj
 simp only [Array.getElem?_toList] at hj
 have h := (boxA_new w xs t).cell (0 + j) (v := u) (by rw [Nat.zero_add]; exact hj)
 rw [Nat.zero_add] at h
 have e : ((⟨w.heap.size, 0, none⟩ : Addr).add j) = ⟨w.heap.size, j, none⟩ := by
  by_cases h0 : j = 0
  · subst h0; simp [Addr.add]
  · simp [Addr.add, h0]
 rw [e]; exact h
def smF : Nat → Tr → Prop
 | 0, _ => True
 | f + 1, t => t.ns.length * 8 ≤ 140737488355328 ∧ t.kids.length * 96 ≤ 140737488355328 ∧ ∀ x ∈ t.kids, x.ns.length * 4 ≤ 140737488355328 ∧ x.ds.length * 4 ≤ 140737488355328 ∧ x.kids.length * 48 ≤ 140737488355328 ∧ ∀ y ∈ x.kids, smF f y
def smI (f : Nat) (x : Tr) : Prop := x.ns.length * 4 ≤ 140737488355328 ∧ x.ds.length * 4 ≤ 140737488355328 ∧ x.kids.length * 48 ≤ 140737488355328 ∧ ∀ y ∈ x.kids, smF f y
def Fr (n m : Nat) : Nat → Prop := fun g => n ≤ g ∧ g < m
theorem set6_other {w : World} {B g : Nat} (h : ¬ B = g) (v0 v1 v2 v3 v4 v5 : Value) : ((((((w.setCell ⟨B, 0, none⟩ v0).setCell ⟨B, 1, none⟩ v1).setCell ⟨B, 2, none⟩ v2).setCell ⟨B, 3, none⟩ v3).setCell ⟨B, 4, none⟩ v4).setCell ⟨B, 5, none⟩ v5).heap[g]? = w.heap[g]? := by
 simp [World.setCell, Array.getElem?_modify, h]
theorem set6_size {w : World} {B : Nat} (v0 v1 v2 v3 v4 v5 : Value) : ((((((w.setCell ⟨B, 0, none⟩ v0).setCell ⟨B, 1, none⟩ v1).setCell ⟨B, 2, none⟩ v2).setCell ⟨B, 3, none⟩ v3).setCell ⟨B, 4, none⟩ v4).setCell ⟨B, 5, none⟩ v5).heap.size = w.heap.size := by
 simp [World.setCell]
section
variable {D : Nat → Prop} {f : Nat} {w : World} {a1 a2 a3 : Option Addr} {c1 c2 c3 : Nat} {t : Tr}
end
theorem info_int3 : (Tryz.prog.info? 3).map (fun i => (i.zero, i.size, i.bytes)) = some (some (.int .i64 0), 1, 8) := by kernel_rfl
theorem getD_map_i64 (xs : List Int) (j : Nat) (h : j < xs.length) : (xs.map (Value.int .i64))[j]? = some (.int .i64 (xs.getD j 0)) := by
 simp [h]
theorem rdN_parts {D : Nat → Prop} {w : World} {a : Option Addr} {c : Nat} {xs : List Int} (h : RdN D w (.slice a xs.length c) xs) : (a = none ∧ xs = [] ∧ c = 0) ∨ ∃ ad, a = some ad ∧ ∀ j u, (xs.map (Value.int .i64))[j]? = some u → w.cell? (ad.add j) = some u := by
 obtain ⟨_, a', c', e, h1, h2, h3, h4⟩ := h
 obtain ⟨rfl, _, rfl⟩ := Value.slice.inj e
 cases a with
 | none =>
  have := h3 rfl
  subst this
  exact Or.inl ⟨rfl, List.eq_nil_of_length_eq_zero (by omega), rfl⟩
 | some ad =>
  refine Or.inr ⟨ad, rfl, ?_⟩
  rcases h4 with h4 | ⟨b, off, e2, _, hc⟩
  · have : xs = [] := List.eq_nil_of_length_eq_zero h4
    subst this
    intro j u h; simp at h
  · cases e2
    intro j u h
    have hj : j < xs.length := by
     have := (List.getElem?_eq_some_iff.1 h).1
     simpa using this
    rw [getD_map_i64 xs j hj] at h
    rw [← h, ← hc j hj]
    have e : (⟨b, off, none⟩ : Addr).add j = ⟨b, off + j, none⟩ := by
     cases j with
     | zero => simp [Addr.add]
     | succ j => simp [Addr.add]
    rw [e]
theorem append_nilN {D : Nat → Prop} {w : World} {ops : Array Oper} {rest : List Oper} {o : Oper} {a : Act} {Q : Exit → Act → World → Prop} {a1 : Option Addr} {c1 : Nat} {ns : List Int} (hgd : o.guard = none) (s x : Operand)
    (ho : o.op = .call { callee := .builtin .append, args := #[s, x], argTypes := #[26, 26] }) (hs : a.eval s = .slice none 0 0) (hx : a.eval x = .slice a1 ns.length c1) (hR : RdN D w (.slice a1 ns.length c1) ns) (hl : ns.length * 8 ≤ 140737488355328)
    (h : ∀ x1 y1 w', RdN (Fr w.heap.size w'.heap.size) w' (.slice x1 ns.length y1) ns → Below w.heap.size w w' → wpList Tryz.prog ops Q rest (a.put o.dst (.slice x1 ns.length y1)) w') : wpList Tryz.prog ops Q (o :: rest) a w := by
 obtain ⟨i0, hi, hz0, hz1, hz2⟩ := info_parts info_int3
 have hlim := hR.1
 rcases rdN_parts hR with ⟨rfl, rfl, rfl⟩ | ⟨ad, rfl, hN⟩
 · exact wpList_append_own_none hgd s x 26 ho w.heap.size 3 i0 1 Tryz.underlying26 hi (.slice none 0 0) 0 [] hs (World.ownsRow_nil _ _ _ _) hx (h none 0 w ⟨hlim, none, 0, rfl, Nat.le_refl _, by omega, fun _ => rfl, Or.inl rfl⟩ (Below.refl _ _))
 · refine wpList_append_own _ hgd s x 26 ho w.heap.size 3 i0 (.int .i64 0) 1 8 Tryz.underlying26 hi hz0 hz1 hz2 rfl (by decide) (.slice none 0 0) 0 [] hs (World.ownsRow_nil _ _ _ _) ad ns.length c1 (ns.map (Value.int .i64)) hx (by rw [List.length_map]; omega) hN (ints_oneCell _ _) ?_ ?_ (Nat.le_refl _) ?_
   · unfold maxLen; omega
   · omega
   intro v' w2 hown hgrow _
   rw [Nat.zero_add, List.nil_append] at hown
   obtain ⟨x1, y1, rfl⟩ := row_form3 hown
   refine h x1 y1 w2 ?_ ((Below.refl _ _).grown hgrow (Nat.le_refl _) (fun k h => by cases h))
   have hrow := hown
   obtain ⟨_, h | ⟨g, cap, cur, hv, hg, hh, h2, h3, _, _⟩⟩ := hown
   · obtain ⟨e1, e2⟩ := h
     obtain ⟨rfl, _, rfl⟩ := Value.slice.inj e1
     exact ⟨hlim, none, 0, rfl, by omega, by omega, fun _ => rfl, Or.inl e2⟩
   · obtain ⟨rfl, _, rfl⟩ := Value.slice.inj hv
     refine ⟨hlim, _, y1, rfl, h2, by unfold maxLen at h3; omega, (fun h => by cases h), Or.inr ⟨g, 0, rfl, ⟨hg, lt_of_block hh⟩, fun j hj => ?_⟩⟩
     have := hrow.cellAt j (by omega)
     rw [getD_map_i64 ns j hj] at this
     rw [Nat.zero_add]; exact this
theorem set1_other {w : World} {a : Addr} {g : Nat} (h : ¬ a.block = g) (u : Value) : (w.setCell a u).heap[g]? = w.heap[g]? := by
 simp [World.setCell, Array.getElem?_modify, h]
theorem set1_size {w : World} {a : Addr} (u : Value) : (w.setCell a u).heap.size = w.heap.size := by
 simp [World.setCell]
end Go.Proofs.YtimfnalpmmkndaaGreatDoor
