/- Items as values; rows of them; the iterator of a slice of items. -/
import Derived.Test.YthfmicokddcglaaGreatDoorKX
import Derived.Test.YthfmicokddcglaaGreatDoorK7
import Derived.Shelf.Abstract
import Derived.Shelf.RegionOpen
import Derived.OwnWalkIn
import Derived.TacticsInMore
import Derived.LoopNIn
import Derived.LoopIn
namespace Go.Proofs.YthfmicokddcglaaGreatDoor
set_option linter.unusedVariables false
set_option linter.unusedSimpArgs false
open Go.RowKit Go.Shelf

attribute [local go_sem] Oper.semAt_some

/-- What the six cells of an item hold. -/
structure IV where
  k : Int
  b : Bool
  a1 : Option Addr
  n1 : Nat
  c1 : Nat
  a2 : Option Addr
  n2 : Nat
  c2 : Nat
  c : Int
  a3 : Option Addr
  n3 : Nat
  c3 : Nat
def iv0 : IV := ⟨0, false, none, 0, 0, none, 0, 0, 0, none, 0, 0⟩
def IV.arr (x : IV) : Array Value := #[.int .u8 x.k, .bool x.b, .slice x.a1 x.n1 x.c1, .slice x.a2 x.n2 x.c2, .int .i32 x.c, .slice x.a3 x.n3 x.c3]
def IV.encs (x : IV) : Array Value := #[.agg #[.int .u8 x.k, .bool x.b, .slice x.a1 x.n1 x.c1, .slice x.a2 x.n2 x.c2, .int .i32 x.c, .slice x.a3 x.n3 x.c3]]
/-- It is the item t. -/
structure IsIt (f : Nat) (D : Nat → Prop) (w : World) (x : IV) (t : Tr) : Prop where
  k : x.k = t.k
  b : x.b = t.b
  n1 : x.n1 = t.ns.length
  n2 : x.n2 = t.ds.length
  c : x.c = t.c
  n3 : x.n3 = t.kids.length
  v : ItV (ArV f D w) D w x.a1 x.c1 x.a2 x.c2 x.a3 x.c3 t
theorem IsIt.imp {f : Nat} {D D' : Nat → Prop} {w w' : World} {x : IV} {t : Tr} (h : IsIt f D w x t) (hD : ∀ g, D g → D' g) (hb : Agree D w w') : IsIt f D' w' x t :=
  ⟨h.k, h.b, h.n1, h.n2, h.c, h.n3, h.v.imp hD hb (fun _ _ _ h => ArV.imp hD hb f f _ _ _ (Nat.le_refl _) h)⟩
theorem IsIt.agree {f : Nat} {D : Nat → Prop} {w w' : World} {x : IV} {t : Tr} (h : IsIt f D w x t) (hb : Agree D w w') : IsIt f D w' x t := h.imp (fun _ h => h) hb
theorem IsIt.up {f f' : Nat} {D : Nat → Prop} {w : World} {x : IV} {t : Tr} (h : IsIt f D w x t) (hf : f ≤ f') : IsIt f' D w x t :=
  ⟨h.k, h.b, h.n1, h.n2, h.c, h.n3, h.v.imp (fun _ h => h) (fun _ _ => rfl) (fun _ _ _ h => h.up hf)⟩
/-- Six cells in a row. -/
def CellsAt (W : World) (g o : Nat) (x : IV) : Prop := W.cell? ⟨g, o, none⟩ = some (.int .u8 x.k) ∧ W.cell? ⟨g, o + 1, none⟩ = some (.bool x.b) ∧ W.cell? ⟨g, o + 2, none⟩ = some (.slice x.a1 x.n1 x.c1) ∧ W.cell? ⟨g, o + 3, none⟩ = some (.slice x.a2 x.n2 x.c2) ∧ W.cell? ⟨g, o + 4, none⟩ = some (.int .i32 x.c) ∧ W.cell? ⟨g, o + 5, none⟩ = some (.slice x.a3 x.n3 x.c3)
theorem CellsAt.agree {D : Nat → Prop} {W W' : World} {g o : Nat} {x : IV} (h : CellsAt W g o x) (hb : Agree D W W') (hg : D g) : CellsAt W' g o x :=
  ⟨(hb.cell hg).trans h.1, (hb.cell hg).trans h.2.1, (hb.cell hg).trans h.2.2.1, (hb.cell hg).trans h.2.2.2.1, (hb.cell hg).trans h.2.2.2.2.1, (hb.cell hg).trans h.2.2.2.2.2⟩
/-- A slice of items, by their cells. -/
def RowIV (D : Nat → Prop) (W : World) (v : Value) (L : List IV) : Prop := RowB D L.length v (fun g o j => CellsAt W g (o + j * 6) (L.getD j iv0))
theorem RowIV.agree {D : Nat → Prop} {W W' : World} {v : Value} {L : List IV} (h : RowIV D W v L) (hb : Agree D W W') : RowIV D W' v L :=
  RowB.imp h (fun _ h => h) (fun g o j hg _ hc => hc.agree hb hg)
theorem list_of {α : Type} (d : α) (P : Nat → α → Prop) : ∀ n : Nat, (∀ j, j < n → ∃ x, P j x) → ∃ L : List α, L.length = n ∧ ∀ j, j < n → P j (L.getD j d)
  | 0, _ => ⟨[], rfl, fun j hj => by omega⟩
  | n + 1, h => by
    obtain ⟨L, h1, h2⟩ := list_of d P n (fun j hj => h j (by omega))
    obtain ⟨x, hx⟩ := h n (by omega)
    refine ⟨L ++ [x], by simp [h1], fun j hj => ?_⟩
    by_cases hjn : j < n
    · have := h2 j hjn
      rw [List.getD_eq_getElem?_getD, List.getElem?_append_left (by omega), ← List.getD_eq_getElem?_getD]
      exact this
    · obtain rfl : j = n := by omega
      rw [List.getD_eq_getElem?_getD, List.getElem?_append_right (by omega), h1]
      simpa using hx
/-- The items of an array, by their cells. -/
theorem row_iv {f : Nat} {D : Nat → Prop} {w : World} {v : Value} {l : List Tr} (h : RowB D l.length v (fun g o j => ItC (ArV f D w) D w g (o + j * 6) (l.getD j tr0))) :
    ∃ L : List IV, L.length = l.length ∧ RowIV D w v L ∧ ∀ j, j < l.length → IsIt f D w (L.getD j iv0) (l.getD j tr0) := by
  obtain ⟨a, cap, rfl, h1, h2, h3, h4⟩ := h
  rcases h4 with h4 | ⟨g, o, rfl, hg, hc⟩
  · refine ⟨[], h4.symm, ?_, fun j hj => by omega⟩
    rw [h4] at h1 ⊢
    exact ⟨a, cap, rfl, h1, h2, h3, Or.inl rfl⟩
  · obtain ⟨L, e1, e2⟩ := list_of iv0 (fun j x => CellsAt w g (o + j * 6) x ∧ IsIt f D w x (l.getD j tr0)) l.length (fun j hj => by
      obtain ⟨b1, d1, b2, d2, b3, d3, hcs, hv⟩ := hc j hj
      exact ⟨⟨(l.getD j tr0).k, (l.getD j tr0).b, b1, (l.getD j tr0).ns.length, d1, b2, (l.getD j tr0).ds.length, d2, (l.getD j tr0).c, b3, (l.getD j tr0).kids.length, d3⟩, hcs, rfl, rfl, rfl, rfl, rfl, rfl, hv⟩)
    refine ⟨L, e1, ?_, fun j hj => (e2 j hj).2⟩
    rw [← e1] at h1 ⊢
    exact ⟨_, cap, rfl, h1, h2, h3, Or.inr ⟨g, o, rfl, hg, fun j hj => (e2 j (by omega)).1⟩⟩
/-- What a round keeps. -/
structure KeepW (n₀ : Nat) (W W' : World) : Prop where
  below : Below n₀ W W'
  others : KeepsWalks W W'
theorem KeepW.trans {n₀ : Nat} {A B C : World} (h : KeepW n₀ A B) (k : KeepW n₀ B C) : KeepW n₀ A C := ⟨h.below.trans k.below, h.others.trans k.others⟩
theorem keepW_put {n₀ B0 : Nat} (h1 : n₀ ≤ B0) (W : World) (l : Nat) (o o' : Obj) (hl : B0 ≤ l) (ho : W.heap[l]? = some o) (hw : o.isWalk = false) : KeepW n₀ W (W.putObj l o') :=
  ⟨(Below.refl _ W).grown (grownBy_putObj' W l o') (by have := (Array.getElem?_eq_some_iff.1 ho).1; omega) (fun k e => by cases e; omega), KeepsWalks.putObj _ ho hw⟩
/-- An item among those that come. -/
theorem pre_next {α : Type} {d : α} {L pre : List α} {x : α} (h : pre ++ [x] <+: L) : pre.length < L.length ∧ x = L.getD pre.length d := by
  obtain ⟨r, rfl⟩ := h
  constructor
  · simp
  · simp
theorem pre_step {α : Type} {d : α} {L : List α} {i : Nat} (h : i < L.length) : L.take i ++ [L.getD i d] = L.take (i + 1) := by
  rw [List.take_add_one, List.getD_eq_getElem?_getD, List.getElem?_eq_getElem h]
  simp

set_option maxRecDepth 100000 in
set_option maxHeartbeats 6400000 in
theorem values_pays {w : World} {D : Nat → Prop} {a2 : Option Addr} {c2 : Nat} {L : List IV} {Bn n₀ : Nat} (n : Nat) (hn : 2 ≤ n) (hn₀ : Bn < n₀) (hnw : n₀ ≤ w.heap.size) (hBn : BoxA w Bn 33 #[.slice a2 L.length c2]) (hR : RowIV D w (.slice a2 L.length c2) L) (hD : ∀ g, D g → g < n₀) :
    Pays Fence.wide n Tryz.prog 133 #[.pointer (some ⟨Bn, 0, none⟩)] IV.encs (KeepW n₀) (fun pre x W => pre ++ [x] <+: L ∧ Below n₀ w W) (fun xs W => xs = L ∧ Below n₀ w W) w := by
  intro l J W hW hJ hY hJ0
  have hBW := hBn.below hW hBn.lt
  have hsW := hW.size
  have c0 := hBW.cell 0 rfl
  have bd := RowB.bounds hR
  have HR : Hid (RowIV D w (.slice a2 L.length c2) L) := hR
  have HD : Hid (∀ g, D g → g < n₀) := hD
  have hW0 : Below n₀ w W := hW.mono hnw
  clear hR hD
  refine callsIn_of_wp Tryz.func133 rfl trivial ?_ rfl
  simp only [Tryz.ntmps133, List.size_toArray, List.length_cons, List.length_nil, Nat.reduceAdd, Nat.reduceSub, Array.replicate_succ, Array.replicate_zero, List.push_toArray, List.append_toArray, List.nil_append, List.cons_append]
  gi_wp2
  clear c0
  gi_loopw [7] (fun iv wr => ∃ (i : Nat), iv = .int .i64 i ∧ i ≤ L.length ∧ J (L.take i) wr ∧ Below n₀ w wr) (fun iv _ => L.length - (intOf iv).toNat)
  case atStart => exact ⟨0, rfl, Nat.zero_le _, by simpa using hJ0, hW0⟩
  case round =>
    obtain ⟨i, rfl, hil, hJs, hbr⟩ := hrel
    by_cases hlt : i < L.length
    · obtain ⟨g1, o1, rfl, hg1, hc1⟩ := RowB.ptr HR.out (by omega)
      have hc := (hc1 i hlt).agree (D := fun g => g < n₀) (fun g hg => hbr.block g hg) (HD.out g1 hg1)
      obtain ⟨x, hx⟩ : ∃ x, L.getD i iv0 = x := ⟨_, rfl⟩
      rw [hx] at hc
      have HX : Hid (L.take i ++ [x] = L.take (i + 1)) := by unfold Hid; rw [← hx]; exact pre_step hlt
      obtain ⟨E0, E1, E2, E3, E4, E5⟩ := hc
      have hkx := below_alloc wr (.cells #[.int .u8 x.k, .bool x.b, .slice x.a1 x.n1 x.c1, .slice x.a2 x.n2 x.c2, .int .i32 x.c, .slice x.a3 x.n3 x.c3] 45)
      have X1 := boxA_new wr #[.int .u8 x.k, .bool x.b, .slice x.a1 x.n1 x.c1, .slice x.a2 x.n2 x.c2, .int .i32 x.c, .slice x.a3 x.n3 x.c3] 45
      have m0 := X1.cell 0 rfl
      have m1 := X1.cell 1 rfl
      have m2 := X1.cell 2 rfl
      have m3 := X1.cell 3 rfl
      have m4 := X1.cell 4 rfl
      have m5 := X1.cell 5 rfl
      have sz := hbr.size
      have hb3 : Below n₀ w (wr.alloc (.cells #[.int .u8 x.k, .bool x.b, .slice x.a1 x.n1 x.c1, .slice x.a2 x.n2 x.c2, .int .i32 x.c, .slice x.a3 x.n3 x.c3] 45)) := hbr.trans (hkx.mono (by omega))
      have hJ3 := hJ (L.take i) wr _ none hJs (World.grownBy_alloc wr (.cells #[.int .u8 x.k, .bool x.b, .slice x.a1 x.n1 x.c1, .slice x.a2 x.n2 x.c2, .int .i32 x.c, .slice x.a3 x.n3 x.c3] 45) none) (fun r e => by cases e)
      obtain ⟨fn, tmps, assign, body, hy, hRd⟩ := hY (L.take i) x _ hJ3 ⟨by rw [HX.out]; exact List.take_prefix _ _, hb3⟩
      dsimp only [IV.encs] at hy
      clear hc1 hx hkx X1 hJs hJ3
      gi_wp2
      refine ⟨fun _ => by omega, hRd.mono ?_⟩
      rintro e W4 ⟨rfl, hJ4, hk4⟩
      have hb4 := hb3.trans hk4.below
      gi_wp2
      go_roundw
      case rel => exact ⟨i + 1, by go_num, by omega, by rw [← HX.out]; exact hJ4, hb4⟩
      case measure => simp [intOf]; omega
    · obtain rfl : i = L.length := by omega
      have HJ : Hid (J L wr) := by unfold Hid; rw [List.take_length] at hJs; exact hJs
      gi_wp2
      go_end0
      exact ⟨⟨_, rfl⟩, L, ⟨rfl, hbr⟩, HJ.out⟩
end Go.Proofs.YthfmicokddcglaaGreatDoor

/- What lies in cells stays where other blocks are turned; append as one step inside a fence. -/
namespace Go.Proofs.YthfmicokddcglaaGreatDoor
set_option linter.unusedVariables false
set_option linter.unusedSimpArgs false
open Go.RowKit

def IsC (w : World) (g : Nat) : Prop := ∃ o : Obj, w.heap[g]? = some o ∧ o.isCells = true
theorem isC_of {w : World} {g o : Nat} {v : Value} (h : w.cell? ⟨g, o, none⟩ = some v) : IsC w g := by
  unfold World.cell? at h
  unfold IsC
  cases ho : w.heap[g]? with
  | none => simp [ho] at h
  | some b => refine ⟨b, rfl, ?_⟩; cases b <;> simp_all [Obj.isCells]
theorem RdL.cells {D : Nat → Prop} {w : World} {v : Value} {xs : List Int} (h : RdL D w v xs) : RdL (fun g => D g ∧ IsC w g) w v xs := by
  obtain ⟨h0, a, cap, rfl, h1, h2, h3, h4⟩ := h
  refine ⟨h0, a, cap, rfl, h1, h2, h3, ?_⟩
  by_cases hz : xs.length = 0
  · exact Or.inl hz
  rcases h4 with h4 | ⟨b, off, rfl, hlt, hc⟩
  · exact Or.inl h4
  · exact Or.inr ⟨b, off, rfl, ⟨hlt, isC_of (hc 0 (by omega))⟩, hc⟩
theorem RdN.cells {D : Nat → Prop} {w : World} {v : Value} {xs : List Int} (h : RdN D w v xs) : RdN (fun g => D g ∧ IsC w g) w v xs := by
  obtain ⟨h0, a, cap, rfl, h1, h2, h3, h4⟩ := h
  refine ⟨h0, a, cap, rfl, h1, h2, h3, ?_⟩
  by_cases hz : xs.length = 0
  · exact Or.inl hz
  rcases h4 with h4 | ⟨b, off, rfl, hlt, hc⟩
  · exact Or.inl h4
  · exact Or.inr ⟨b, off, rfl, ⟨hlt, isC_of (hc 0 (by omega))⟩, hc⟩
theorem RowB.cells {D : Nat → Prop} {w : World} {n : Nat} {v : Value} {C C' : Nat → Nat → Nat → Prop} (h : RowB D n v C) (hC : ∀ g o j, j < n → C g o j → IsC w g ∧ C' g o j) : RowB (fun g => D g ∧ IsC w g) n v C' := by
  obtain ⟨a, cap, rfl, h1, h2, h3, h4⟩ := h
  refine ⟨a, cap, rfl, h1, h2, h3, ?_⟩
  by_cases hz : n = 0
  · exact Or.inl hz
  rcases h4 with h4 | ⟨g, o, rfl, hlt, hc⟩
  · exact Or.inl h4
  · exact Or.inr ⟨g, o, rfl, ⟨hlt, (hC g o 0 (by omega) (hc 0 (by omega))).1⟩, fun j hj => (hC g o j hj (hc j hj)).2⟩
theorem ItV.cells {P P' : Value → Value → Tr → Prop} {D : Nat → Prop} {w : World} {a1 a2 a3 : Option Addr} {c1 c2 c3 : Nat} {t : Tr} (h : ItV P D w a1 c1 a2 c2 a3 c3 t) (hP : ∀ v1 v2 t, P v1 v2 t → P' v1 v2 t) : ItV P' (fun g => D g ∧ IsC w g) w a1 c1 a2 c2 a3 c3 t :=
  ⟨h.rn.cells, h.rd.cells, h.bx.cells (fun g o j hj ⟨x1, n1, y1, x2, n2, y2, e1, e2, e3⟩ => ⟨isC_of e1, x1, n1, y1, x2, n2, y2, e1, e2, hP _ _ _ e3⟩)⟩
theorem ArV.cells {D : Nat → Prop} {w : World} : ∀ (f : Nat) (v1 v2 : Value) (t : Tr), ArV f D w v1 v2 t → ArV f (fun g => D g ∧ IsC w g) w v1 v2 t
  | 0, _, _, _, h => h.elim
  | f + 1, v1, v2, t, h => ⟨h.1.cells, h.2.cells (fun g o j hj ⟨a1, c1, a2, c2, a3, c3, hcs, hv⟩ => ⟨isC_of hcs.1, a1, c1, a2, c2, a3, c3, hcs, hv.cells (fun u1 u2 s hs => ArV.cells f u1 u2 s hs)⟩)⟩
theorem elI_cells {f : Nat} {l : List Tr} {D : Nat → Prop} {w : World} {c : Nat → Option Value} {j : Nat} (h : ElI f l D w c j) : ElI f l (fun g => D g ∧ IsC w g) w c j := by
  obtain ⟨a1, c1, a2, c2, a3, c3, hcs, hv⟩ := h
  exact ⟨a1, c1, a2, c2, a3, c3, hcs, hv.cells (fun u1 u2 s hs => ArV.cells f u1 u2 s hs)⟩
theorem row_kept {A B : World} {Z e size n : Nat} {v : Value} {xs : List Value} {row : Option Nat} (b2 : A.ownsRow Z e size v n xs) (hg : A.grownBy B row) (hrow : ∀ k, row = some k → ∃ o : Obj, A.heap[k]? = some o ∧ o.isCells = false) : B.ownsRow Z e size v n xs := by
  refine b2.kept hg ?_
  by_cases hv : v.ownBlock = none
  · exact Or.inl hv
  · refine Or.inr (fun e => ?_)
    obtain ⟨_, h | ⟨g, cap, cur, rfl, _, hh, _⟩⟩ := b2
    · rw [h.1] at hv; exact hv rfl
    · obtain ⟨o, ho, hc⟩ := hrow g e.symm
      rw [hh] at ho
      cases ho
      cases hc
/-- A row of items stays where blocks that are no cells are turned. -/
theorem rowI_grown {A B : World} {e f Z n : Nat} {l : List Tr} {v : Value} {row : Option Nat} (h : RowOf e 6 (ElI f l) Z A v n) (hg : A.grownBy B row) (hrow : ∀ k, row = some k → ∃ o : Obj, A.heap[k]? = some o ∧ o.isCells = false) : RowOf e 6 (ElI f l) Z B v n := by
  obtain ⟨xs, ho, he⟩ := h
  refine ⟨xs, row_kept ho hg hrow, fun j hj => elI_ok f l _ _ _ _ _ _ _ ?_ ?_ (fun _ _ => rfl) (elI_cells (he j hj))⟩
  · rintro g ⟨⟨g1, g2, g3⟩, _⟩
    exact ⟨g1, Nat.lt_of_lt_of_le g2 hg.size, g3⟩
  · rintro g ⟨⟨g1, g2, g3⟩, o, ho', hc⟩
    refine hg.block g g2 (fun e => ?_)
    obtain ⟨o2, h2, h3⟩ := hrow g e.symm
    rw [ho'] at h2
    cases h2
    rw [hc] at h3
    cases h3
theorem boxA_kept {A B : World} {R ty : Nat} {xs : Array Value} {row : Option Nat} (h : BoxA A R ty xs) (hg : A.grownBy B row) (hrow : ∀ k, row = some k → ∃ o : Obj, A.heap[k]? = some o ∧ o.isCells = false) : BoxA B R ty xs :=
  boxA_grown h hg (fun e => by
    obtain ⟨o, ho, hc⟩ := hrow R e
    unfold BoxA at h
    rw [h] at ho
    cases ho
    cases hc)
theorem row_isC {W : World} {base e size n : Nat} {v : Value} {xs : List Value} (h : W.ownsRow base e size v n xs) : ∀ j, v.ownBlock = some j → ∃ o : Obj, W.heap[j]? = some o ∧ o.isCells = true := by
  intro j hj
  obtain ⟨_, h | ⟨g, cap, cur, rfl, _, hh, _⟩⟩ := h
  · rw [h.1] at hj; cases hj
  · cases hj
    exact ⟨_, hh, rfl⟩
theorem boxA_p1 {W : World} {B ty : Nat} {u : Value} (h : BoxA W B ty #[u]) (v : Value) : BoxA (W.setCell ⟨B, 0, none⟩ v) B ty #[v] := by
  unfold BoxA at h ⊢
  simp [World.setCell, Array.getElem?_modify, h]
theorem boxA_o {w : World} {k ty : Nat} {xs : Array Value} {p : Addr} (h : BoxA w k ty xs) (hp : p.block ≠ k) (v : Value) : BoxA (w.setCell p v) k ty xs := by
  unfold BoxA at h ⊢
  simp [World.setCell, Array.getElem?_modify, hp, h]
/-- append onto a slice of the call's own, as one step of a region that draws, inside a fence. -/
theorem stepIn_append_at {F : Fence} {N : Nat} {P : Program} {ops : Array Oper} {o : Oper} {a : Act} {w : World} {K : Act → World → Prop} {Q : Exit → Act → World → Prop} {E : Prop} (hg : o.guard = none) (s x : Operand) (t : TypeId)
    (ho : o.op = .call { callee := .builtin .append, args := #[s, x], argTypes := #[t, t] })
    (base : Nat) (e : TypeId) (i : TypeInfo) (z : Value) (size bytes : Nat) (ht : P.underlying t = some (.slice e)) (hi : P.info? e = some i) (hz : i.zero = some z)
    (hsize : i.size = size) (hby : i.bytes = bytes) (hzs : z.cells.size = size) (hsz : 0 < size)
    (v : Value) (n : Nat) (xs : List Value) (hs : a.eval s = v) (hown : w.ownsRow base e size v n xs)
    (ad : Addr) (m c : Nat) (news : List Value) (hx : a.eval x = .slice (some ad) m c) (hl : news.length = m * size) (hnews : ∀ j u, news[j]? = some u → w.cell? (ad.add j) = some u) (h1 : ∀ u ∈ news, u.oneCell' = true)
    (h63 : n + m ≤ maxLen) (hbytes : (n + m) * bytes ≤ 140737488355328) (hbase : base ≤ w.heap.size)
    (hK : ∀ v' w', w'.ownsRow base e size v' (n + m) (xs ++ news) → w.grownBy w' v.ownBlock → (v'.ownBlock = v.ownBlock ∨ v'.ownBlock = some w.heap.size) → K (a.put o.dst v') w') :
    if Region.wanted o (yielded ops a.tmps) = true then Oper.wpIn F N P o a w K Q else E := by
  rw [if_pos (by simp [Region.wanted, hg])]
  obtain ⟨v', w', hr, h2, h3, h4, h5⟩ := run_append_own_at (P := P) w base t o.type e i z size bytes ht hi hz hsize hby hzs hsz v n xs hown ad m c news hl hnews h1 h63 hbytes hbase
  unfold Oper.wpIn
  refine ⟨?_, ?_⟩
  · simp [Oper.about, ho, resolve, Target.leads, Sem.run_pure]
  · rw [Oper.semAt_plain F _ _ (by rw [ho]; intro c hc'; cases hc')]
    unfold execOp
    simp only [ho, resolve, invoke, builtin, Sem.run_bind, Sem.run_pure, Result.andThen_ok, List.map_toArray, List.map_cons, List.map_nil, hs, hx, hr]
    exact hK v' w' h2 h3 h5
end Go.Proofs.YthfmicokddcglaaGreatDoor

/- array.each: of each item that comes a copy. -/
namespace Go.Proofs.YthfmicokddcglaaGreatDoor
set_option linter.unusedVariables false
set_option linter.unusedSimpArgs false
open Go.RowKit Go.Shelf

attribute [local go_sem] Oper.semAt_some

def eachC_ops : Array Oper := #[
  { dst := some 9, op := Op.load 33 (Operand.tmp 5), type := 33, pos := "array.go:135", after := #[], guard := none },
  { dst := some 10, op := Op.load 63 (Operand.tmp 2), type := 63, pos := "array.go:135", after := #[], guard := none },
  { dst := some 11, op := Op.load 45 (Operand.tmp 6), type := 45, pos := "array.go:135", after := #[], guard := none },
  { dst := some 12, op := Op.call { callee := Callee.value (Operand.tmp 10), args := #[Operand.tmp 11], argTypes := #[45] }, type := 45, pos := "array.go:135", after := #[{ on := 1, ground := Ground.data }, { on := 2, ground := Ground.data }], guard := none },
  { dst := some 13, op := Op.buildSlice 33 1 #[(0, Operand.tmp 12)], type := 33, pos := "array.go:135", after := #[{ on := 3, ground := Ground.data }], guard := none },
  { dst := some 14, op := Op.call { callee := Callee.builtin Builtin.append, args := #[Operand.tmp 9, Operand.tmp 13], argTypes := #[33, 33] }, type := 33, pos := "array.go:135", after := #[{ on := 0, ground := Ground.data }, { on := 4, ground := Ground.data }, { on := 3, ground := Ground.chain }], guard := none },
  { dst := none, op := Op.store 33 (Operand.tmp 5) (Operand.tmp 14), type := 0, pos := "array.go:135", after := #[{ on := 5, ground := Ground.data }, { on := 5, ground := Ground.chain }, { on := 0, ground := Ground.phase }, { on := 1, ground := Ground.phase }, { on := 2, ground := Ground.phase }, { on := 3, ground := Ground.phase }, { on := 4, ground := Ground.phase }, { on := 5, ground := Ground.phase }], guard := none }]
theorem info_item4C : (Tryz.prog.info? 45).map (fun i => (i.zero, i.size, i.bytes)) = some (some (.agg #[.int .u8 0, .bool false, .slice none 0 0, .slice none 0 0, .int .i32 0, .slice none 0 0]), 6, 96) := by kernel_rfl
section
variable {Q : Exit → Act → World → Prop} {l N f i d3 Z Wk O Bx : Nat} {b3 : Option Addr} {W wa : World} {x y : IV} {t : Tr} {xs : List Value} {t0 t1 t2 t3 t4 t5 t6 t7 t8 t9 t10 t11 t12 t13 t14 t15 : Value} {r : List Value} {ds : List Deferred}

set_option maxRecDepth 100000 in
set_option maxHeartbeats 16000000 in
theorem eachC_s51 (HO : W.ownsRow Z 45 6 (.slice b3 i d3) i xs) (BO : BoxA W O 33 #[.slice b3 i d3]) (BW : BoxA W Wk 63 #[.func (.func 77) #[] #[]]) (BX : BoxA W Bx 45 #[.int .u8 x.k, .bool x.b, .slice x.a1 x.n1 x.c1, .slice x.a2 x.n2 x.c2, .int .i32 x.c, .slice x.a3 x.n3 x.c3]) (lO : O < Z) (lZ : Z ≤ W.heap.size) (hi : (i + 1) * 96 ≤ 140737488355328) (hQ : ∀ (y : IV) (wa : World) (b4 : Option Addr) (d4 : Nat) (w2 : World), IsIt f (Fr W.heap.size wa.heap.size) wa y t → Below W.heap.size W wa → w2.ownsRow Z 45 6 (.slice b4 (i + 1) d4) (i + 1) (xs ++ [.int .u8 y.k, .bool y.b, .slice y.a1 y.n1 y.c1, .slice y.a2 y.n2 y.c2, .int .i32 y.c, .slice y.a3 y.n3 y.c3]) → (wa.alloc (.cells #[.int .u8 y.k, .bool y.b, .slice y.a1 y.n1 y.c1, .slice y.a2 y.n2 y.c2, .int .i32 y.c, .slice y.a3 y.n3 y.c3] 45)).grownBy w2 (Value.slice b3 i d3).ownBlock → ((Value.slice b4 (i + 1) d4).ownBlock = (Value.slice b3 i d3).ownBlock ∨ (Value.slice b4 (i + 1) d4).ownBlock = some (wa.alloc (.cells #[.int .u8 y.k, .bool y.b, .slice y.a1 y.n1 y.c1, .slice y.a2 y.n2 y.c2, .int .i32 y.c, .slice y.a3 y.n3 y.c3] 45)).heap.size) → Q .normal { tmps := (t0 :: t1 :: (.pointer (some ⟨Wk, 0, none⟩)) :: t3 :: t4 :: (.pointer (some ⟨O, 0, none⟩)) :: (.pointer (some ⟨Bx, 0, none⟩)) :: t7 :: t8 :: (.slice b3 i d3) :: (.func (.func 77) #[] #[]) :: (.agg #[.int .u8 x.k, .bool x.b, .slice x.a1 x.n1 x.c1, .slice x.a2 x.n2 x.c2, .int .i32 x.c, .slice x.a3 x.n3 x.c3]) :: (.agg #[.int .u8 y.k, .bool y.b, .slice y.a1 y.n1 y.c1, .slice y.a2 y.n2 y.c2, .int .i32 y.c, .slice y.a3 y.n3 y.c3]) :: (.slice (some ⟨wa.heap.size, 0, none⟩) 1 1) :: (.slice b4 (i + 1) d4) :: t15 :: r).toArray, defers := ds } (w2.setCell ⟨O, 0, none⟩ (.slice b4 (i + 1) d4))) (hI : IsIt f (Fr W.heap.size wa.heap.size) wa y t) (k : Below W.heap.size W wa) :
    wpAnyIn (Fence.wide.inRound l) N Tryz.prog .any eachC_ops Q 2 #[true, true, true, true, true, false, false] { tmps := (t0 :: t1 :: (.pointer (some ⟨Wk, 0, none⟩)) :: t3 :: t4 :: (.pointer (some ⟨O, 0, none⟩)) :: (.pointer (some ⟨Bx, 0, none⟩)) :: t7 :: t8 :: (.slice b3 i d3) :: (.func (.func 77) #[] #[]) :: (.agg #[.int .u8 x.k, .bool x.b, .slice x.a1 x.n1 x.c1, .slice x.a2 x.n2 x.c2, .int .i32 x.c, .slice x.a3 x.n3 x.c3]) :: (.agg #[.int .u8 y.k, .bool y.b, .slice y.a1 y.n1 y.c1, .slice y.a2 y.n2 y.c2, .int .i32 y.c, .slice y.a3 y.n3 y.c3]) :: (.slice (some ⟨wa.heap.size, 0, none⟩) 1 1) :: t14 :: t15 :: r).toArray, defers := ds } (wa.alloc (.cells #[.int .u8 y.k, .bool y.b, .slice y.a1 y.n1 y.c1, .slice y.a2 y.n2 y.c2, .int .i32 y.c, .slice y.a3 y.n3 y.c3] 45)) := by
  obtain ⟨i0, hi0, hz0, hz1, hz2⟩ := info_parts info_item4C
  have sk := k.size
  refine wpAnyIn_ready (rs := [5]) (by kernel_rfl) (by simp) ?_
  refine AllReadyIn.cons (o := { dst := some 14, op := Op.call { callee := Callee.builtin Builtin.append, args := #[Operand.tmp 9, Operand.tmp 13], argTypes := #[33, 33] }, type := 33, pos := "array.go:135", after := #[{ on := 0, ground := Ground.data }, { on := 4, ground := Ground.data }, { on := 3, ground := Ground.chain }], guard := none }) rfl (fun K hK => ?_) ?_
  · refine stepIn_append_at rfl _ _ 33 rfl Z 45 i0 (.agg #[.int .u8 0, .bool false, .slice none 0 0, .slice none 0 0, .int .i32 0, .slice none 0 0]) 6 96 Tryz.underlying33 hi0 hz0 hz1 hz2 rfl (by decide) _ i xs rfl (row_below HO k (Nat.le_refl _) |>.alloc _) ⟨wa.heap.size, 0, none⟩ 1 1 [.int .u8 y.k, .bool y.b, .slice y.a1 y.n1 y.c1, .slice y.a2 y.n2 y.c2, .int .i32 y.c, .slice y.a3 y.n3 y.c3] rfl rfl (cells_new wa #[.int .u8 y.k, .bool y.b, .slice y.a1 y.n1 y.c1, .slice y.a2 y.n2 y.c2, .int .i32 y.c, .slice y.a3 y.n3 y.c3] _) (by intro u hu; simp at hu; rcases hu with rfl | rfl | rfl | rfl | rfl | rfl <;> rfl) (by unfold maxLen; omega) (by omega) (by simp; omega) ?_
    intro v2 w2 hr hgr hvo
    obtain ⟨b4, d4, rfl⟩ := row_form3 hr
    have HQ : Hid _ := hQ y wa b4 d4 w2 hI k hr hgr hvo
    have BN := boxA_grown ((BO.below k (by omega)).below (below_alloc wa (.cells #[.int .u8 y.k, .bool y.b, .slice y.a1 y.n1 y.c1, .slice y.a2 y.n2 y.c2, .int .i32 y.c, .slice y.a3 y.n3 y.c3] 45)) (by omega)) hgr (fun h => by have := (row_own HO _ h).1; omega)
    have yN := BN.cell 0 rfl
    have fN := BN.frozen 0
    clear hQ hI hr hgr hvo HO BO BW BX
    simp only [Act.put, List.setIfInBounds_toArray, List.set_cons_zero, List.set_cons_succ]
    refine hK _ _ ?_
    clear hK K
    refine wpAnyIn_ready (rs := [6]) (by kernel_rfl) (by simp) ?_
    refine AllReadyIn.cons (o := { dst := none, op := Op.store 33 (Operand.tmp 5) (Operand.tmp 14), type := 0, pos := "array.go:135", after := #[{ on := 5, ground := Ground.data }, { on := 5, ground := Ground.chain }, { on := 0, ground := Ground.phase }, { on := 1, ground := Ground.phase }, { on := 2, ground := Ground.phase }, { on := 3, ground := Ground.phase }, { on := 4, ground := Ground.phase }, { on := 5, ground := Ground.phase }], guard := none }) rfl (fun K hK => ?_) ?_
    · go_simp
      refine hK _ _ ?_
      exact wpAnyIn_done (by kernel_rfl) HQ.out _
    exact AllReadyIn.nil
  exact AllReadyIn.nil

set_option maxRecDepth 100000 in
set_option maxHeartbeats 16000000 in
theorem eachC_s50 (HO : W.ownsRow Z 45 6 (.slice b3 i d3) i xs) (BO : BoxA W O 33 #[.slice b3 i d3]) (BW : BoxA W Wk 63 #[.func (.func 77) #[] #[]]) (BX : BoxA W Bx 45 #[.int .u8 x.k, .bool x.b, .slice x.a1 x.n1 x.c1, .slice x.a2 x.n2 x.c2, .int .i32 x.c, .slice x.a3 x.n3 x.c3]) (lO : O < Z) (lZ : Z ≤ W.heap.size) (hi : (i + 1) * 96 ≤ 140737488355328) (hQ : ∀ (y : IV) (wa : World) (b4 : Option Addr) (d4 : Nat) (w2 : World), IsIt f (Fr W.heap.size wa.heap.size) wa y t → Below W.heap.size W wa → w2.ownsRow Z 45 6 (.slice b4 (i + 1) d4) (i + 1) (xs ++ [.int .u8 y.k, .bool y.b, .slice y.a1 y.n1 y.c1, .slice y.a2 y.n2 y.c2, .int .i32 y.c, .slice y.a3 y.n3 y.c3]) → (wa.alloc (.cells #[.int .u8 y.k, .bool y.b, .slice y.a1 y.n1 y.c1, .slice y.a2 y.n2 y.c2, .int .i32 y.c, .slice y.a3 y.n3 y.c3] 45)).grownBy w2 (Value.slice b3 i d3).ownBlock → ((Value.slice b4 (i + 1) d4).ownBlock = (Value.slice b3 i d3).ownBlock ∨ (Value.slice b4 (i + 1) d4).ownBlock = some (wa.alloc (.cells #[.int .u8 y.k, .bool y.b, .slice y.a1 y.n1 y.c1, .slice y.a2 y.n2 y.c2, .int .i32 y.c, .slice y.a3 y.n3 y.c3] 45)).heap.size) → Q .normal { tmps := (t0 :: t1 :: (.pointer (some ⟨Wk, 0, none⟩)) :: t3 :: t4 :: (.pointer (some ⟨O, 0, none⟩)) :: (.pointer (some ⟨Bx, 0, none⟩)) :: t7 :: t8 :: (.slice b3 i d3) :: (.func (.func 77) #[] #[]) :: (.agg #[.int .u8 x.k, .bool x.b, .slice x.a1 x.n1 x.c1, .slice x.a2 x.n2 x.c2, .int .i32 x.c, .slice x.a3 x.n3 x.c3]) :: (.agg #[.int .u8 y.k, .bool y.b, .slice y.a1 y.n1 y.c1, .slice y.a2 y.n2 y.c2, .int .i32 y.c, .slice y.a3 y.n3 y.c3]) :: (.slice (some ⟨wa.heap.size, 0, none⟩) 1 1) :: (.slice b4 (i + 1) d4) :: t15 :: r).toArray, defers := ds } (w2.setCell ⟨O, 0, none⟩ (.slice b4 (i + 1) d4))) (hI : IsIt f (Fr W.heap.size wa.heap.size) wa y t) (k : Below W.heap.size W wa) :
    wpAnyIn (Fence.wide.inRound l) N Tryz.prog .any eachC_ops Q 3 #[false, true, true, true, true, false, false] { tmps := (t0 :: t1 :: (.pointer (some ⟨Wk, 0, none⟩)) :: t3 :: t4 :: (.pointer (some ⟨O, 0, none⟩)) :: (.pointer (some ⟨Bx, 0, none⟩)) :: t7 :: t8 :: t9 :: (.func (.func 77) #[] #[]) :: (.agg #[.int .u8 x.k, .bool x.b, .slice x.a1 x.n1 x.c1, .slice x.a2 x.n2 x.c2, .int .i32 x.c, .slice x.a3 x.n3 x.c3]) :: (.agg #[.int .u8 y.k, .bool y.b, .slice y.a1 y.n1 y.c1, .slice y.a2 y.n2 y.c2, .int .i32 y.c, .slice y.a3 y.n3 y.c3]) :: (.slice (some ⟨wa.heap.size, 0, none⟩) 1 1) :: t14 :: t15 :: r).toArray, defers := ds } (wa.alloc (.cells #[.int .u8 y.k, .bool y.b, .slice y.a1 y.n1 y.c1, .slice y.a2 y.n2 y.c2, .int .i32 y.c, .slice y.a3 y.n3 y.c3] 45)) := by
  refine wpAnyIn_ready (rs := [0]) (by kernel_rfl) (by simp) ?_
  refine AllReadyIn.cons (o := { dst := some 9, op := Op.load 33 (Operand.tmp 5), type := 33, pos := "array.go:135", after := #[], guard := none }) rfl (fun K hK => ?_) ?_
  · have cO := (show BoxA _ O 33 #[.slice b3 i d3] from ((BO.below k BO.lt).below (below_alloc wa (.cells #[.int .u8 y.k, .bool y.b, .slice y.a1 y.n1 y.c1, .slice y.a2 y.n2 y.c2, .int .i32 y.c, .slice y.a3 y.n3 y.c3] 45)) (by have := BO.lt; have := k.size; omega))).cell 0 rfl
    go_simp
    refine hK _ _ ?_
    exact eachC_s51 HO BO BW BX lO lZ hi hQ hI k
  exact AllReadyIn.nil

set_option maxRecDepth 100000 in
set_option maxHeartbeats 16000000 in
theorem eachC_s41 (HO : W.ownsRow Z 45 6 (.slice b3 i d3) i xs) (BO : BoxA W O 33 #[.slice b3 i d3]) (BW : BoxA W Wk 63 #[.func (.func 77) #[] #[]]) (BX : BoxA W Bx 45 #[.int .u8 x.k, .bool x.b, .slice x.a1 x.n1 x.c1, .slice x.a2 x.n2 x.c2, .int .i32 x.c, .slice x.a3 x.n3 x.c3]) (lO : O < Z) (lZ : Z ≤ W.heap.size) (hi : (i + 1) * 96 ≤ 140737488355328) (hQ : ∀ (y : IV) (wa : World) (b4 : Option Addr) (d4 : Nat) (w2 : World), IsIt f (Fr W.heap.size wa.heap.size) wa y t → Below W.heap.size W wa → w2.ownsRow Z 45 6 (.slice b4 (i + 1) d4) (i + 1) (xs ++ [.int .u8 y.k, .bool y.b, .slice y.a1 y.n1 y.c1, .slice y.a2 y.n2 y.c2, .int .i32 y.c, .slice y.a3 y.n3 y.c3]) → (wa.alloc (.cells #[.int .u8 y.k, .bool y.b, .slice y.a1 y.n1 y.c1, .slice y.a2 y.n2 y.c2, .int .i32 y.c, .slice y.a3 y.n3 y.c3] 45)).grownBy w2 (Value.slice b3 i d3).ownBlock → ((Value.slice b4 (i + 1) d4).ownBlock = (Value.slice b3 i d3).ownBlock ∨ (Value.slice b4 (i + 1) d4).ownBlock = some (wa.alloc (.cells #[.int .u8 y.k, .bool y.b, .slice y.a1 y.n1 y.c1, .slice y.a2 y.n2 y.c2, .int .i32 y.c, .slice y.a3 y.n3 y.c3] 45)).heap.size) → Q .normal { tmps := (t0 :: t1 :: (.pointer (some ⟨Wk, 0, none⟩)) :: t3 :: t4 :: (.pointer (some ⟨O, 0, none⟩)) :: (.pointer (some ⟨Bx, 0, none⟩)) :: t7 :: t8 :: (.slice b3 i d3) :: (.func (.func 77) #[] #[]) :: (.agg #[.int .u8 x.k, .bool x.b, .slice x.a1 x.n1 x.c1, .slice x.a2 x.n2 x.c2, .int .i32 x.c, .slice x.a3 x.n3 x.c3]) :: (.agg #[.int .u8 y.k, .bool y.b, .slice y.a1 y.n1 y.c1, .slice y.a2 y.n2 y.c2, .int .i32 y.c, .slice y.a3 y.n3 y.c3]) :: (.slice (some ⟨wa.heap.size, 0, none⟩) 1 1) :: (.slice b4 (i + 1) d4) :: t15 :: r).toArray, defers := ds } (w2.setCell ⟨O, 0, none⟩ (.slice b4 (i + 1) d4))) (hI : IsIt f (Fr W.heap.size wa.heap.size) wa y t) (k : Below W.heap.size W wa) :
    wpAnyIn (Fence.wide.inRound l) N Tryz.prog .any eachC_ops Q 3 #[true, true, true, true, false, false, false] { tmps := (t0 :: t1 :: (.pointer (some ⟨Wk, 0, none⟩)) :: t3 :: t4 :: (.pointer (some ⟨O, 0, none⟩)) :: (.pointer (some ⟨Bx, 0, none⟩)) :: t7 :: t8 :: (.slice b3 i d3) :: (.func (.func 77) #[] #[]) :: (.agg #[.int .u8 x.k, .bool x.b, .slice x.a1 x.n1 x.c1, .slice x.a2 x.n2 x.c2, .int .i32 x.c, .slice x.a3 x.n3 x.c3]) :: (.agg #[.int .u8 y.k, .bool y.b, .slice y.a1 y.n1 y.c1, .slice y.a2 y.n2 y.c2, .int .i32 y.c, .slice y.a3 y.n3 y.c3]) :: t13 :: t14 :: t15 :: r).toArray, defers := ds } wa := by
  have sk := k.size
  refine wpAnyIn_ready (rs := [4]) (by kernel_rfl) (by simp) ?_
  refine AllReadyIn.cons (o := { dst := some 13, op := Op.buildSlice 33 1 #[(0, Operand.tmp 12)], type := 33, pos := "array.go:135", after := #[{ on := 3, ground := Ground.data }], guard := none }) rfl (fun K hK => ?_) ?_
  · go_simp
    refine hK _ _ ?_
    exact eachC_s51 HO BO BW BX lO lZ hi hQ hI k
  exact AllReadyIn.nil

set_option maxRecDepth 100000 in
set_option maxHeartbeats 16000000 in
theorem eachC_s40 (HO : W.ownsRow Z 45 6 (.slice b3 i d3) i xs) (BO : BoxA W O 33 #[.slice b3 i d3]) (BW : BoxA W Wk 63 #[.func (.func 77) #[] #[]]) (BX : BoxA W Bx 45 #[.int .u8 x.k, .bool x.b, .slice x.a1 x.n1 x.c1, .slice x.a2 x.n2 x.c2, .int .i32 x.c, .slice x.a3 x.n3 x.c3]) (lO : O < Z) (lZ : Z ≤ W.heap.size) (hi : (i + 1) * 96 ≤ 140737488355328) (hQ : ∀ (y : IV) (wa : World) (b4 : Option Addr) (d4 : Nat) (w2 : World), IsIt f (Fr W.heap.size wa.heap.size) wa y t → Below W.heap.size W wa → w2.ownsRow Z 45 6 (.slice b4 (i + 1) d4) (i + 1) (xs ++ [.int .u8 y.k, .bool y.b, .slice y.a1 y.n1 y.c1, .slice y.a2 y.n2 y.c2, .int .i32 y.c, .slice y.a3 y.n3 y.c3]) → (wa.alloc (.cells #[.int .u8 y.k, .bool y.b, .slice y.a1 y.n1 y.c1, .slice y.a2 y.n2 y.c2, .int .i32 y.c, .slice y.a3 y.n3 y.c3] 45)).grownBy w2 (Value.slice b3 i d3).ownBlock → ((Value.slice b4 (i + 1) d4).ownBlock = (Value.slice b3 i d3).ownBlock ∨ (Value.slice b4 (i + 1) d4).ownBlock = some (wa.alloc (.cells #[.int .u8 y.k, .bool y.b, .slice y.a1 y.n1 y.c1, .slice y.a2 y.n2 y.c2, .int .i32 y.c, .slice y.a3 y.n3 y.c3] 45)).heap.size) → Q .normal { tmps := (t0 :: t1 :: (.pointer (some ⟨Wk, 0, none⟩)) :: t3 :: t4 :: (.pointer (some ⟨O, 0, none⟩)) :: (.pointer (some ⟨Bx, 0, none⟩)) :: t7 :: t8 :: (.slice b3 i d3) :: (.func (.func 77) #[] #[]) :: (.agg #[.int .u8 x.k, .bool x.b, .slice x.a1 x.n1 x.c1, .slice x.a2 x.n2 x.c2, .int .i32 x.c, .slice x.a3 x.n3 x.c3]) :: (.agg #[.int .u8 y.k, .bool y.b, .slice y.a1 y.n1 y.c1, .slice y.a2 y.n2 y.c2, .int .i32 y.c, .slice y.a3 y.n3 y.c3]) :: (.slice (some ⟨wa.heap.size, 0, none⟩) 1 1) :: (.slice b4 (i + 1) d4) :: t15 :: r).toArray, defers := ds } (w2.setCell ⟨O, 0, none⟩ (.slice b4 (i + 1) d4))) (hI : IsIt f (Fr W.heap.size wa.heap.size) wa y t) (k : Below W.heap.size W wa) :
    wpAnyIn (Fence.wide.inRound l) N Tryz.prog .any eachC_ops Q 4 #[false, true, true, true, false, false, false] { tmps := (t0 :: t1 :: (.pointer (some ⟨Wk, 0, none⟩)) :: t3 :: t4 :: (.pointer (some ⟨O, 0, none⟩)) :: (.pointer (some ⟨Bx, 0, none⟩)) :: t7 :: t8 :: t9 :: (.func (.func 77) #[] #[]) :: (.agg #[.int .u8 x.k, .bool x.b, .slice x.a1 x.n1 x.c1, .slice x.a2 x.n2 x.c2, .int .i32 x.c, .slice x.a3 x.n3 x.c3]) :: (.agg #[.int .u8 y.k, .bool y.b, .slice y.a1 y.n1 y.c1, .slice y.a2 y.n2 y.c2, .int .i32 y.c, .slice y.a3 y.n3 y.c3]) :: t13 :: t14 :: t15 :: r).toArray, defers := ds } wa := by
  have sk := k.size
  refine wpAnyIn_ready (rs := [0, 4]) (by kernel_rfl) (by simp) ?_
  refine AllReadyIn.cons (o := { dst := some 9, op := Op.load 33 (Operand.tmp 5), type := 33, pos := "array.go:135", after := #[], guard := none }) rfl (fun K hK => ?_) ?_
  · have cO := (show BoxA _ O 33 #[.slice b3 i d3] from (BO.below k BO.lt)).cell 0 rfl
    go_simp
    refine hK _ _ ?_
    exact eachC_s41 HO BO BW BX lO lZ hi hQ hI k
  refine AllReadyIn.cons (o := { dst := some 13, op := Op.buildSlice 33 1 #[(0, Operand.tmp 12)], type := 33, pos := "array.go:135", after := #[{ on := 3, ground := Ground.data }], guard := none }) rfl (fun K hK => ?_) ?_
  · go_simp
    refine hK _ _ ?_
    exact eachC_s50 HO BO BW BX lO lZ hi hQ hI k
  exact AllReadyIn.nil

set_option maxRecDepth 100000 in
set_option maxHeartbeats 16000000 in
theorem eachC_s31 (HO : W.ownsRow Z 45 6 (.slice b3 i d3) i xs) (BO : BoxA W O 33 #[.slice b3 i d3]) (BW : BoxA W Wk 63 #[.func (.func 77) #[] #[]]) (BX : BoxA W Bx 45 #[.int .u8 x.k, .bool x.b, .slice x.a1 x.n1 x.c1, .slice x.a2 x.n2 x.c2, .int .i32 x.c, .slice x.a3 x.n3 x.c3]) (lO : O < Z) (lZ : Z ≤ W.heap.size) (hi : (i + 1) * 96 ≤ 140737488355328) (hQ : ∀ (y : IV) (wa : World) (b4 : Option Addr) (d4 : Nat) (w2 : World), IsIt f (Fr W.heap.size wa.heap.size) wa y t → Below W.heap.size W wa → w2.ownsRow Z 45 6 (.slice b4 (i + 1) d4) (i + 1) (xs ++ [.int .u8 y.k, .bool y.b, .slice y.a1 y.n1 y.c1, .slice y.a2 y.n2 y.c2, .int .i32 y.c, .slice y.a3 y.n3 y.c3]) → (wa.alloc (.cells #[.int .u8 y.k, .bool y.b, .slice y.a1 y.n1 y.c1, .slice y.a2 y.n2 y.c2, .int .i32 y.c, .slice y.a3 y.n3 y.c3] 45)).grownBy w2 (Value.slice b3 i d3).ownBlock → ((Value.slice b4 (i + 1) d4).ownBlock = (Value.slice b3 i d3).ownBlock ∨ (Value.slice b4 (i + 1) d4).ownBlock = some (wa.alloc (.cells #[.int .u8 y.k, .bool y.b, .slice y.a1 y.n1 y.c1, .slice y.a2 y.n2 y.c2, .int .i32 y.c, .slice y.a3 y.n3 y.c3] 45)).heap.size) → Q .normal { tmps := (t0 :: t1 :: (.pointer (some ⟨Wk, 0, none⟩)) :: t3 :: t4 :: (.pointer (some ⟨O, 0, none⟩)) :: (.pointer (some ⟨Bx, 0, none⟩)) :: t7 :: t8 :: (.slice b3 i d3) :: (.func (.func 77) #[] #[]) :: (.agg #[.int .u8 x.k, .bool x.b, .slice x.a1 x.n1 x.c1, .slice x.a2 x.n2 x.c2, .int .i32 x.c, .slice x.a3 x.n3 x.c3]) :: (.agg #[.int .u8 y.k, .bool y.b, .slice y.a1 y.n1 y.c1, .slice y.a2 y.n2 y.c2, .int .i32 y.c, .slice y.a3 y.n3 y.c3]) :: (.slice (some ⟨wa.heap.size, 0, none⟩) 1 1) :: (.slice b4 (i + 1) d4) :: t15 :: r).toArray, defers := ds } (w2.setCell ⟨O, 0, none⟩ (.slice b4 (i + 1) d4))) (hc : ∀ N, CallsIn (Fence.wide.inRound l) N Tryz.prog 77 #[.agg #[.int .u8 x.k, .bool x.b, .slice x.a1 x.n1 x.c1, .slice x.a2 x.n2 x.c2, .int .i32 x.c, .slice x.a3 x.n3 x.c3]] W fun e w2 => ∃ y : IV, e = .returned (.agg #[.int .u8 y.k, .bool y.b, .slice y.a1 y.n1 y.c1, .slice y.a2 y.n2 y.c2, .int .i32 y.c, .slice y.a3 y.n3 y.c3]) ∧ IsIt f (Fr W.heap.size w2.heap.size) w2 y t ∧ Below W.heap.size W w2) :
    wpAnyIn (Fence.wide.inRound l) N Tryz.prog .any eachC_ops Q 4 #[true, true, true, false, false, false, false] { tmps := (t0 :: t1 :: (.pointer (some ⟨Wk, 0, none⟩)) :: t3 :: t4 :: (.pointer (some ⟨O, 0, none⟩)) :: (.pointer (some ⟨Bx, 0, none⟩)) :: t7 :: t8 :: (.slice b3 i d3) :: (.func (.func 77) #[] #[]) :: (.agg #[.int .u8 x.k, .bool x.b, .slice x.a1 x.n1 x.c1, .slice x.a2 x.n2 x.c2, .int .i32 x.c, .slice x.a3 x.n3 x.c3]) :: t12 :: t13 :: t14 :: t15 :: r).toArray, defers := ds } W := by
  refine wpAnyIn_ready (rs := [3]) (by kernel_rfl) (by simp) ?_
  refine AllReadyIn.cons (o := { dst := some 12, op := Op.call { callee := Callee.value (Operand.tmp 10), args := #[Operand.tmp 11], argTypes := #[45] }, type := 45, pos := "array.go:135", after := #[{ on := 1, ground := Ground.data }, { on := 2, ground := Ground.data }], guard := none }) rfl (fun K hK => ?_) ?_
  · go_simp
    refine ⟨trivial, (fun h => by cases h), (hc _).mono ?_⟩
    rintro e wa ⟨y, rfl, hI, k⟩
    go_simp
    refine hK _ _ ?_
    exact eachC_s41 HO BO BW BX lO lZ hi hQ hI k
  exact AllReadyIn.nil

set_option maxRecDepth 100000 in
set_option maxHeartbeats 16000000 in
theorem eachC_s30 (HO : W.ownsRow Z 45 6 (.slice b3 i d3) i xs) (BO : BoxA W O 33 #[.slice b3 i d3]) (BW : BoxA W Wk 63 #[.func (.func 77) #[] #[]]) (BX : BoxA W Bx 45 #[.int .u8 x.k, .bool x.b, .slice x.a1 x.n1 x.c1, .slice x.a2 x.n2 x.c2, .int .i32 x.c, .slice x.a3 x.n3 x.c3]) (lO : O < Z) (lZ : Z ≤ W.heap.size) (hi : (i + 1) * 96 ≤ 140737488355328) (hQ : ∀ (y : IV) (wa : World) (b4 : Option Addr) (d4 : Nat) (w2 : World), IsIt f (Fr W.heap.size wa.heap.size) wa y t → Below W.heap.size W wa → w2.ownsRow Z 45 6 (.slice b4 (i + 1) d4) (i + 1) (xs ++ [.int .u8 y.k, .bool y.b, .slice y.a1 y.n1 y.c1, .slice y.a2 y.n2 y.c2, .int .i32 y.c, .slice y.a3 y.n3 y.c3]) → (wa.alloc (.cells #[.int .u8 y.k, .bool y.b, .slice y.a1 y.n1 y.c1, .slice y.a2 y.n2 y.c2, .int .i32 y.c, .slice y.a3 y.n3 y.c3] 45)).grownBy w2 (Value.slice b3 i d3).ownBlock → ((Value.slice b4 (i + 1) d4).ownBlock = (Value.slice b3 i d3).ownBlock ∨ (Value.slice b4 (i + 1) d4).ownBlock = some (wa.alloc (.cells #[.int .u8 y.k, .bool y.b, .slice y.a1 y.n1 y.c1, .slice y.a2 y.n2 y.c2, .int .i32 y.c, .slice y.a3 y.n3 y.c3] 45)).heap.size) → Q .normal { tmps := (t0 :: t1 :: (.pointer (some ⟨Wk, 0, none⟩)) :: t3 :: t4 :: (.pointer (some ⟨O, 0, none⟩)) :: (.pointer (some ⟨Bx, 0, none⟩)) :: t7 :: t8 :: (.slice b3 i d3) :: (.func (.func 77) #[] #[]) :: (.agg #[.int .u8 x.k, .bool x.b, .slice x.a1 x.n1 x.c1, .slice x.a2 x.n2 x.c2, .int .i32 x.c, .slice x.a3 x.n3 x.c3]) :: (.agg #[.int .u8 y.k, .bool y.b, .slice y.a1 y.n1 y.c1, .slice y.a2 y.n2 y.c2, .int .i32 y.c, .slice y.a3 y.n3 y.c3]) :: (.slice (some ⟨wa.heap.size, 0, none⟩) 1 1) :: (.slice b4 (i + 1) d4) :: t15 :: r).toArray, defers := ds } (w2.setCell ⟨O, 0, none⟩ (.slice b4 (i + 1) d4))) (hc : ∀ N, CallsIn (Fence.wide.inRound l) N Tryz.prog 77 #[.agg #[.int .u8 x.k, .bool x.b, .slice x.a1 x.n1 x.c1, .slice x.a2 x.n2 x.c2, .int .i32 x.c, .slice x.a3 x.n3 x.c3]] W fun e w2 => ∃ y : IV, e = .returned (.agg #[.int .u8 y.k, .bool y.b, .slice y.a1 y.n1 y.c1, .slice y.a2 y.n2 y.c2, .int .i32 y.c, .slice y.a3 y.n3 y.c3]) ∧ IsIt f (Fr W.heap.size w2.heap.size) w2 y t ∧ Below W.heap.size W w2) :
    wpAnyIn (Fence.wide.inRound l) N Tryz.prog .any eachC_ops Q 5 #[false, true, true, false, false, false, false] { tmps := (t0 :: t1 :: (.pointer (some ⟨Wk, 0, none⟩)) :: t3 :: t4 :: (.pointer (some ⟨O, 0, none⟩)) :: (.pointer (some ⟨Bx, 0, none⟩)) :: t7 :: t8 :: t9 :: (.func (.func 77) #[] #[]) :: (.agg #[.int .u8 x.k, .bool x.b, .slice x.a1 x.n1 x.c1, .slice x.a2 x.n2 x.c2, .int .i32 x.c, .slice x.a3 x.n3 x.c3]) :: t12 :: t13 :: t14 :: t15 :: r).toArray, defers := ds } W := by
  refine wpAnyIn_ready (rs := [0, 3]) (by kernel_rfl) (by simp) ?_
  refine AllReadyIn.cons (o := { dst := some 9, op := Op.load 33 (Operand.tmp 5), type := 33, pos := "array.go:135", after := #[], guard := none }) rfl (fun K hK => ?_) ?_
  · have cO := (show BoxA _ O 33 #[.slice b3 i d3] from BO).cell 0 rfl
    go_simp
    refine hK _ _ ?_
    exact eachC_s31 HO BO BW BX lO lZ hi hQ hc
  refine AllReadyIn.cons (o := { dst := some 12, op := Op.call { callee := Callee.value (Operand.tmp 10), args := #[Operand.tmp 11], argTypes := #[45] }, type := 45, pos := "array.go:135", after := #[{ on := 1, ground := Ground.data }, { on := 2, ground := Ground.data }], guard := none }) rfl (fun K hK => ?_) ?_
  · go_simp
    refine ⟨trivial, (fun h => by cases h), (hc _).mono ?_⟩
    rintro e wa ⟨y, rfl, hI, k⟩
    go_simp
    refine hK _ _ ?_
    exact eachC_s40 HO BO BW BX lO lZ hi hQ hI k
  exact AllReadyIn.nil

set_option maxRecDepth 100000 in
set_option maxHeartbeats 16000000 in
theorem eachC_s21 (HO : W.ownsRow Z 45 6 (.slice b3 i d3) i xs) (BO : BoxA W O 33 #[.slice b3 i d3]) (BW : BoxA W Wk 63 #[.func (.func 77) #[] #[]]) (BX : BoxA W Bx 45 #[.int .u8 x.k, .bool x.b, .slice x.a1 x.n1 x.c1, .slice x.a2 x.n2 x.c2, .int .i32 x.c, .slice x.a3 x.n3 x.c3]) (lO : O < Z) (lZ : Z ≤ W.heap.size) (hi : (i + 1) * 96 ≤ 140737488355328) (hQ : ∀ (y : IV) (wa : World) (b4 : Option Addr) (d4 : Nat) (w2 : World), IsIt f (Fr W.heap.size wa.heap.size) wa y t → Below W.heap.size W wa → w2.ownsRow Z 45 6 (.slice b4 (i + 1) d4) (i + 1) (xs ++ [.int .u8 y.k, .bool y.b, .slice y.a1 y.n1 y.c1, .slice y.a2 y.n2 y.c2, .int .i32 y.c, .slice y.a3 y.n3 y.c3]) → (wa.alloc (.cells #[.int .u8 y.k, .bool y.b, .slice y.a1 y.n1 y.c1, .slice y.a2 y.n2 y.c2, .int .i32 y.c, .slice y.a3 y.n3 y.c3] 45)).grownBy w2 (Value.slice b3 i d3).ownBlock → ((Value.slice b4 (i + 1) d4).ownBlock = (Value.slice b3 i d3).ownBlock ∨ (Value.slice b4 (i + 1) d4).ownBlock = some (wa.alloc (.cells #[.int .u8 y.k, .bool y.b, .slice y.a1 y.n1 y.c1, .slice y.a2 y.n2 y.c2, .int .i32 y.c, .slice y.a3 y.n3 y.c3] 45)).heap.size) → Q .normal { tmps := (t0 :: t1 :: (.pointer (some ⟨Wk, 0, none⟩)) :: t3 :: t4 :: (.pointer (some ⟨O, 0, none⟩)) :: (.pointer (some ⟨Bx, 0, none⟩)) :: t7 :: t8 :: (.slice b3 i d3) :: (.func (.func 77) #[] #[]) :: (.agg #[.int .u8 x.k, .bool x.b, .slice x.a1 x.n1 x.c1, .slice x.a2 x.n2 x.c2, .int .i32 x.c, .slice x.a3 x.n3 x.c3]) :: (.agg #[.int .u8 y.k, .bool y.b, .slice y.a1 y.n1 y.c1, .slice y.a2 y.n2 y.c2, .int .i32 y.c, .slice y.a3 y.n3 y.c3]) :: (.slice (some ⟨wa.heap.size, 0, none⟩) 1 1) :: (.slice b4 (i + 1) d4) :: t15 :: r).toArray, defers := ds } (w2.setCell ⟨O, 0, none⟩ (.slice b4 (i + 1) d4))) (hc : ∀ N, CallsIn (Fence.wide.inRound l) N Tryz.prog 77 #[.agg #[.int .u8 x.k, .bool x.b, .slice x.a1 x.n1 x.c1, .slice x.a2 x.n2 x.c2, .int .i32 x.c, .slice x.a3 x.n3 x.c3]] W fun e w2 => ∃ y : IV, e = .returned (.agg #[.int .u8 y.k, .bool y.b, .slice y.a1 y.n1 y.c1, .slice y.a2 y.n2 y.c2, .int .i32 y.c, .slice y.a3 y.n3 y.c3]) ∧ IsIt f (Fr W.heap.size w2.heap.size) w2 y t ∧ Below W.heap.size W w2) :
    wpAnyIn (Fence.wide.inRound l) N Tryz.prog .any eachC_ops Q 5 #[true, false, true, false, false, false, false] { tmps := (t0 :: t1 :: (.pointer (some ⟨Wk, 0, none⟩)) :: t3 :: t4 :: (.pointer (some ⟨O, 0, none⟩)) :: (.pointer (some ⟨Bx, 0, none⟩)) :: t7 :: t8 :: (.slice b3 i d3) :: t10 :: (.agg #[.int .u8 x.k, .bool x.b, .slice x.a1 x.n1 x.c1, .slice x.a2 x.n2 x.c2, .int .i32 x.c, .slice x.a3 x.n3 x.c3]) :: t12 :: t13 :: t14 :: t15 :: r).toArray, defers := ds } W := by
  refine wpAnyIn_ready (rs := [1]) (by kernel_rfl) (by simp) ?_
  refine AllReadyIn.cons (o := { dst := some 10, op := Op.load 63 (Operand.tmp 2), type := 63, pos := "array.go:135", after := #[], guard := none }) rfl (fun K hK => ?_) ?_
  · have cW := BW.cell 0 rfl
    go_simp
    refine hK _ _ ?_
    exact eachC_s31 HO BO BW BX lO lZ hi hQ hc
  exact AllReadyIn.nil

set_option maxRecDepth 100000 in
set_option maxHeartbeats 16000000 in
theorem eachC_s20 (HO : W.ownsRow Z 45 6 (.slice b3 i d3) i xs) (BO : BoxA W O 33 #[.slice b3 i d3]) (BW : BoxA W Wk 63 #[.func (.func 77) #[] #[]]) (BX : BoxA W Bx 45 #[.int .u8 x.k, .bool x.b, .slice x.a1 x.n1 x.c1, .slice x.a2 x.n2 x.c2, .int .i32 x.c, .slice x.a3 x.n3 x.c3]) (lO : O < Z) (lZ : Z ≤ W.heap.size) (hi : (i + 1) * 96 ≤ 140737488355328) (hQ : ∀ (y : IV) (wa : World) (b4 : Option Addr) (d4 : Nat) (w2 : World), IsIt f (Fr W.heap.size wa.heap.size) wa y t → Below W.heap.size W wa → w2.ownsRow Z 45 6 (.slice b4 (i + 1) d4) (i + 1) (xs ++ [.int .u8 y.k, .bool y.b, .slice y.a1 y.n1 y.c1, .slice y.a2 y.n2 y.c2, .int .i32 y.c, .slice y.a3 y.n3 y.c3]) → (wa.alloc (.cells #[.int .u8 y.k, .bool y.b, .slice y.a1 y.n1 y.c1, .slice y.a2 y.n2 y.c2, .int .i32 y.c, .slice y.a3 y.n3 y.c3] 45)).grownBy w2 (Value.slice b3 i d3).ownBlock → ((Value.slice b4 (i + 1) d4).ownBlock = (Value.slice b3 i d3).ownBlock ∨ (Value.slice b4 (i + 1) d4).ownBlock = some (wa.alloc (.cells #[.int .u8 y.k, .bool y.b, .slice y.a1 y.n1 y.c1, .slice y.a2 y.n2 y.c2, .int .i32 y.c, .slice y.a3 y.n3 y.c3] 45)).heap.size) → Q .normal { tmps := (t0 :: t1 :: (.pointer (some ⟨Wk, 0, none⟩)) :: t3 :: t4 :: (.pointer (some ⟨O, 0, none⟩)) :: (.pointer (some ⟨Bx, 0, none⟩)) :: t7 :: t8 :: (.slice b3 i d3) :: (.func (.func 77) #[] #[]) :: (.agg #[.int .u8 x.k, .bool x.b, .slice x.a1 x.n1 x.c1, .slice x.a2 x.n2 x.c2, .int .i32 x.c, .slice x.a3 x.n3 x.c3]) :: (.agg #[.int .u8 y.k, .bool y.b, .slice y.a1 y.n1 y.c1, .slice y.a2 y.n2 y.c2, .int .i32 y.c, .slice y.a3 y.n3 y.c3]) :: (.slice (some ⟨wa.heap.size, 0, none⟩) 1 1) :: (.slice b4 (i + 1) d4) :: t15 :: r).toArray, defers := ds } (w2.setCell ⟨O, 0, none⟩ (.slice b4 (i + 1) d4))) (hc : ∀ N, CallsIn (Fence.wide.inRound l) N Tryz.prog 77 #[.agg #[.int .u8 x.k, .bool x.b, .slice x.a1 x.n1 x.c1, .slice x.a2 x.n2 x.c2, .int .i32 x.c, .slice x.a3 x.n3 x.c3]] W fun e w2 => ∃ y : IV, e = .returned (.agg #[.int .u8 y.k, .bool y.b, .slice y.a1 y.n1 y.c1, .slice y.a2 y.n2 y.c2, .int .i32 y.c, .slice y.a3 y.n3 y.c3]) ∧ IsIt f (Fr W.heap.size w2.heap.size) w2 y t ∧ Below W.heap.size W w2) :
    wpAnyIn (Fence.wide.inRound l) N Tryz.prog .any eachC_ops Q 6 #[false, false, true, false, false, false, false] { tmps := (t0 :: t1 :: (.pointer (some ⟨Wk, 0, none⟩)) :: t3 :: t4 :: (.pointer (some ⟨O, 0, none⟩)) :: (.pointer (some ⟨Bx, 0, none⟩)) :: t7 :: t8 :: t9 :: t10 :: (.agg #[.int .u8 x.k, .bool x.b, .slice x.a1 x.n1 x.c1, .slice x.a2 x.n2 x.c2, .int .i32 x.c, .slice x.a3 x.n3 x.c3]) :: t12 :: t13 :: t14 :: t15 :: r).toArray, defers := ds } W := by
  refine wpAnyIn_ready (rs := [0, 1]) (by kernel_rfl) (by simp) ?_
  refine AllReadyIn.cons (o := { dst := some 9, op := Op.load 33 (Operand.tmp 5), type := 33, pos := "array.go:135", after := #[], guard := none }) rfl (fun K hK => ?_) ?_
  · have cO := (show BoxA _ O 33 #[.slice b3 i d3] from BO).cell 0 rfl
    go_simp
    refine hK _ _ ?_
    exact eachC_s21 HO BO BW BX lO lZ hi hQ hc
  refine AllReadyIn.cons (o := { dst := some 10, op := Op.load 63 (Operand.tmp 2), type := 63, pos := "array.go:135", after := #[], guard := none }) rfl (fun K hK => ?_) ?_
  · have cW := BW.cell 0 rfl
    go_simp
    refine hK _ _ ?_
    exact eachC_s30 HO BO BW BX lO lZ hi hQ hc
  exact AllReadyIn.nil

set_option maxRecDepth 100000 in
set_option maxHeartbeats 16000000 in
theorem eachC_s11 (HO : W.ownsRow Z 45 6 (.slice b3 i d3) i xs) (BO : BoxA W O 33 #[.slice b3 i d3]) (BW : BoxA W Wk 63 #[.func (.func 77) #[] #[]]) (BX : BoxA W Bx 45 #[.int .u8 x.k, .bool x.b, .slice x.a1 x.n1 x.c1, .slice x.a2 x.n2 x.c2, .int .i32 x.c, .slice x.a3 x.n3 x.c3]) (lO : O < Z) (lZ : Z ≤ W.heap.size) (hi : (i + 1) * 96 ≤ 140737488355328) (hQ : ∀ (y : IV) (wa : World) (b4 : Option Addr) (d4 : Nat) (w2 : World), IsIt f (Fr W.heap.size wa.heap.size) wa y t → Below W.heap.size W wa → w2.ownsRow Z 45 6 (.slice b4 (i + 1) d4) (i + 1) (xs ++ [.int .u8 y.k, .bool y.b, .slice y.a1 y.n1 y.c1, .slice y.a2 y.n2 y.c2, .int .i32 y.c, .slice y.a3 y.n3 y.c3]) → (wa.alloc (.cells #[.int .u8 y.k, .bool y.b, .slice y.a1 y.n1 y.c1, .slice y.a2 y.n2 y.c2, .int .i32 y.c, .slice y.a3 y.n3 y.c3] 45)).grownBy w2 (Value.slice b3 i d3).ownBlock → ((Value.slice b4 (i + 1) d4).ownBlock = (Value.slice b3 i d3).ownBlock ∨ (Value.slice b4 (i + 1) d4).ownBlock = some (wa.alloc (.cells #[.int .u8 y.k, .bool y.b, .slice y.a1 y.n1 y.c1, .slice y.a2 y.n2 y.c2, .int .i32 y.c, .slice y.a3 y.n3 y.c3] 45)).heap.size) → Q .normal { tmps := (t0 :: t1 :: (.pointer (some ⟨Wk, 0, none⟩)) :: t3 :: t4 :: (.pointer (some ⟨O, 0, none⟩)) :: (.pointer (some ⟨Bx, 0, none⟩)) :: t7 :: t8 :: (.slice b3 i d3) :: (.func (.func 77) #[] #[]) :: (.agg #[.int .u8 x.k, .bool x.b, .slice x.a1 x.n1 x.c1, .slice x.a2 x.n2 x.c2, .int .i32 x.c, .slice x.a3 x.n3 x.c3]) :: (.agg #[.int .u8 y.k, .bool y.b, .slice y.a1 y.n1 y.c1, .slice y.a2 y.n2 y.c2, .int .i32 y.c, .slice y.a3 y.n3 y.c3]) :: (.slice (some ⟨wa.heap.size, 0, none⟩) 1 1) :: (.slice b4 (i + 1) d4) :: t15 :: r).toArray, defers := ds } (w2.setCell ⟨O, 0, none⟩ (.slice b4 (i + 1) d4))) (hc : ∀ N, CallsIn (Fence.wide.inRound l) N Tryz.prog 77 #[.agg #[.int .u8 x.k, .bool x.b, .slice x.a1 x.n1 x.c1, .slice x.a2 x.n2 x.c2, .int .i32 x.c, .slice x.a3 x.n3 x.c3]] W fun e w2 => ∃ y : IV, e = .returned (.agg #[.int .u8 y.k, .bool y.b, .slice y.a1 y.n1 y.c1, .slice y.a2 y.n2 y.c2, .int .i32 y.c, .slice y.a3 y.n3 y.c3]) ∧ IsIt f (Fr W.heap.size w2.heap.size) w2 y t ∧ Below W.heap.size W w2) :
    wpAnyIn (Fence.wide.inRound l) N Tryz.prog .any eachC_ops Q 5 #[true, true, false, false, false, false, false] { tmps := (t0 :: t1 :: (.pointer (some ⟨Wk, 0, none⟩)) :: t3 :: t4 :: (.pointer (some ⟨O, 0, none⟩)) :: (.pointer (some ⟨Bx, 0, none⟩)) :: t7 :: t8 :: (.slice b3 i d3) :: (.func (.func 77) #[] #[]) :: t11 :: t12 :: t13 :: t14 :: t15 :: r).toArray, defers := ds } W := by
  refine wpAnyIn_ready (rs := [2]) (by kernel_rfl) (by simp) ?_
  refine AllReadyIn.cons (o := { dst := some 11, op := Op.load 45 (Operand.tmp 6), type := 45, pos := "array.go:135", after := #[], guard := none }) rfl (fun K hK => ?_) ?_
  · have m0 := BX.cell 0 rfl
    have m1 := BX.cell 1 rfl
    have m2 := BX.cell 2 rfl
    have m3 := BX.cell 3 rfl
    have m4 := BX.cell 4 rfl
    have m5 := BX.cell 5 rfl
    go_simp
    refine hK _ _ ?_
    exact eachC_s31 HO BO BW BX lO lZ hi hQ hc
  exact AllReadyIn.nil

set_option maxRecDepth 100000 in
set_option maxHeartbeats 16000000 in
theorem eachC_s10 (HO : W.ownsRow Z 45 6 (.slice b3 i d3) i xs) (BO : BoxA W O 33 #[.slice b3 i d3]) (BW : BoxA W Wk 63 #[.func (.func 77) #[] #[]]) (BX : BoxA W Bx 45 #[.int .u8 x.k, .bool x.b, .slice x.a1 x.n1 x.c1, .slice x.a2 x.n2 x.c2, .int .i32 x.c, .slice x.a3 x.n3 x.c3]) (lO : O < Z) (lZ : Z ≤ W.heap.size) (hi : (i + 1) * 96 ≤ 140737488355328) (hQ : ∀ (y : IV) (wa : World) (b4 : Option Addr) (d4 : Nat) (w2 : World), IsIt f (Fr W.heap.size wa.heap.size) wa y t → Below W.heap.size W wa → w2.ownsRow Z 45 6 (.slice b4 (i + 1) d4) (i + 1) (xs ++ [.int .u8 y.k, .bool y.b, .slice y.a1 y.n1 y.c1, .slice y.a2 y.n2 y.c2, .int .i32 y.c, .slice y.a3 y.n3 y.c3]) → (wa.alloc (.cells #[.int .u8 y.k, .bool y.b, .slice y.a1 y.n1 y.c1, .slice y.a2 y.n2 y.c2, .int .i32 y.c, .slice y.a3 y.n3 y.c3] 45)).grownBy w2 (Value.slice b3 i d3).ownBlock → ((Value.slice b4 (i + 1) d4).ownBlock = (Value.slice b3 i d3).ownBlock ∨ (Value.slice b4 (i + 1) d4).ownBlock = some (wa.alloc (.cells #[.int .u8 y.k, .bool y.b, .slice y.a1 y.n1 y.c1, .slice y.a2 y.n2 y.c2, .int .i32 y.c, .slice y.a3 y.n3 y.c3] 45)).heap.size) → Q .normal { tmps := (t0 :: t1 :: (.pointer (some ⟨Wk, 0, none⟩)) :: t3 :: t4 :: (.pointer (some ⟨O, 0, none⟩)) :: (.pointer (some ⟨Bx, 0, none⟩)) :: t7 :: t8 :: (.slice b3 i d3) :: (.func (.func 77) #[] #[]) :: (.agg #[.int .u8 x.k, .bool x.b, .slice x.a1 x.n1 x.c1, .slice x.a2 x.n2 x.c2, .int .i32 x.c, .slice x.a3 x.n3 x.c3]) :: (.agg #[.int .u8 y.k, .bool y.b, .slice y.a1 y.n1 y.c1, .slice y.a2 y.n2 y.c2, .int .i32 y.c, .slice y.a3 y.n3 y.c3]) :: (.slice (some ⟨wa.heap.size, 0, none⟩) 1 1) :: (.slice b4 (i + 1) d4) :: t15 :: r).toArray, defers := ds } (w2.setCell ⟨O, 0, none⟩ (.slice b4 (i + 1) d4))) (hc : ∀ N, CallsIn (Fence.wide.inRound l) N Tryz.prog 77 #[.agg #[.int .u8 x.k, .bool x.b, .slice x.a1 x.n1 x.c1, .slice x.a2 x.n2 x.c2, .int .i32 x.c, .slice x.a3 x.n3 x.c3]] W fun e w2 => ∃ y : IV, e = .returned (.agg #[.int .u8 y.k, .bool y.b, .slice y.a1 y.n1 y.c1, .slice y.a2 y.n2 y.c2, .int .i32 y.c, .slice y.a3 y.n3 y.c3]) ∧ IsIt f (Fr W.heap.size w2.heap.size) w2 y t ∧ Below W.heap.size W w2) :
    wpAnyIn (Fence.wide.inRound l) N Tryz.prog .any eachC_ops Q 6 #[false, true, false, false, false, false, false] { tmps := (t0 :: t1 :: (.pointer (some ⟨Wk, 0, none⟩)) :: t3 :: t4 :: (.pointer (some ⟨O, 0, none⟩)) :: (.pointer (some ⟨Bx, 0, none⟩)) :: t7 :: t8 :: t9 :: (.func (.func 77) #[] #[]) :: t11 :: t12 :: t13 :: t14 :: t15 :: r).toArray, defers := ds } W := by
  refine wpAnyIn_ready (rs := [0, 2]) (by kernel_rfl) (by simp) ?_
  refine AllReadyIn.cons (o := { dst := some 9, op := Op.load 33 (Operand.tmp 5), type := 33, pos := "array.go:135", after := #[], guard := none }) rfl (fun K hK => ?_) ?_
  · have cO := (show BoxA _ O 33 #[.slice b3 i d3] from BO).cell 0 rfl
    go_simp
    refine hK _ _ ?_
    exact eachC_s11 HO BO BW BX lO lZ hi hQ hc
  refine AllReadyIn.cons (o := { dst := some 11, op := Op.load 45 (Operand.tmp 6), type := 45, pos := "array.go:135", after := #[], guard := none }) rfl (fun K hK => ?_) ?_
  · have m0 := BX.cell 0 rfl
    have m1 := BX.cell 1 rfl
    have m2 := BX.cell 2 rfl
    have m3 := BX.cell 3 rfl
    have m4 := BX.cell 4 rfl
    have m5 := BX.cell 5 rfl
    go_simp
    refine hK _ _ ?_
    exact eachC_s30 HO BO BW BX lO lZ hi hQ hc
  exact AllReadyIn.nil

set_option maxRecDepth 100000 in
set_option maxHeartbeats 16000000 in
theorem eachC_s01 (HO : W.ownsRow Z 45 6 (.slice b3 i d3) i xs) (BO : BoxA W O 33 #[.slice b3 i d3]) (BW : BoxA W Wk 63 #[.func (.func 77) #[] #[]]) (BX : BoxA W Bx 45 #[.int .u8 x.k, .bool x.b, .slice x.a1 x.n1 x.c1, .slice x.a2 x.n2 x.c2, .int .i32 x.c, .slice x.a3 x.n3 x.c3]) (lO : O < Z) (lZ : Z ≤ W.heap.size) (hi : (i + 1) * 96 ≤ 140737488355328) (hQ : ∀ (y : IV) (wa : World) (b4 : Option Addr) (d4 : Nat) (w2 : World), IsIt f (Fr W.heap.size wa.heap.size) wa y t → Below W.heap.size W wa → w2.ownsRow Z 45 6 (.slice b4 (i + 1) d4) (i + 1) (xs ++ [.int .u8 y.k, .bool y.b, .slice y.a1 y.n1 y.c1, .slice y.a2 y.n2 y.c2, .int .i32 y.c, .slice y.a3 y.n3 y.c3]) → (wa.alloc (.cells #[.int .u8 y.k, .bool y.b, .slice y.a1 y.n1 y.c1, .slice y.a2 y.n2 y.c2, .int .i32 y.c, .slice y.a3 y.n3 y.c3] 45)).grownBy w2 (Value.slice b3 i d3).ownBlock → ((Value.slice b4 (i + 1) d4).ownBlock = (Value.slice b3 i d3).ownBlock ∨ (Value.slice b4 (i + 1) d4).ownBlock = some (wa.alloc (.cells #[.int .u8 y.k, .bool y.b, .slice y.a1 y.n1 y.c1, .slice y.a2 y.n2 y.c2, .int .i32 y.c, .slice y.a3 y.n3 y.c3] 45)).heap.size) → Q .normal { tmps := (t0 :: t1 :: (.pointer (some ⟨Wk, 0, none⟩)) :: t3 :: t4 :: (.pointer (some ⟨O, 0, none⟩)) :: (.pointer (some ⟨Bx, 0, none⟩)) :: t7 :: t8 :: (.slice b3 i d3) :: (.func (.func 77) #[] #[]) :: (.agg #[.int .u8 x.k, .bool x.b, .slice x.a1 x.n1 x.c1, .slice x.a2 x.n2 x.c2, .int .i32 x.c, .slice x.a3 x.n3 x.c3]) :: (.agg #[.int .u8 y.k, .bool y.b, .slice y.a1 y.n1 y.c1, .slice y.a2 y.n2 y.c2, .int .i32 y.c, .slice y.a3 y.n3 y.c3]) :: (.slice (some ⟨wa.heap.size, 0, none⟩) 1 1) :: (.slice b4 (i + 1) d4) :: t15 :: r).toArray, defers := ds } (w2.setCell ⟨O, 0, none⟩ (.slice b4 (i + 1) d4))) (hc : ∀ N, CallsIn (Fence.wide.inRound l) N Tryz.prog 77 #[.agg #[.int .u8 x.k, .bool x.b, .slice x.a1 x.n1 x.c1, .slice x.a2 x.n2 x.c2, .int .i32 x.c, .slice x.a3 x.n3 x.c3]] W fun e w2 => ∃ y : IV, e = .returned (.agg #[.int .u8 y.k, .bool y.b, .slice y.a1 y.n1 y.c1, .slice y.a2 y.n2 y.c2, .int .i32 y.c, .slice y.a3 y.n3 y.c3]) ∧ IsIt f (Fr W.heap.size w2.heap.size) w2 y t ∧ Below W.heap.size W w2) :
    wpAnyIn (Fence.wide.inRound l) N Tryz.prog .any eachC_ops Q 6 #[true, false, false, false, false, false, false] { tmps := (t0 :: t1 :: (.pointer (some ⟨Wk, 0, none⟩)) :: t3 :: t4 :: (.pointer (some ⟨O, 0, none⟩)) :: (.pointer (some ⟨Bx, 0, none⟩)) :: t7 :: t8 :: (.slice b3 i d3) :: t10 :: t11 :: t12 :: t13 :: t14 :: t15 :: r).toArray, defers := ds } W := by
  refine wpAnyIn_ready (rs := [1, 2]) (by kernel_rfl) (by simp) ?_
  refine AllReadyIn.cons (o := { dst := some 10, op := Op.load 63 (Operand.tmp 2), type := 63, pos := "array.go:135", after := #[], guard := none }) rfl (fun K hK => ?_) ?_
  · have cW := BW.cell 0 rfl
    go_simp
    refine hK _ _ ?_
    exact eachC_s11 HO BO BW BX lO lZ hi hQ hc
  refine AllReadyIn.cons (o := { dst := some 11, op := Op.load 45 (Operand.tmp 6), type := 45, pos := "array.go:135", after := #[], guard := none }) rfl (fun K hK => ?_) ?_
  · have m0 := BX.cell 0 rfl
    have m1 := BX.cell 1 rfl
    have m2 := BX.cell 2 rfl
    have m3 := BX.cell 3 rfl
    have m4 := BX.cell 4 rfl
    have m5 := BX.cell 5 rfl
    go_simp
    refine hK _ _ ?_
    exact eachC_s21 HO BO BW BX lO lZ hi hQ hc
  exact AllReadyIn.nil

set_option maxRecDepth 100000 in
set_option maxHeartbeats 16000000 in
theorem eachC_s00 (HO : W.ownsRow Z 45 6 (.slice b3 i d3) i xs) (BO : BoxA W O 33 #[.slice b3 i d3]) (BW : BoxA W Wk 63 #[.func (.func 77) #[] #[]]) (BX : BoxA W Bx 45 #[.int .u8 x.k, .bool x.b, .slice x.a1 x.n1 x.c1, .slice x.a2 x.n2 x.c2, .int .i32 x.c, .slice x.a3 x.n3 x.c3]) (lO : O < Z) (lZ : Z ≤ W.heap.size) (hi : (i + 1) * 96 ≤ 140737488355328) (hQ : ∀ (y : IV) (wa : World) (b4 : Option Addr) (d4 : Nat) (w2 : World), IsIt f (Fr W.heap.size wa.heap.size) wa y t → Below W.heap.size W wa → w2.ownsRow Z 45 6 (.slice b4 (i + 1) d4) (i + 1) (xs ++ [.int .u8 y.k, .bool y.b, .slice y.a1 y.n1 y.c1, .slice y.a2 y.n2 y.c2, .int .i32 y.c, .slice y.a3 y.n3 y.c3]) → (wa.alloc (.cells #[.int .u8 y.k, .bool y.b, .slice y.a1 y.n1 y.c1, .slice y.a2 y.n2 y.c2, .int .i32 y.c, .slice y.a3 y.n3 y.c3] 45)).grownBy w2 (Value.slice b3 i d3).ownBlock → ((Value.slice b4 (i + 1) d4).ownBlock = (Value.slice b3 i d3).ownBlock ∨ (Value.slice b4 (i + 1) d4).ownBlock = some (wa.alloc (.cells #[.int .u8 y.k, .bool y.b, .slice y.a1 y.n1 y.c1, .slice y.a2 y.n2 y.c2, .int .i32 y.c, .slice y.a3 y.n3 y.c3] 45)).heap.size) → Q .normal { tmps := (t0 :: t1 :: (.pointer (some ⟨Wk, 0, none⟩)) :: t3 :: t4 :: (.pointer (some ⟨O, 0, none⟩)) :: (.pointer (some ⟨Bx, 0, none⟩)) :: t7 :: t8 :: (.slice b3 i d3) :: (.func (.func 77) #[] #[]) :: (.agg #[.int .u8 x.k, .bool x.b, .slice x.a1 x.n1 x.c1, .slice x.a2 x.n2 x.c2, .int .i32 x.c, .slice x.a3 x.n3 x.c3]) :: (.agg #[.int .u8 y.k, .bool y.b, .slice y.a1 y.n1 y.c1, .slice y.a2 y.n2 y.c2, .int .i32 y.c, .slice y.a3 y.n3 y.c3]) :: (.slice (some ⟨wa.heap.size, 0, none⟩) 1 1) :: (.slice b4 (i + 1) d4) :: t15 :: r).toArray, defers := ds } (w2.setCell ⟨O, 0, none⟩ (.slice b4 (i + 1) d4))) (hc : ∀ N, CallsIn (Fence.wide.inRound l) N Tryz.prog 77 #[.agg #[.int .u8 x.k, .bool x.b, .slice x.a1 x.n1 x.c1, .slice x.a2 x.n2 x.c2, .int .i32 x.c, .slice x.a3 x.n3 x.c3]] W fun e w2 => ∃ y : IV, e = .returned (.agg #[.int .u8 y.k, .bool y.b, .slice y.a1 y.n1 y.c1, .slice y.a2 y.n2 y.c2, .int .i32 y.c, .slice y.a3 y.n3 y.c3]) ∧ IsIt f (Fr W.heap.size w2.heap.size) w2 y t ∧ Below W.heap.size W w2) :
    wpAnyIn (Fence.wide.inRound l) N Tryz.prog .any eachC_ops Q 7 #[false, false, false, false, false, false, false] { tmps := (t0 :: t1 :: (.pointer (some ⟨Wk, 0, none⟩)) :: t3 :: t4 :: (.pointer (some ⟨O, 0, none⟩)) :: (.pointer (some ⟨Bx, 0, none⟩)) :: t7 :: t8 :: t9 :: t10 :: t11 :: t12 :: t13 :: t14 :: t15 :: r).toArray, defers := ds } W := by
  refine wpAnyIn_ready (rs := [0, 1, 2]) (by kernel_rfl) (by simp) ?_
  refine AllReadyIn.cons (o := { dst := some 9, op := Op.load 33 (Operand.tmp 5), type := 33, pos := "array.go:135", after := #[], guard := none }) rfl (fun K hK => ?_) ?_
  · have cO := (show BoxA _ O 33 #[.slice b3 i d3] from BO).cell 0 rfl
    go_simp
    refine hK _ _ ?_
    exact eachC_s01 HO BO BW BX lO lZ hi hQ hc
  refine AllReadyIn.cons (o := { dst := some 10, op := Op.load 63 (Operand.tmp 2), type := 63, pos := "array.go:135", after := #[], guard := none }) rfl (fun K hK => ?_) ?_
  · have cW := BW.cell 0 rfl
    go_simp
    refine hK _ _ ?_
    exact eachC_s10 HO BO BW BX lO lZ hi hQ hc
  refine AllReadyIn.cons (o := { dst := some 11, op := Op.load 45 (Operand.tmp 6), type := 45, pos := "array.go:135", after := #[], guard := none }) rfl (fun K hK => ?_) ?_
  · have m0 := BX.cell 0 rfl
    have m1 := BX.cell 1 rfl
    have m2 := BX.cell 2 rfl
    have m3 := BX.cell 3 rfl
    have m4 := BX.cell 4 rfl
    have m5 := BX.cell 5 rfl
    go_simp
    refine hK _ _ ?_
    exact eachC_s20 HO BO BW BX lO lZ hi hQ hc
  exact AllReadyIn.nil

end
end Go.Proofs.YthfmicokddcglaaGreatDoor
