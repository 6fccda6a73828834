/- The eight functions that are the same both ways round, through any two arrays. -/
import Derived.Test.YtmijanocljmaeaaGreatP5
import Derived.Test.YtmijanocljmaeaaGreatP6
import Derived.Test.YtmijanocljmaeaaGreatP7
import Derived.Test.YtmijanocljmaeaaGreatP8
import Derived.Test.YtmijanocljmaeaaGreatP9
namespace Go.Proofs.YtmijanocljmaeaaGreat
set_option linter.unusedVariables false
set_option linter.unusedSimpArgs false
open Go.RowKit

/-- A function of two numbers, through any two arrays, without tolerance: the same both ways round. -/
structure TurnOK (d : Dy) : Prop where
 comm : CommD d
 call : ∀ {D : Nat → Prop} {f : Nat} {w : World} {io pp : Int} {ea : Option Addr} {ec : Nat} {x1 x2 x3 x4 : Option Addr} {n1 y1 n2 y2 n3 y3 n4 y4 : Nat} {t s : Tr}, D5In D f w false none ea [] [1] 0 ec x1 x2 x3 x4 n1 y1 n2 y2 n3 y3 n4 y4 t s →
  Calls Tryz.prog 7 #[.agg #[.int .i64 io, .bool false, .slice none ([] : List Int).length 0, .slice ea ([1] : List Int).length ec, .int .i64 pp], .int .i32 d.gl, .agg #[.slice x1 n1 y1, .slice x2 n2 y2], .agg #[.slice x3 n3 y3, .slice x4 n4 y4]] w fun e w' => WhR w.heap.size 15 (dyadS d t s) e w' ∧ Below w.heap.size w w'
theorem caps_cell {b0 o : Nat} {e1 e2 : Option Addr} {n1 n2 f1 f2 : Nat} {bc : Bool} {u : World} {kf : Nat} (hC : CapsOf b0 bc e1 n1 f1 e2 n2 f2 u) (hc : ∀ wq, OfTwo b0 bc e1 n1 f1 e2 n2 f2 wq → wq.cell? ⟨b0 + o, 0, none⟩ = some (.func (.func kf) #[] #[])) : u.cell? ⟨b0 + o, 0, none⟩ = some (.func (.func kf) #[] #[]) := by
 obtain ⟨wq, hT, hb⟩ := hC
 have h := hc wq hT
 exact (hb.cell (p := ⟨b0 + o, 0, none⟩) (lt_of_cellT h)).trans h
theorem caps_tol {b0 : Nat} {e1 e2 : Option Addr} {n1 n2 f1 f2 : Nat} {bc : Bool} {u : World} (hC : CapsOf b0 bc e1 n1 f1 e2 n2 f2 u) : u.cell? ⟨b0, 0, none⟩ = some (.bool bc) ∧ u.cell? ⟨b0, 1, none⟩ = some (.slice e1 n1 f1) ∧ u.cell? ⟨b0, 2, none⟩ = some (.slice e2 n2 f2) := by
 obtain ⟨wq, hT, hb⟩ := hC
 obtain ⟨h0, h1, h2, _⟩ := hT.cells
 exact ⟨(hb.cell (p := ⟨b0, 0, none⟩) (lt_of_cellT h0)).trans h0, (hb.cell (p := ⟨b0, 1, none⟩) (lt_of_cellT h1)).trans h1, (hb.cell (p := ⟨b0, 2, none⟩) (lt_of_cellT h2)).trans h2⟩
theorem turn_plus : TurnOK plusD where
 comm := ⟨fun _ _ => rfl, fun x y _ _ => by
  show ratOp _ _ = ratOp _ _
  rw [Int.add_comm, Int.mul_comm (val x.ds) (val y.ds)]⟩
 call := fun hI => dyadic5_any (kf := 77) (capf := fun _ => #[]) (fun _ => rfl) (un_plain (Or.inl rfl) rfl) ⟨by decide, by decide⟩ hI (fun _ _ _ _ _ p v _ _ => doOK_plus p v)
theorem turn_times : TurnOK timesD where
 comm := ⟨fun _ _ => rfl, fun x y _ _ => by
  show ratOp _ _ = ratOp _ _
  rw [Int.mul_comm (sg x.b (val x.ns)), Int.mul_comm (val x.ds) (val y.ds)]⟩
 call := fun hI => dyadic5_any (kf := 80) (capf := fun _ => #[]) (fun _ => rfl) (un_plain (Or.inr (Or.inl rfl)) rfl) ⟨by decide, by decide⟩ hI (fun _ _ _ _ _ p v _ _ => doOK_times p v)
theorem eqN_comm (x y : Tr) : eqN x y = eqN y x := by
 unfold eqN
 rw [decide_eq_decide]
 exact eq_comm
theorem turn_eq : TurnOK eqD where
 comm := ⟨fun _ _ => rfl, fun x y _ _ => by show ((0 : Int), wholeT (bitI (eqN x y))) = (0, wholeT (bitI (eqN y x))); rw [eqN_comm]⟩
 call := fun hI => dyadic5_any (kf := 74) (capf := fun b => #[.pointer (some ⟨b + 4, 0, none⟩), .pointer (some ⟨b, 0, none⟩)]) (fun _ => rfl) (un_plain (Or.inr (Or.inr (Or.inl rfl))) rfl) ⟨by decide, by decide⟩ hI (fun b0 u hu _ hC p v hv hp => by
  have hcf := caps_cell (o := 4) (kf := 90) hC (fun wq hT => hT.cells.2.2.2.2.2.1)
  obtain ⟨c0, c1, c2⟩ := caps_tol hC
  exact doOK_cmp holdK_6 (fun bx xn xd cy yn yd r _ _ hr => by show ((0 : Int), wholeT (bitI (eqN _ _))) = _; rw [← hr]) hI.rn hI.rd hu (lt_of_cellT hcf) hcf c0 c1 c2 hv hp)
theorem turn_ne : TurnOK neD where
 comm := ⟨fun _ _ => rfl, fun x y _ _ => by show ((0 : Int), wholeT (bitI (!eqN x y))) = (0, wholeT (bitI (!eqN y x))); rw [eqN_comm]⟩
 call := fun hI => dyadic5_any (kf := 74) (capf := fun b => #[.pointer (some ⟨b + 7, 0, none⟩), .pointer (some ⟨b, 0, none⟩)]) (fun _ => rfl) (un_plain (Or.inr (Or.inr (Or.inr (Or.inl rfl)))) rfl) ⟨by decide, by decide⟩ hI (fun b0 u hu _ hC p v hv hp => by
  have hcf := caps_cell (o := 7) (kf := 93) hC (fun wq hT => hT.cells.2.2.2.2.2.2.2.2.1)
  obtain ⟨c0, c1, c2⟩ := caps_tol hC
  exact doOK_cmp holdK_9 (fun bx xn xd cy yn yd r _ _ hr => by show ((0 : Int), wholeT (bitI (!eqN _ _))) = _; rw [← hr]) hI.rn hI.rd hu (lt_of_cellT hcf) hcf c0 c1 c2 hv hp)
theorem log_comm {gl : Int} {op : Bool → Bool → Bool} (h : ∀ a b, op a b = op b a) : CommD (logD gl op) :=
 ⟨fun x y => Bool.or_comm _ _, fun x y _ _ => by
  show (if (isB x && isB y) = true then ((0 : Int), wholeT (bitI (op _ _))) else (3, zeroN)) = (if (isB y && isB x) = true then ((0 : Int), wholeT (bitI (op _ _))) else (3, zeroN))
  rw [Bool.and_comm (isB x), h]⟩
theorem turn_and : TurnOK (logD 8743 (fun a b => a && b)) where
 comm := log_comm (fun a b => Bool.and_comm a b)
 call := fun hI => dyadic5_any (d := logD 8743 (fun a b => a && b)) (kf := 137) (capf := fun b => #[.pointer (some ⟨b + 8, 0, none⟩)]) (fun _ => rfl) (un_log (Or.inl rfl)) ⟨by decide, by decide⟩ hI (fun b0 u hu _ hC p v hv hp =>
  doOK_log holdB_10 (caps_cell (o := 8) (kf := 95) hC (fun wq hT => hT.cells.2.2.2.2.2.2.2.2.2.1)) hv hp)
theorem turn_or : TurnOK (logD 8744 (fun a b => a || b)) where
 comm := log_comm (fun a b => Bool.or_comm a b)
 call := fun hI => dyadic5_any (d := logD 8744 (fun a b => a || b)) (kf := 137) (capf := fun b => #[.pointer (some ⟨b + 9, 0, none⟩)]) (fun _ => rfl) (un_log (Or.inr rfl)) ⟨by decide, by decide⟩ hI (fun b0 u hu _ hC p v hv hp =>
  doOK_log holdB_11 (caps_cell (o := 9) (kf := 96) hC (fun wq hT => hT.cells.2.2.2.2.2.2.2.2.2.2.1)) hv hp)
theorem num_same {x y : Tr} (hx : NumOK x) (hy : NumOK y) (h : sg x.b (val x.ns) * val y.ds = sg y.b (val y.ns) * val x.ds) : x = y := by
 obtain ⟨e1, e2, e3⟩ := right_is hx.r h (den_pos hy.r) hy.r rfl
 rw [← tr_num hx.k hx.c hx.z, ← tr_num hy.k hy.c hy.z, e1, e2, e3]
theorem less_turn {x y : Tr} (hx : NumOK x) (hy : NumOK y) : (if lessN x y = true then y else x) = if lessN y x = true then x else y := by
 unfold lessN
 rcases Int.lt_trichotomy (sg x.b (val x.ns) * val y.ds) (sg y.b (val y.ns) * val x.ds) with h | h | h
 · rw [decide_eq_true h, decide_eq_false (by omega), if_pos rfl, if_neg (by simp)]
 · rw [decide_eq_false (by omega), decide_eq_false (by omega), if_neg (by simp), if_neg (by simp)]
   exact num_same hx hy h
 · rw [decide_eq_false (by omega), decide_eq_true h, if_neg (by simp), if_pos rfl]
theorem turn_max : TurnOK maxD where
 comm := ⟨fun _ _ => rfl, fun x y hx hy => by show ((0 : Int), _) = (0, _); rw [less_turn hx hy]⟩
 call := fun hI => dyadic5_any (kf := 83) (capf := fun _ => #[]) (fun _ => rfl) (un_plain (Or.inr (Or.inr (Or.inr (Or.inr (Or.inl rfl))))) rfl) ⟨by decide, by decide⟩ hI (fun _ _ _ _ _ p v _ _ => doOK_greater p v)
theorem turn_min : TurnOK minD where
 comm := ⟨fun _ _ => rfl, fun x y hx hy => by
  show ((0 : Int), if lessN y x = true then y else x) = (0, if lessN x y = true then x else y)
  have hl := less_turn hx hy
  unfold lessN at hl ⊢
  rcases Int.lt_trichotomy (sg x.b (val x.ns) * val y.ds) (sg y.b (val y.ns) * val x.ds) with h | h | h
  · rw [decide_eq_true h, decide_eq_false (by omega), if_neg (by simp), if_pos rfl]
  · rw [num_same hx hy h]
  · rw [decide_eq_false (show ¬ sg x.b (val x.ns) * val y.ds < sg y.b (val y.ns) * val x.ds by omega), decide_eq_true h, if_pos rfl, if_neg (by simp)]⟩
 call := fun hI => dyadic5_any (kf := 84) (capf := fun _ => #[]) (fun _ => rfl) (un_plain (Or.inr (Or.inr (Or.inr (Or.inr (Or.inr rfl))))) rfl) ⟨by decide, by decide⟩ hI (fun _ _ _ _ _ p v _ _ => doOK_lesser p v)
end Go.Proofs.YtmijanocljmaeaaGreat
