/- Rows of ints; worlds in which all blocks below a place stay, but two. -/
import Derived.Test.YtimfnalpmmkndaaGreatDoorDB
import Derived.Test.YtimfnalpmmkndaaGreatDoorDC
import Derived.Deep.RegionHeld3
namespace Go.Proofs.YtimfnalpmmkndaaGreatDoor
set_option linter.unusedVariables false
set_option linter.unusedSimpArgs false
open Go.RowKit

abbrev OwI (base : Nat) (w : World) (v : Value) (xs : List Int) : Prop := w.ownsRow base 3 1 v xs.length (xs.map (Value.int .i64))
structure KL (n R M : Nat) (w w' : World) : Prop where
 os : w'.os = w.os
 tape : w'.tape = w.tape
 output : w'.output = w.output
 size : n ≤ w'.heap.size
 block : ∀ g, g < n → g ≠ R → g ≠ M → w'.heap[g]? = w.heap[g]?
theorem KL.below {n R M C : Nat} {w w' : World} (h : KL n R M w w') (hs : w.heap.size ≤ w'.heap.size) (hC : C ≤ n) (hR : C ≤ R) (hM : C ≤ M) : Below C w w' := ⟨h.os, h.tape, h.output, hs, fun g hg => h.block g (by omega) (by omega) (by omega)⟩
theorem KL.box {n R M g ty : Nat} {w w' : World} {xs : Array Value} (h : KL n R M w w') (hb : BoxA w g ty xs) (hg : g < n) (hR : g ≠ R) (hM : g ≠ M) : BoxA w' g ty xs := by
 unfold BoxA at hb ⊢
 rw [h.block g hg hR hM]; exact hb
theorem KL.trans_below {n R M C : Nat} {w a b : World} (h : KL n R M w a) (k : Below C a b) (hC : n ≤ C) : KL n R M w b := ⟨k.os.trans h.os, k.tape.trans h.tape, k.output.trans h.output, Nat.le_trans h.size k.size, fun g hg hR hM => (k.block g (by omega)).trans (h.block g hg hR hM)⟩
theorem KL.trans_kp {n R M : Nat} {w a b : World} (h : KL n R M w a) (k : Kp M a b) : KL n R M w b := ⟨k.os.trans h.os, k.tape.trans h.tape, k.output.trans h.output, Nat.le_trans h.size k.size, fun g hg hR hM => (k.block g (by have := h.size; omega) hM).trans (h.block g hg hR hM)⟩
theorem KL.trans_r {n R M : Nat} {w a b : World} (h : KL n R M w a) (k : KL n R R a b) : KL n R M w b := ⟨k.os.trans h.os, k.tape.trans h.tape, k.output.trans h.output, k.size, fun g hg hR hM => (k.block g hg hR hR).trans (h.block g hg hR hM)⟩
theorem KL.grown {n R M : Nat} {w a b : World} {row : Option Nat} (h : KL n R M w a) (hg : a.grownBy b row) (hr : ∀ k, row = some k → n ≤ k) : KL n R M w b := ⟨hg.os.trans h.os, hg.tape.trans h.tape, hg.output.trans h.output, Nat.le_trans h.size hg.size, fun g hgn hR hM => (hg.block g (by have := h.size; omega) (fun e => by have := hr g e.symm; omega)).trans (h.block g hgn hR hM)⟩
theorem KL.set1 {n R M k : Nat} {w a : World} (h : KL n R M w a) (u : Value) : KL n R M w (a.setCell ⟨R, k, none⟩ u) := ⟨h.os, h.tape, h.output, by rw [show (a.setCell ⟨R, k, none⟩ u).heap.size = a.heap.size by simp [World.setCell]]; exact h.size, fun g hg hR hM => by
 rw [show (a.setCell ⟨R, k, none⟩ u).heap[g]? = a.heap[g]? by
  have : ¬ R = g := fun e => hR e.symm
  simp [World.setCell, Array.getElem?_modify, this]]
 exact h.block g hg hR hM⟩
theorem KL.set2 {n R M k j : Nat} {w a : World} (h : KL n R M w a) (u v : Value) : KL n R M w ((a.setCell ⟨R, k, none⟩ u).setCell ⟨R, j, none⟩ v) := (h.set1 u).set1 v
theorem KL.row {n R M base : Nat} {w w' : World} {v : Value} {ss : List ByteArray} (h : KL n R M w w') (hr : OwS base w v ss) (hb : ∀ g, v.ownBlock = some g → g < n ∧ g ≠ R ∧ g ≠ M) : OwS base w' v ss := by
 obtain ⟨h1, h2 | ⟨g, cap, cur, hv, hg, hh, r⟩⟩ := hr
 · exact ⟨h1, Or.inl h2⟩
 · obtain ⟨b1, b2, b3⟩ := hb g (by rw [hv]; rfl)
   exact ⟨h1, Or.inr ⟨g, cap, cur, hv, hg, by rw [h.block g b1 b2 b3]; exact hh, r⟩⟩
theorem own_below {base B e n : Nat} {w w' : World} {v : Value} {xs : List Value} (h : w.ownsRow base e 1 v n xs) (hb : Below B w w') (hB : w.heap.size ≤ B) : w'.ownsRow base e 1 v n xs := by
 obtain ⟨h1, h | ⟨g, cap, cur, hv, hg, hh, r⟩⟩ := h
 · exact ⟨h1, Or.inl h⟩
 · exact ⟨h1, Or.inr ⟨g, cap, cur, hv, hg, by rw [hb.block g (Nat.lt_of_lt_of_le (lt_of_block hh) hB)]; exact hh, r⟩⟩
theorem own_set {base e n : Nat} {w : World} {v u : Value} {xs : List Value} {a : Addr} (h : w.ownsRow base e 1 v n xs) (hn : ∀ g, v.ownBlock = some g → g ≠ a.block) : (w.setCell a u).ownsRow base e 1 v n xs := ownsRow_setCell_other h (fun e => hn _ e rfl) _
theorem own_block {base e n : Nat} {w : World} {v : Value} {xs : List Value} (h : w.ownsRow base e 1 v n xs) : v.ownBlock = none ∨ ∃ g cur, v.ownBlock = some g ∧ w.heap[g]? = some (.cells cur e (0, 0)) := by
 obtain ⟨_, ⟨rfl, _⟩ | ⟨g, cap, cur, rfl, _, hh, _⟩⟩ := h
 · exact Or.inl rfl
 · exact Or.inr ⟨g, cur, rfl, hh⟩
theorem own_types1 {b1 b2 : Nat} {w : World} {v u : Value} {ss : List ByteArray} {xs : List Int} (h : OwS b1 w v ss) (k : OwI b2 w u xs) : v.ownBlock = none ∨ v.ownBlock ≠ u.ownBlock := by
 rcases own_block h with h | ⟨g, cur, h1, h2⟩
 · exact Or.inl h
 · refine Or.inr fun e => ?_
   rcases own_block k with k | ⟨g', cur', k1, k2⟩
   · rw [h1, k] at e; cases e
   · rw [h1, k1] at e
     cases e
     rw [h2] at k2
     cases k2
theorem own_types2 {b1 b2 : Nat} {w : World} {v u : Value} {ss : List ByteArray} {xs : List Int} (k : OwI b2 w u xs) (h : OwS b1 w v ss) : u.ownBlock = none ∨ u.ownBlock ≠ v.ownBlock := by
 rcases own_block k with h' | ⟨g, cur, h1, h2⟩
 · exact Or.inl h'
 · refine Or.inr fun e => ?_
   rcases own_block h with k | ⟨g', cur', k1, k2⟩
   · rw [h1, k] at e; cases e
   · rw [h1, k1] at e
     cases e
     rw [h2] at k2
     cases k2
theorem BoxA.grownF {W W' : World} {B ty : Nat} {xs : Array Value} {row : Option Nat} (h : BoxA W B ty xs) (hg : W.grownBy W' row) (hr : row ≠ some B) : BoxA W' B ty xs := by
 unfold BoxA at h ⊢
 rw [hg.block B (lt_of_block h) (fun e => hr e.symm)]; exact h
theorem info_intS : (Tryz.prog.info? 3).map (fun i => (i.zero, i.size, i.bytes)) = some (some (.int .i64 0), 1, 8) := by kernel_rfl
theorem step_append_ints {base p : Nat} {ops : Array Oper} {o : Oper} {a : Act} {w : World} {K : Act → World → Prop} {Q : Exit → Act → World → Prop} {E : Prop} {v : Value} {xs : List Int} {k : Int} (hg : o.guard = none) (s x : Operand)
    (ho : o.op = .call { callee := .builtin .append, args := #[s, x], argTypes := #[26, 26] }) (hs : a.eval s = v) (hx : a.eval x = .slice (some ⟨p, 0, none⟩) 1 1) (hO : OwI base w v xs) (hR : BoxA w p 3 #[.int .i64 k]) (hl : xs.length ≤ 1000000) (hb : base ≤ w.heap.size)
    (hK : ∀ v' w', OwI base w' v' (xs ++ [k]) → w.grownBy w' v.ownBlock → K (a.put o.dst v') w') :
    if Region.wanted o (yielded ops a.tmps) = true then Oper.wp Tryz.prog o a w K Q else E := by
 rw [if_pos (by simp [Region.wanted, hg])]
 obtain ⟨i0, hi, hz0, hz1, hz2⟩ := info_parts info_intS
 obtain ⟨v', w', hr, h2, h3, h4, h5⟩ := run_append_own_at (P := Tryz.prog) w base 26 o.type 3 i0 (.int .i64 0) 1 8 Tryz.underlying26 hi hz0 hz1 hz2 rfl (by decide) v xs.length (xs.map (Value.int .i64)) hO ⟨p, 0, none⟩ 1 1 [.int .i64 k] rfl (by
  intro j u hj
  match j, hj with
  | 0, hj => simp at hj; subst hj; exact hR.cell 0 rfl) (by intro u hu; simp at hu; subst hu; rfl) (by unfold maxLen; omega) (by omega) hb
 unfold Oper.wp execOp
 simp only [ho, resolve, invoke, builtin, Sem.run_bind, Sem.run_pure, Result.andThen_ok, List.map_toArray, List.map_cons, List.map_nil, hs, hx, hr]
 refine hK v' w' ?_ h3
 unfold OwI
 rw [List.length_append, List.map_append]
 exact h2
def mops : Array Oper := #[
 { dst := some 69, op := Op.fieldAddr 36 (Operand.tmp 5) 5, type := 0, pos := "define.go:42", after := #[], guard := none },
 { dst := some 70, op := Op.load 25 (Operand.tmp 69), type := 25, pos := "define.go:42", after := #[{ on := 0, ground := Ground.data }], guard := none },
 { dst := some 71, op := Op.move (Operand.tmp 10), type := 9, pos := "define.go:42", after := #[], guard := none },
 { dst := some 72, op := Op.buildSlice 25 1 #[(0, Operand.tmp 71)], type := 25, pos := "define.go:42", after := #[{ on := 2, ground := Ground.data }], guard := none },
 { dst := some 73, op := Op.call { callee := Callee.builtin Builtin.append, args := #[Operand.tmp 70, Operand.tmp 72], argTypes := #[25, 25] }, type := 25, pos := "define.go:42", after := #[{ on := 1, ground := Ground.data }, { on := 3, ground := Ground.data }], guard := none },
 { dst := some 74, op := Op.fieldAddr 36 (Operand.tmp 5) 6, type := 0, pos := "define.go:42", after := #[], guard := none },
 { dst := some 75, op := Op.load 26 (Operand.tmp 74), type := 26, pos := "define.go:42", after := #[{ on := 5, ground := Ground.data }], guard := none },
 { dst := some 76, op := Op.move (Operand.tmp 8), type := 3, pos := "define.go:42", after := #[], guard := none },
 { dst := some 77, op := Op.binOp BinOp.add 3 (Operand.tmp 76) (Operand.const (Value.int IntKind.i64 1)) 3, type := 3, pos := "define.go:42", after := #[{ on := 7, ground := Ground.data }], guard := none },
 { dst := some 78, op := Op.buildSlice 26 1 #[(0, Operand.tmp 77)], type := 26, pos := "define.go:42", after := #[{ on := 8, ground := Ground.data }], guard := none },
 { dst := some 79, op := Op.call { callee := Callee.builtin Builtin.append, args := #[Operand.tmp 75, Operand.tmp 78], argTypes := #[26, 26] }, type := 26, pos := "define.go:42", after := #[{ on := 6, ground := Ground.data }, { on := 9, ground := Ground.data }, { on := 4, ground := Ground.chain }], guard := none },
 { dst := some 80, op := Op.fieldAddr 36 (Operand.tmp 5) 5, type := 0, pos := "define.go:42", after := #[{ on := 0, ground := Ground.phase }, { on := 1, ground := Ground.phase }, { on := 2, ground := Ground.phase }, { on := 3, ground := Ground.phase }, { on := 4, ground := Ground.phase }, { on := 5, ground := Ground.phase }, { on := 6, ground := Ground.phase }, { on := 7, ground := Ground.textOnly Departure.lateStores }, { on := 8, ground := Ground.textOnly Departure.lateStores }, { on := 9, ground := Ground.textOnly Departure.lateStores }, { on := 10, ground := Ground.textOnly Departure.lateStoresUnsure }], guard := none },
 { dst := none, op := Op.store 25 (Operand.tmp 80) (Operand.tmp 73), type := 0, pos := "define.go:42", after := #[{ on := 11, ground := Ground.data }, { on := 4, ground := Ground.data }, { on := 10, ground := Ground.chain }, { on := 0, ground := Ground.phase }, { on := 1, ground := Ground.phase }, { on := 2, ground := Ground.phase }, { on := 3, ground := Ground.phase }, { on := 4, ground := Ground.phase }, { on := 5, ground := Ground.phase }, { on := 6, ground := Ground.phase }, { on := 7, ground := Ground.textOnly Departure.lateStores }, { on := 8, ground := Ground.textOnly Departure.lateStores }, { on := 9, ground := Ground.textOnly Departure.lateStores }, { on := 10, ground := Ground.textOnly Departure.lateStoresUnsure }], guard := none },
 { dst := some 81, op := Op.fieldAddr 36 (Operand.tmp 5) 6, type := 0, pos := "define.go:42", after := #[{ on := 0, ground := Ground.phase }, { on := 1, ground := Ground.phase }, { on := 2, ground := Ground.phase }, { on := 3, ground := Ground.phase }, { on := 4, ground := Ground.phase }, { on := 5, ground := Ground.phase }, { on := 6, ground := Ground.phase }, { on := 7, ground := Ground.phase }, { on := 8, ground := Ground.phase }, { on := 9, ground := Ground.phase }, { on := 10, ground := Ground.phase }, { on := 11, ground := Ground.phase }, { on := 12, ground := Ground.phase }], guard := none },
 { dst := none, op := Op.store 26 (Operand.tmp 81) (Operand.tmp 79), type := 0, pos := "define.go:42", after := #[{ on := 13, ground := Ground.data }, { on := 10, ground := Ground.data }, { on := 12, ground := Ground.chain }, { on := 0, ground := Ground.phase }, { on := 1, ground := Ground.phase }, { on := 2, ground := Ground.phase }, { on := 3, ground := Ground.phase }, { on := 4, ground := Ground.phase }, { on := 5, ground := Ground.phase }, { on := 6, ground := Ground.phase }, { on := 7, ground := Ground.phase }, { on := 8, ground := Ground.phase }, { on := 9, ground := Ground.phase }, { on := 10, ground := Ground.phase }, { on := 11, ground := Ground.phase }, { on := 12, ground := Ground.phase }], guard := none }]
section
variable {Q : Exit → Act → World → Prop} {wc W : World} {R base p1 p2 i : Nat} {nm rs lf rt lb : ByteArray} {lo li : Value} {ls : List ByteArray} {ats : List Int} {a2 a3 x1 x2 : Option Addr} {c2 c3 y1 y2 : Nat} {ds : List Deferred} {t0 t1 t2 t3 t4 t5 t6 t7 t8 t9 t10 t11 t12 t13 t14 t15 t16 t17 t18 t19 t20 t21 t22 t23 t24 t25 t26 t27 t28 t29 t30 t31 t32 t33 t34 t35 t36 t37 t38 t39 t40 t41 t42 t43 t44 t45 t46 t47 t48 t49 t50 t51 t52 t53 t54 t55 t56 t57 t58 t59 t60 t61 t62 t63 t64 t65 t66 t67 t68 t69 t70 t71 t72 t73 t74 t75 t76 t77 t78 t79 t80 t81 t82 t83 t84 t85 t86 : Value}
set_option maxRecDepth 100000 in
set_option maxHeartbeats 16000000 in
theorem mr_1111111 (hR : R < base) (hl : ls.length ≤ 100000 ∧ ats.length ≤ 100000) (hQ : ∀ (p1 p2 : Nat) (x1 x2 : Option Addr) (y1 y2 : Nat) (W : World), BoxA W R 36 (fnV nm rs lf rt lo (.slice x1 (ls.length + 1) y1) (.slice x2 (ats.length + 1) y2) li false) → OwS base W (.slice x1 (ls.length + 1) y1) (ls ++ [lb]) → OwI base W (.slice x2 (ats.length + 1) y2) (ats ++ [((i : Int) + 1)]) → KL base R R wc W → Q .normal { tmps := #[t0, t1, t2, t3, t4, .pointer (some ⟨R, 0, none⟩), t6, t7, .int .i64 (i : Int), t9, .string lb, t11, t12, t13, t14, t15, t16, t17, t18, t19, t20, t21, t22, t23, t24, t25, t26, t27, t28, t29, t30, t31, t32, t33, t34, t35, t36, t37, t38, t39, t40, t41, t42, t43, t44, t45, t46, t47, t48, t49, t50, t51, t52, t53, t54, t55, t56, t57, t58, t59, t60, t61, t62, t63, t64, t65, t66, t67, t68, .pointer (some ⟨R, 5, none⟩), .slice a2 ls.length c2, .string lb, .slice (some ⟨p1, 0, none⟩) 1 1, .slice x1 (ls.length + 1) y1, .pointer (some ⟨R, 6, none⟩), .slice a3 ats.length c3, .int .i64 (i : Int), .int .i64 ((i : Int) + 1), .slice (some ⟨p2, 0, none⟩) 1 1, .slice x2 (ats.length + 1) y2, .pointer (some ⟨R, 5, none⟩), .pointer (some ⟨R, 6, none⟩), t82, t83, t84, t85, t86], defers := ds } W) (hP : ∀ c a d x w, Q (.panic c) (Act.put a d x) w → Q (.panic c) a w) (kW : KL base R R wc W) (N : BoxA W R 36 (fnV nm rs lf rt lo (.slice a2 ls.length c2) (.slice a3 ats.length c3) li false)) (oL : OwS base W (.slice x1 (ls.length + 1) y1) (ls ++ [lb])) (oA : OwI base W (.slice x2 (ats.length + 1) y2) (ats ++ [((i : Int) + 1)])) :
    wpAnyH Tryz.prog .any mops Q (fun _ => True) 3 #[true, true, true, true, true, true, true, true, true, true, true, true, false, false, false] { tmps := #[t0, t1, t2, t3, t4, .pointer (some ⟨R, 0, none⟩), t6, t7, .int .i64 (i : Int), t9, .string lb, t11, t12, t13, t14, t15, t16, t17, t18, t19, t20, t21, t22, t23, t24, t25, t26, t27, t28, t29, t30, t31, t32, t33, t34, t35, t36, t37, t38, t39, t40, t41, t42, t43, t44, t45, t46, t47, t48, t49, t50, t51, t52, t53, t54, t55, t56, t57, t58, t59, t60, t61, t62, t63, t64, t65, t66, t67, t68, .pointer (some ⟨R, 5, none⟩), .slice a2 ls.length c2, .string lb, .slice (some ⟨p1, 0, none⟩) 1 1, .slice x1 (ls.length + 1) y1, .pointer (some ⟨R, 6, none⟩), .slice a3 ats.length c3, .int .i64 (i : Int), .int .i64 ((i : Int) + 1), .slice (some ⟨p2, 0, none⟩) 1 1, .slice x2 (ats.length + 1) y2, .pointer (some ⟨R, 5, none⟩), t81, t82, t83, t84, t85, t86], defers := ds } W := by
 have r5 := N.cell 5 rfl
 have f5 := N.frozen 5
 have N1 : BoxA (W.setCell ⟨R, 5, none⟩ (.slice x1 (ls.length + 1) y1)) R 36 (fnV nm rs lf rt lo (.slice x1 (ls.length + 1) y1) (.slice a3 ats.length c3) li false) := boxA_put N 5 _
 have r6 := N1.cell 6 rfl
 have f6 := N1.frozen 6
 have N2 : BoxA ((W.setCell ⟨R, 5, none⟩ (.slice x1 (ls.length + 1) y1)).setCell ⟨R, 6, none⟩ (.slice x2 (ats.length + 1) y2)) R 36 (fnV nm rs lf rt lo (.slice x1 (ls.length + 1) y1) (.slice x2 (ats.length + 1) y2) li false) := boxA_put N1 6 _
 have o1 := own_set (u := .slice x2 (ats.length + 1) y2) (a := ⟨R, 6, none⟩) (own_set (u := .slice x1 (ls.length + 1) y1) (a := ⟨R, 5, none⟩) oL (fun g hg => by have := (oL.lt g hg).1; show g ≠ R; omega)) (fun g hg => by have := (oL.lt g hg).1; show g ≠ R; omega)
 have o2 := own_set (u := .slice x2 (ats.length + 1) y2) (a := ⟨R, 6, none⟩) (own_set (u := .slice x1 (ls.length + 1) y1) (a := ⟨R, 5, none⟩) oA (fun g hg => by have := (oA.lt g hg).1; show g ≠ R; omega)) (fun g hg => by have := (oA.lt g hg).1; show g ≠ R; omega)
 have HQ : Hid _ := hQ p1 p2 x1 x2 y1 y2 _ N2 o1 o2 (kW.set2 _ _)
 clear o1 o2 N2 hQ oL oA kW N N1
 refine wpAnyH_ready (rs := [12]) (by kernel_rfl) (by simp) ?_
 refine AllReadyH.cons rfl (fun K hK => ?_) AllReadyH.nil
 go_simp
 refine hK.out _ _ trivial (fun _ => ?_)
 clear hK K
 refine wpAnyH_take (i := 13) (v := .pointer (some ⟨R, 6, none⟩)) rfl (by kernel_rfl) (by kernel_rfl) (by kernel_rfl) (fun c a w h => hP c a _ _ w h) (Or.inl ⟨by rfl, (by intro w hSw; go_simp)⟩) trivial ?_
 simp only [Act.put, List.setIfInBounds_toArray, List.set_cons_zero, List.set_cons_succ]
 refine wpAnyH_ready (rs := [14]) (by kernel_rfl) (by simp) ?_
 refine AllReadyH.cons rfl (fun K hK => ?_) AllReadyH.nil
 go_simp
 refine hK.out _ _ trivial (fun _ => ?_)
 clear hK K
 exact wpAnyH_done (by kernel_rfl) HQ.out _

set_option maxRecDepth 100000 in
set_option maxHeartbeats 16000000 in
theorem mr_1111101 (hR : R < base) (hl : ls.length ≤ 100000 ∧ ats.length ≤ 100000) (hQ : ∀ (p1 p2 : Nat) (x1 x2 : Option Addr) (y1 y2 : Nat) (W : World), BoxA W R 36 (fnV nm rs lf rt lo (.slice x1 (ls.length + 1) y1) (.slice x2 (ats.length + 1) y2) li false) → OwS base W (.slice x1 (ls.length + 1) y1) (ls ++ [lb]) → OwI base W (.slice x2 (ats.length + 1) y2) (ats ++ [((i : Int) + 1)]) → KL base R R wc W → Q .normal { tmps := #[t0, t1, t2, t3, t4, .pointer (some ⟨R, 0, none⟩), t6, t7, .int .i64 (i : Int), t9, .string lb, t11, t12, t13, t14, t15, t16, t17, t18, t19, t20, t21, t22, t23, t24, t25, t26, t27, t28, t29, t30, t31, t32, t33, t34, t35, t36, t37, t38, t39, t40, t41, t42, t43, t44, t45, t46, t47, t48, t49, t50, t51, t52, t53, t54, t55, t56, t57, t58, t59, t60, t61, t62, t63, t64, t65, t66, t67, t68, .pointer (some ⟨R, 5, none⟩), .slice a2 ls.length c2, .string lb, .slice (some ⟨p1, 0, none⟩) 1 1, .slice x1 (ls.length + 1) y1, .pointer (some ⟨R, 6, none⟩), .slice a3 ats.length c3, .int .i64 (i : Int), .int .i64 ((i : Int) + 1), .slice (some ⟨p2, 0, none⟩) 1 1, .slice x2 (ats.length + 1) y2, .pointer (some ⟨R, 5, none⟩), .pointer (some ⟨R, 6, none⟩), t82, t83, t84, t85, t86], defers := ds } W) (hP : ∀ c a d x w, Q (.panic c) (Act.put a d x) w → Q (.panic c) a w) (kW : KL base R R wc W) (N : BoxA W R 36 (fnV nm rs lf rt lo (.slice a2 ls.length c2) (.slice a3 ats.length c3) li false)) (oL : OwS base W (.slice x1 (ls.length + 1) y1) (ls ++ [lb])) (oA : OwI base W (.slice a3 ats.length c3) ats) (q2 : BoxA W p2 3 #[.int .i64 ((i : Int) + 1)]) :
    wpAnyH Tryz.prog .any mops Q (fun _ => True) 4 #[true, true, true, true, true, true, true, true, true, true, false, true, false, false, false] { tmps := #[t0, t1, t2, t3, t4, .pointer (some ⟨R, 0, none⟩), t6, t7, .int .i64 (i : Int), t9, .string lb, t11, t12, t13, t14, t15, t16, t17, t18, t19, t20, t21, t22, t23, t24, t25, t26, t27, t28, t29, t30, t31, t32, t33, t34, t35, t36, t37, t38, t39, t40, t41, t42, t43, t44, t45, t46, t47, t48, t49, t50, t51, t52, t53, t54, t55, t56, t57, t58, t59, t60, t61, t62, t63, t64, t65, t66, t67, t68, .pointer (some ⟨R, 5, none⟩), .slice a2 ls.length c2, .string lb, .slice (some ⟨p1, 0, none⟩) 1 1, .slice x1 (ls.length + 1) y1, .pointer (some ⟨R, 6, none⟩), .slice a3 ats.length c3, .int .i64 (i : Int), .int .i64 ((i : Int) + 1), .slice (some ⟨p2, 0, none⟩) 1 1, t79, .pointer (some ⟨R, 5, none⟩), t81, t82, t83, t84, t85, t86], defers := ds } W := by
 have r5 := N.cell 5 rfl
 have r6 := N.cell 6 rfl
 refine wpAnyH_ready (rs := [10]) (by kernel_rfl) (by simp) ?_
 refine AllReadyH.cons rfl (fun K hK => ?_) ?_
 · refine step_append_ints (base := base) (xs := ats) (k := (i : Int) + 1) (by rfl) _ _ (by rfl) (by rfl) (by rfl) oA q2 (by omega) kW.size ?_
   intro v' W' hO hgr
   obtain ⟨x2, y2, rfl⟩ := (show ∃ a c, v' = .slice a (ats.length + 1) c from by obtain ⟨a, c, e⟩ := row_form2S hO; exact ⟨a, c, by rw [e]; simp⟩)
   exact hK.out _ _ trivial (fun _ => mr_1111111 hR hl hQ hP (kW.grown hgr (fun k hk => (oA.lt k hk).1)) (N.grownF hgr (fun e => by have := (oA.lt _ e).1; omega)) (oL.kept hgr (own_types1 oL oA)) (hO))
 exact AllReadyH.nil

set_option maxRecDepth 100000 in
set_option maxHeartbeats 16000000 in
theorem mr_1111001 (hR : R < base) (hl : ls.length ≤ 100000 ∧ ats.length ≤ 100000) (hQ : ∀ (p1 p2 : Nat) (x1 x2 : Option Addr) (y1 y2 : Nat) (W : World), BoxA W R 36 (fnV nm rs lf rt lo (.slice x1 (ls.length + 1) y1) (.slice x2 (ats.length + 1) y2) li false) → OwS base W (.slice x1 (ls.length + 1) y1) (ls ++ [lb]) → OwI base W (.slice x2 (ats.length + 1) y2) (ats ++ [((i : Int) + 1)]) → KL base R R wc W → Q .normal { tmps := #[t0, t1, t2, t3, t4, .pointer (some ⟨R, 0, none⟩), t6, t7, .int .i64 (i : Int), t9, .string lb, t11, t12, t13, t14, t15, t16, t17, t18, t19, t20, t21, t22, t23, t24, t25, t26, t27, t28, t29, t30, t31, t32, t33, t34, t35, t36, t37, t38, t39, t40, t41, t42, t43, t44, t45, t46, t47, t48, t49, t50, t51, t52, t53, t54, t55, t56, t57, t58, t59, t60, t61, t62, t63, t64, t65, t66, t67, t68, .pointer (some ⟨R, 5, none⟩), .slice a2 ls.length c2, .string lb, .slice (some ⟨p1, 0, none⟩) 1 1, .slice x1 (ls.length + 1) y1, .pointer (some ⟨R, 6, none⟩), .slice a3 ats.length c3, .int .i64 (i : Int), .int .i64 ((i : Int) + 1), .slice (some ⟨p2, 0, none⟩) 1 1, .slice x2 (ats.length + 1) y2, .pointer (some ⟨R, 5, none⟩), .pointer (some ⟨R, 6, none⟩), t82, t83, t84, t85, t86], defers := ds } W) (hP : ∀ c a d x w, Q (.panic c) (Act.put a d x) w → Q (.panic c) a w) (kW : KL base R R wc W) (N : BoxA W R 36 (fnV nm rs lf rt lo (.slice a2 ls.length c2) (.slice a3 ats.length c3) li false)) (oL : OwS base W (.slice x1 (ls.length + 1) y1) (ls ++ [lb])) (oA : OwI base W (.slice a3 ats.length c3) ats) :
    wpAnyH Tryz.prog .any mops Q (fun _ => True) 5 #[true, true, true, true, true, true, true, true, true, false, false, true, false, false, false] { tmps := #[t0, t1, t2, t3, t4, .pointer (some ⟨R, 0, none⟩), t6, t7, .int .i64 (i : Int), t9, .string lb, t11, t12, t13, t14, t15, t16, t17, t18, t19, t20, t21, t22, t23, t24, t25, t26, t27, t28, t29, t30, t31, t32, t33, t34, t35, t36, t37, t38, t39, t40, t41, t42, t43, t44, t45, t46, t47, t48, t49, t50, t51, t52, t53, t54, t55, t56, t57, t58, t59, t60, t61, t62, t63, t64, t65, t66, t67, t68, .pointer (some ⟨R, 5, none⟩), .slice a2 ls.length c2, .string lb, .slice (some ⟨p1, 0, none⟩) 1 1, .slice x1 (ls.length + 1) y1, .pointer (some ⟨R, 6, none⟩), .slice a3 ats.length c3, .int .i64 (i : Int), .int .i64 ((i : Int) + 1), t78, t79, .pointer (some ⟨R, 5, none⟩), t81, t82, t83, t84, t85, t86], defers := ds } W := by
 have r5 := N.cell 5 rfl
 have r6 := N.cell 6 rfl
 refine wpAnyH_ready (rs := [9]) (by kernel_rfl) (by simp) ?_
 refine AllReadyH.cons rfl (fun K hK => ?_) ?_
 · go_simp
   exact hK.out _ _ trivial (fun _ => mr_1111101 hR hl hQ hP (kW.trans_below (below_alloc W _) kW.size) (N.below (below_alloc W _) N.lt) (oL.alloc _) (oA.alloc _) (boxA_new W _ _))
 exact AllReadyH.nil

set_option maxRecDepth 100000 in
set_option maxHeartbeats 16000000 in
theorem mr_1111000 (hR : R < base) (hl : ls.length ≤ 100000 ∧ ats.length ≤ 100000) (hQ : ∀ (p1 p2 : Nat) (x1 x2 : Option Addr) (y1 y2 : Nat) (W : World), BoxA W R 36 (fnV nm rs lf rt lo (.slice x1 (ls.length + 1) y1) (.slice x2 (ats.length + 1) y2) li false) → OwS base W (.slice x1 (ls.length + 1) y1) (ls ++ [lb]) → OwI base W (.slice x2 (ats.length + 1) y2) (ats ++ [((i : Int) + 1)]) → KL base R R wc W → Q .normal { tmps := #[t0, t1, t2, t3, t4, .pointer (some ⟨R, 0, none⟩), t6, t7, .int .i64 (i : Int), t9, .string lb, t11, t12, t13, t14, t15, t16, t17, t18, t19, t20, t21, t22, t23, t24, t25, t26, t27, t28, t29, t30, t31, t32, t33, t34, t35, t36, t37, t38, t39, t40, t41, t42, t43, t44, t45, t46, t47, t48, t49, t50, t51, t52, t53, t54, t55, t56, t57, t58, t59, t60, t61, t62, t63, t64, t65, t66, t67, t68, .pointer (some ⟨R, 5, none⟩), .slice a2 ls.length c2, .string lb, .slice (some ⟨p1, 0, none⟩) 1 1, .slice x1 (ls.length + 1) y1, .pointer (some ⟨R, 6, none⟩), .slice a3 ats.length c3, .int .i64 (i : Int), .int .i64 ((i : Int) + 1), .slice (some ⟨p2, 0, none⟩) 1 1, .slice x2 (ats.length + 1) y2, .pointer (some ⟨R, 5, none⟩), .pointer (some ⟨R, 6, none⟩), t82, t83, t84, t85, t86], defers := ds } W) (hP : ∀ c a d x w, Q (.panic c) (Act.put a d x) w → Q (.panic c) a w) (kW : KL base R R wc W) (N : BoxA W R 36 (fnV nm rs lf rt lo (.slice a2 ls.length c2) (.slice a3 ats.length c3) li false)) (oL : OwS base W (.slice x1 (ls.length + 1) y1) (ls ++ [lb])) (oA : OwI base W (.slice a3 ats.length c3) ats) :
    wpAnyH Tryz.prog .any mops Q (fun _ => True) 6 #[true, true, true, true, true, true, true, true, true, false, false, false, false, false, false] { tmps := #[t0, t1, t2, t3, t4, .pointer (some ⟨R, 0, none⟩), t6, t7, .int .i64 (i : Int), t9, .string lb, t11, t12, t13, t14, t15, t16, t17, t18, t19, t20, t21, t22, t23, t24, t25, t26, t27, t28, t29, t30, t31, t32, t33, t34, t35, t36, t37, t38, t39, t40, t41, t42, t43, t44, t45, t46, t47, t48, t49, t50, t51, t52, t53, t54, t55, t56, t57, t58, t59, t60, t61, t62, t63, t64, t65, t66, t67, t68, .pointer (some ⟨R, 5, none⟩), .slice a2 ls.length c2, .string lb, .slice (some ⟨p1, 0, none⟩) 1 1, .slice x1 (ls.length + 1) y1, .pointer (some ⟨R, 6, none⟩), .slice a3 ats.length c3, .int .i64 (i : Int), .int .i64 ((i : Int) + 1), t78, t79, t80, t81, t82, t83, t84, t85, t86], defers := ds } W := by
 refine wpAnyH_take (i := 11) (v := .pointer (some ⟨R, 5, none⟩)) rfl (by kernel_rfl) (by kernel_rfl) (by kernel_rfl) (fun c a w h => hP c a _ _ w h) (Or.inl ⟨by rfl, (by intro w hSw; go_simp)⟩) trivial ?_
 simp only [Act.put, List.setIfInBounds_toArray, List.set_cons_zero, List.set_cons_succ]
 exact mr_1111001 hR hl hQ hP (kW) (N) (oL) (oA)

set_option maxRecDepth 100000 in
set_option maxHeartbeats 16000000 in
theorem mr_1111100 (hR : R < base) (hl : ls.length ≤ 100000 ∧ ats.length ≤ 100000) (hQ : ∀ (p1 p2 : Nat) (x1 x2 : Option Addr) (y1 y2 : Nat) (W : World), BoxA W R 36 (fnV nm rs lf rt lo (.slice x1 (ls.length + 1) y1) (.slice x2 (ats.length + 1) y2) li false) → OwS base W (.slice x1 (ls.length + 1) y1) (ls ++ [lb]) → OwI base W (.slice x2 (ats.length + 1) y2) (ats ++ [((i : Int) + 1)]) → KL base R R wc W → Q .normal { tmps := #[t0, t1, t2, t3, t4, .pointer (some ⟨R, 0, none⟩), t6, t7, .int .i64 (i : Int), t9, .string lb, t11, t12, t13, t14, t15, t16, t17, t18, t19, t20, t21, t22, t23, t24, t25, t26, t27, t28, t29, t30, t31, t32, t33, t34, t35, t36, t37, t38, t39, t40, t41, t42, t43, t44, t45, t46, t47, t48, t49, t50, t51, t52, t53, t54, t55, t56, t57, t58, t59, t60, t61, t62, t63, t64, t65, t66, t67, t68, .pointer (some ⟨R, 5, none⟩), .slice a2 ls.length c2, .string lb, .slice (some ⟨p1, 0, none⟩) 1 1, .slice x1 (ls.length + 1) y1, .pointer (some ⟨R, 6, none⟩), .slice a3 ats.length c3, .int .i64 (i : Int), .int .i64 ((i : Int) + 1), .slice (some ⟨p2, 0, none⟩) 1 1, .slice x2 (ats.length + 1) y2, .pointer (some ⟨R, 5, none⟩), .pointer (some ⟨R, 6, none⟩), t82, t83, t84, t85, t86], defers := ds } W) (hP : ∀ c a d x w, Q (.panic c) (Act.put a d x) w → Q (.panic c) a w) (kW : KL base R R wc W) (N : BoxA W R 36 (fnV nm rs lf rt lo (.slice a2 ls.length c2) (.slice a3 ats.length c3) li false)) (oL : OwS base W (.slice x1 (ls.length + 1) y1) (ls ++ [lb])) (oA : OwI base W (.slice a3 ats.length c3) ats) (q2 : BoxA W p2 3 #[.int .i64 ((i : Int) + 1)]) :
    wpAnyH Tryz.prog .any mops Q (fun _ => True) 5 #[true, true, true, true, true, true, true, true, true, true, false, false, false, false, false] { tmps := #[t0, t1, t2, t3, t4, .pointer (some ⟨R, 0, none⟩), t6, t7, .int .i64 (i : Int), t9, .string lb, t11, t12, t13, t14, t15, t16, t17, t18, t19, t20, t21, t22, t23, t24, t25, t26, t27, t28, t29, t30, t31, t32, t33, t34, t35, t36, t37, t38, t39, t40, t41, t42, t43, t44, t45, t46, t47, t48, t49, t50, t51, t52, t53, t54, t55, t56, t57, t58, t59, t60, t61, t62, t63, t64, t65, t66, t67, t68, .pointer (some ⟨R, 5, none⟩), .slice a2 ls.length c2, .string lb, .slice (some ⟨p1, 0, none⟩) 1 1, .slice x1 (ls.length + 1) y1, .pointer (some ⟨R, 6, none⟩), .slice a3 ats.length c3, .int .i64 (i : Int), .int .i64 ((i : Int) + 1), .slice (some ⟨p2, 0, none⟩) 1 1, t79, t80, t81, t82, t83, t84, t85, t86], defers := ds } W := by
 refine wpAnyH_take (i := 11) (v := .pointer (some ⟨R, 5, none⟩)) rfl (by kernel_rfl) (by kernel_rfl) (by kernel_rfl) (fun c a w h => hP c a _ _ w h) (Or.inl ⟨by rfl, (by intro w hSw; go_simp)⟩) trivial ?_
 simp only [Act.put, List.setIfInBounds_toArray, List.set_cons_zero, List.set_cons_succ]
 exact mr_1111101 hR hl hQ hP (kW) (N) (oL) (oA) (q2)

set_option maxRecDepth 100000 in
set_option maxHeartbeats 16000000 in
theorem mr_1110100 (hR : R < base) (hl : ls.length ≤ 100000 ∧ ats.length ≤ 100000) (hQ : ∀ (p1 p2 : Nat) (x1 x2 : Option Addr) (y1 y2 : Nat) (W : World), BoxA W R 36 (fnV nm rs lf rt lo (.slice x1 (ls.length + 1) y1) (.slice x2 (ats.length + 1) y2) li false) → OwS base W (.slice x1 (ls.length + 1) y1) (ls ++ [lb]) → OwI base W (.slice x2 (ats.length + 1) y2) (ats ++ [((i : Int) + 1)]) → KL base R R wc W → Q .normal { tmps := #[t0, t1, t2, t3, t4, .pointer (some ⟨R, 0, none⟩), t6, t7, .int .i64 (i : Int), t9, .string lb, t11, t12, t13, t14, t15, t16, t17, t18, t19, t20, t21, t22, t23, t24, t25, t26, t27, t28, t29, t30, t31, t32, t33, t34, t35, t36, t37, t38, t39, t40, t41, t42, t43, t44, t45, t46, t47, t48, t49, t50, t51, t52, t53, t54, t55, t56, t57, t58, t59, t60, t61, t62, t63, t64, t65, t66, t67, t68, .pointer (some ⟨R, 5, none⟩), .slice a2 ls.length c2, .string lb, .slice (some ⟨p1, 0, none⟩) 1 1, .slice x1 (ls.length + 1) y1, .pointer (some ⟨R, 6, none⟩), .slice a3 ats.length c3, .int .i64 (i : Int), .int .i64 ((i : Int) + 1), .slice (some ⟨p2, 0, none⟩) 1 1, .slice x2 (ats.length + 1) y2, .pointer (some ⟨R, 5, none⟩), .pointer (some ⟨R, 6, none⟩), t82, t83, t84, t85, t86], defers := ds } W) (hP : ∀ c a d x w, Q (.panic c) (Act.put a d x) w → Q (.panic c) a w) (kW : KL base R R wc W) (N : BoxA W R 36 (fnV nm rs lf rt lo (.slice a2 ls.length c2) (.slice a3 ats.length c3) li false)) (oL : OwS base W (.slice x1 (ls.length + 1) y1) (ls ++ [lb])) (oA : OwI base W (.slice a3 ats.length c3) ats) (q2 : BoxA W p2 3 #[.int .i64 ((i : Int) + 1)]) :
    wpAnyH Tryz.prog .any mops Q (fun _ => True) 6 #[true, true, true, true, true, true, false, true, true, true, false, false, false, false, false] { tmps := #[t0, t1, t2, t3, t4, .pointer (some ⟨R, 0, none⟩), t6, t7, .int .i64 (i : Int), t9, .string lb, t11, t12, t13, t14, t15, t16, t17, t18, t19, t20, t21, t22, t23, t24, t25, t26, t27, t28, t29, t30, t31, t32, t33, t34, t35, t36, t37, t38, t39, t40, t41, t42, t43, t44, t45, t46, t47, t48, t49, t50, t51, t52, t53, t54, t55, t56, t57, t58, t59, t60, t61, t62, t63, t64, t65, t66, t67, t68, .pointer (some ⟨R, 5, none⟩), .slice a2 ls.length c2, .string lb, .slice (some ⟨p1, 0, none⟩) 1 1, .slice x1 (ls.length + 1) y1, .pointer (some ⟨R, 6, none⟩), t75, .int .i64 (i : Int), .int .i64 ((i : Int) + 1), .slice (some ⟨p2, 0, none⟩) 1 1, t79, t80, t81, t82, t83, t84, t85, t86], defers := ds } W := by
 have r5 := N.cell 5 rfl
 have r6 := N.cell 6 rfl
 refine wpAnyH_ready (rs := [6]) (by kernel_rfl) (by simp) ?_
 refine AllReadyH.cons rfl (fun K hK => ?_) ?_
 · go_simp
   exact hK.out _ _ trivial (fun _ => mr_1111100 hR hl hQ hP (kW) (N) (oL) (oA) (q2))
 exact AllReadyH.nil

set_option maxRecDepth 100000 in
set_option maxHeartbeats 16000000 in
theorem mr_1110000 (hR : R < base) (hl : ls.length ≤ 100000 ∧ ats.length ≤ 100000) (hQ : ∀ (p1 p2 : Nat) (x1 x2 : Option Addr) (y1 y2 : Nat) (W : World), BoxA W R 36 (fnV nm rs lf rt lo (.slice x1 (ls.length + 1) y1) (.slice x2 (ats.length + 1) y2) li false) → OwS base W (.slice x1 (ls.length + 1) y1) (ls ++ [lb]) → OwI base W (.slice x2 (ats.length + 1) y2) (ats ++ [((i : Int) + 1)]) → KL base R R wc W → Q .normal { tmps := #[t0, t1, t2, t3, t4, .pointer (some ⟨R, 0, none⟩), t6, t7, .int .i64 (i : Int), t9, .string lb, t11, t12, t13, t14, t15, t16, t17, t18, t19, t20, t21, t22, t23, t24, t25, t26, t27, t28, t29, t30, t31, t32, t33, t34, t35, t36, t37, t38, t39, t40, t41, t42, t43, t44, t45, t46, t47, t48, t49, t50, t51, t52, t53, t54, t55, t56, t57, t58, t59, t60, t61, t62, t63, t64, t65, t66, t67, t68, .pointer (some ⟨R, 5, none⟩), .slice a2 ls.length c2, .string lb, .slice (some ⟨p1, 0, none⟩) 1 1, .slice x1 (ls.length + 1) y1, .pointer (some ⟨R, 6, none⟩), .slice a3 ats.length c3, .int .i64 (i : Int), .int .i64 ((i : Int) + 1), .slice (some ⟨p2, 0, none⟩) 1 1, .slice x2 (ats.length + 1) y2, .pointer (some ⟨R, 5, none⟩), .pointer (some ⟨R, 6, none⟩), t82, t83, t84, t85, t86], defers := ds } W) (hP : ∀ c a d x w, Q (.panic c) (Act.put a d x) w → Q (.panic c) a w) (kW : KL base R R wc W) (N : BoxA W R 36 (fnV nm rs lf rt lo (.slice a2 ls.length c2) (.slice a3 ats.length c3) li false)) (oL : OwS base W (.slice x1 (ls.length + 1) y1) (ls ++ [lb])) (oA : OwI base W (.slice a3 ats.length c3) ats) :
    wpAnyH Tryz.prog .any mops Q (fun _ => True) 7 #[true, true, true, true, true, true, false, true, true, false, false, false, false, false, false] { tmps := #[t0, t1, t2, t3, t4, .pointer (some ⟨R, 0, none⟩), t6, t7, .int .i64 (i : Int), t9, .string lb, t11, t12, t13, t14, t15, t16, t17, t18, t19, t20, t21, t22, t23, t24, t25, t26, t27, t28, t29, t30, t31, t32, t33, t34, t35, t36, t37, t38, t39, t40, t41, t42, t43, t44, t45, t46, t47, t48, t49, t50, t51, t52, t53, t54, t55, t56, t57, t58, t59, t60, t61, t62, t63, t64, t65, t66, t67, t68, .pointer (some ⟨R, 5, none⟩), .slice a2 ls.length c2, .string lb, .slice (some ⟨p1, 0, none⟩) 1 1, .slice x1 (ls.length + 1) y1, .pointer (some ⟨R, 6, none⟩), t75, .int .i64 (i : Int), .int .i64 ((i : Int) + 1), t78, t79, t80, t81, t82, t83, t84, t85, t86], defers := ds } W := by
 have r5 := N.cell 5 rfl
 have r6 := N.cell 6 rfl
 refine wpAnyH_ready (rs := [6, 9]) (by kernel_rfl) (by simp) ?_
 refine AllReadyH.cons rfl (fun K hK => ?_) ?_
 · go_simp
   exact hK.out _ _ trivial (fun _ => mr_1111000 hR hl hQ hP (kW) (N) (oL) (oA))
 refine AllReadyH.cons rfl (fun K hK => ?_) ?_
 · go_simp
   exact hK.out _ _ trivial (fun _ => mr_1110100 hR hl hQ hP (kW.trans_below (below_alloc W _) kW.size) (N.below (below_alloc W _) N.lt) (oL.alloc _) (oA.alloc _) (boxA_new W _ _))
 exact AllReadyH.nil

set_option maxRecDepth 100000 in
set_option maxHeartbeats 16000000 in
theorem mr_1101100 (hR : R < base) (hl : ls.length ≤ 100000 ∧ ats.length ≤ 100000) (hQ : ∀ (p1 p2 : Nat) (x1 x2 : Option Addr) (y1 y2 : Nat) (W : World), BoxA W R 36 (fnV nm rs lf rt lo (.slice x1 (ls.length + 1) y1) (.slice x2 (ats.length + 1) y2) li false) → OwS base W (.slice x1 (ls.length + 1) y1) (ls ++ [lb]) → OwI base W (.slice x2 (ats.length + 1) y2) (ats ++ [((i : Int) + 1)]) → KL base R R wc W → Q .normal { tmps := #[t0, t1, t2, t3, t4, .pointer (some ⟨R, 0, none⟩), t6, t7, .int .i64 (i : Int), t9, .string lb, t11, t12, t13, t14, t15, t16, t17, t18, t19, t20, t21, t22, t23, t24, t25, t26, t27, t28, t29, t30, t31, t32, t33, t34, t35, t36, t37, t38, t39, t40, t41, t42, t43, t44, t45, t46, t47, t48, t49, t50, t51, t52, t53, t54, t55, t56, t57, t58, t59, t60, t61, t62, t63, t64, t65, t66, t67, t68, .pointer (some ⟨R, 5, none⟩), .slice a2 ls.length c2, .string lb, .slice (some ⟨p1, 0, none⟩) 1 1, .slice x1 (ls.length + 1) y1, .pointer (some ⟨R, 6, none⟩), .slice a3 ats.length c3, .int .i64 (i : Int), .int .i64 ((i : Int) + 1), .slice (some ⟨p2, 0, none⟩) 1 1, .slice x2 (ats.length + 1) y2, .pointer (some ⟨R, 5, none⟩), .pointer (some ⟨R, 6, none⟩), t82, t83, t84, t85, t86], defers := ds } W) (hP : ∀ c a d x w, Q (.panic c) (Act.put a d x) w → Q (.panic c) a w) (kW : KL base R R wc W) (N : BoxA W R 36 (fnV nm rs lf rt lo (.slice a2 ls.length c2) (.slice a3 ats.length c3) li false)) (oL : OwS base W (.slice a2 ls.length c2) ls) (oA : OwI base W (.slice a3 ats.length c3) ats) (q1 : RdS (p1 + 1) W (.slice (some ⟨p1, 0, none⟩) 1 1) [lb]) (h1 : p1 < W.heap.size) (q2 : BoxA W p2 3 #[.int .i64 ((i : Int) + 1)]) (h2 : (Value.slice a2 ls.length c2).ownBlock ≠ some p2) :
    wpAnyH Tryz.prog .any mops Q (fun _ => True) 6 #[true, true, true, true, false, true, true, true, true, true, false, false, false, false, false] { tmps := #[t0, t1, t2, t3, t4, .pointer (some ⟨R, 0, none⟩), t6, t7, .int .i64 (i : Int), t9, .string lb, t11, t12, t13, t14, t15, t16, t17, t18, t19, t20, t21, t22, t23, t24, t25, t26, t27, t28, t29, t30, t31, t32, t33, t34, t35, t36, t37, t38, t39, t40, t41, t42, t43, t44, t45, t46, t47, t48, t49, t50, t51, t52, t53, t54, t55, t56, t57, t58, t59, t60, t61, t62, t63, t64, t65, t66, t67, t68, .pointer (some ⟨R, 5, none⟩), .slice a2 ls.length c2, .string lb, .slice (some ⟨p1, 0, none⟩) 1 1, t73, .pointer (some ⟨R, 6, none⟩), .slice a3 ats.length c3, .int .i64 (i : Int), .int .i64 ((i : Int) + 1), .slice (some ⟨p2, 0, none⟩) 1 1, t79, t80, t81, t82, t83, t84, t85, t86], defers := ds } W := by
 have r5 := N.cell 5 rfl
 have r6 := N.cell 6 rfl
 refine wpAnyH_ready (rs := [4]) (by kernel_rfl) (by simp) ?_
 refine AllReadyH.cons rfl (fun K hK => ?_) ?_
 · refine step_append_strs (base := base) (xs := ls) (ys := [lb]) (by rfl) _ _ (by rfl) (by rfl) (by rfl) oL q1 (Nat.zero_lt_succ _) (by show (_ + 1) * 16 ≤ _; omega) kW.size ?_
   intro v' W' hO hgr
   obtain ⟨x1, y1, rfl⟩ := (show ∃ a c, v' = .slice a (ls.length + 1) c from by obtain ⟨a, c, e⟩ := row_form2S hO; exact ⟨a, c, by rw [e]; simp⟩)
   exact hK.out _ _ trivial (fun _ => mr_1111100 hR hl hQ hP (kW.grown hgr (fun k hk => (oL.lt k hk).1)) (N.grownF hgr (fun e => by have := (oL.lt _ e).1; omega)) (hO) (oA.kept hgr (own_types2 oA oL)) (q2.grownF hgr h2))
 exact AllReadyH.nil

set_option maxRecDepth 100000 in
set_option maxHeartbeats 16000000 in
theorem mr_1101000 (hR : R < base) (hl : ls.length ≤ 100000 ∧ ats.length ≤ 100000) (hQ : ∀ (p1 p2 : Nat) (x1 x2 : Option Addr) (y1 y2 : Nat) (W : World), BoxA W R 36 (fnV nm rs lf rt lo (.slice x1 (ls.length + 1) y1) (.slice x2 (ats.length + 1) y2) li false) → OwS base W (.slice x1 (ls.length + 1) y1) (ls ++ [lb]) → OwI base W (.slice x2 (ats.length + 1) y2) (ats ++ [((i : Int) + 1)]) → KL base R R wc W → Q .normal { tmps := #[t0, t1, t2, t3, t4, .pointer (some ⟨R, 0, none⟩), t6, t7, .int .i64 (i : Int), t9, .string lb, t11, t12, t13, t14, t15, t16, t17, t18, t19, t20, t21, t22, t23, t24, t25, t26, t27, t28, t29, t30, t31, t32, t33, t34, t35, t36, t37, t38, t39, t40, t41, t42, t43, t44, t45, t46, t47, t48, t49, t50, t51, t52, t53, t54, t55, t56, t57, t58, t59, t60, t61, t62, t63, t64, t65, t66, t67, t68, .pointer (some ⟨R, 5, none⟩), .slice a2 ls.length c2, .string lb, .slice (some ⟨p1, 0, none⟩) 1 1, .slice x1 (ls.length + 1) y1, .pointer (some ⟨R, 6, none⟩), .slice a3 ats.length c3, .int .i64 (i : Int), .int .i64 ((i : Int) + 1), .slice (some ⟨p2, 0, none⟩) 1 1, .slice x2 (ats.length + 1) y2, .pointer (some ⟨R, 5, none⟩), .pointer (some ⟨R, 6, none⟩), t82, t83, t84, t85, t86], defers := ds } W) (hP : ∀ c a d x w, Q (.panic c) (Act.put a d x) w → Q (.panic c) a w) (kW : KL base R R wc W) (N : BoxA W R 36 (fnV nm rs lf rt lo (.slice a2 ls.length c2) (.slice a3 ats.length c3) li false)) (oL : OwS base W (.slice a2 ls.length c2) ls) (oA : OwI base W (.slice a3 ats.length c3) ats) (q1 : RdS (p1 + 1) W (.slice (some ⟨p1, 0, none⟩) 1 1) [lb]) (h1 : p1 < W.heap.size) :
    wpAnyH Tryz.prog .any mops Q (fun _ => True) 7 #[true, true, true, true, false, true, true, true, true, false, false, false, false, false, false] { tmps := #[t0, t1, t2, t3, t4, .pointer (some ⟨R, 0, none⟩), t6, t7, .int .i64 (i : Int), t9, .string lb, t11, t12, t13, t14, t15, t16, t17, t18, t19, t20, t21, t22, t23, t24, t25, t26, t27, t28, t29, t30, t31, t32, t33, t34, t35, t36, t37, t38, t39, t40, t41, t42, t43, t44, t45, t46, t47, t48, t49, t50, t51, t52, t53, t54, t55, t56, t57, t58, t59, t60, t61, t62, t63, t64, t65, t66, t67, t68, .pointer (some ⟨R, 5, none⟩), .slice a2 ls.length c2, .string lb, .slice (some ⟨p1, 0, none⟩) 1 1, t73, .pointer (some ⟨R, 6, none⟩), .slice a3 ats.length c3, .int .i64 (i : Int), .int .i64 ((i : Int) + 1), t78, t79, t80, t81, t82, t83, t84, t85, t86], defers := ds } W := by
 have r5 := N.cell 5 rfl
 have r6 := N.cell 6 rfl
 refine wpAnyH_ready (rs := [4, 9]) (by kernel_rfl) (by simp) ?_
 refine AllReadyH.cons rfl (fun K hK => ?_) ?_
 · refine step_append_strs (base := base) (xs := ls) (ys := [lb]) (by rfl) _ _ (by rfl) (by rfl) (by rfl) oL q1 (Nat.zero_lt_succ _) (by show (_ + 1) * 16 ≤ _; omega) kW.size ?_
   intro v' W' hO hgr
   obtain ⟨x1, y1, rfl⟩ := (show ∃ a c, v' = .slice a (ls.length + 1) c from by obtain ⟨a, c, e⟩ := row_form2S hO; exact ⟨a, c, by rw [e]; simp⟩)
   exact hK.out _ _ trivial (fun _ => mr_1111000 hR hl hQ hP (kW.grown hgr (fun k hk => (oL.lt k hk).1)) (N.grownF hgr (fun e => by have := (oL.lt _ e).1; omega)) (hO) (oA.kept hgr (own_types2 oA oL)))
 refine AllReadyH.cons rfl (fun K hK => ?_) ?_
 · go_simp
   exact hK.out _ _ trivial (fun _ => mr_1101100 hR hl hQ hP (kW.trans_below (below_alloc W _) kW.size) (N.below (below_alloc W _) N.lt) (oL.alloc _) (oA.alloc _) (q1.below (below_alloc W _) h1) (by simp; omega) (boxA_new W _ _) (fun e => by have := (oL.lt _ e).2; omega))
 exact AllReadyH.nil

set_option maxRecDepth 100000 in
set_option maxHeartbeats 16000000 in
theorem mr_1100100 (hR : R < base) (hl : ls.length ≤ 100000 ∧ ats.length ≤ 100000) (hQ : ∀ (p1 p2 : Nat) (x1 x2 : Option Addr) (y1 y2 : Nat) (W : World), BoxA W R 36 (fnV nm rs lf rt lo (.slice x1 (ls.length + 1) y1) (.slice x2 (ats.length + 1) y2) li false) → OwS base W (.slice x1 (ls.length + 1) y1) (ls ++ [lb]) → OwI base W (.slice x2 (ats.length + 1) y2) (ats ++ [((i : Int) + 1)]) → KL base R R wc W → Q .normal { tmps := #[t0, t1, t2, t3, t4, .pointer (some ⟨R, 0, none⟩), t6, t7, .int .i64 (i : Int), t9, .string lb, t11, t12, t13, t14, t15, t16, t17, t18, t19, t20, t21, t22, t23, t24, t25, t26, t27, t28, t29, t30, t31, t32, t33, t34, t35, t36, t37, t38, t39, t40, t41, t42, t43, t44, t45, t46, t47, t48, t49, t50, t51, t52, t53, t54, t55, t56, t57, t58, t59, t60, t61, t62, t63, t64, t65, t66, t67, t68, .pointer (some ⟨R, 5, none⟩), .slice a2 ls.length c2, .string lb, .slice (some ⟨p1, 0, none⟩) 1 1, .slice x1 (ls.length + 1) y1, .pointer (some ⟨R, 6, none⟩), .slice a3 ats.length c3, .int .i64 (i : Int), .int .i64 ((i : Int) + 1), .slice (some ⟨p2, 0, none⟩) 1 1, .slice x2 (ats.length + 1) y2, .pointer (some ⟨R, 5, none⟩), .pointer (some ⟨R, 6, none⟩), t82, t83, t84, t85, t86], defers := ds } W) (hP : ∀ c a d x w, Q (.panic c) (Act.put a d x) w → Q (.panic c) a w) (kW : KL base R R wc W) (N : BoxA W R 36 (fnV nm rs lf rt lo (.slice a2 ls.length c2) (.slice a3 ats.length c3) li false)) (oL : OwS base W (.slice a2 ls.length c2) ls) (oA : OwI base W (.slice a3 ats.length c3) ats) (q1 : RdS (p1 + 1) W (.slice (some ⟨p1, 0, none⟩) 1 1) [lb]) (h1 : p1 < W.heap.size) (q2 : BoxA W p2 3 #[.int .i64 ((i : Int) + 1)]) (h2 : (Value.slice a2 ls.length c2).ownBlock ≠ some p2) :
    wpAnyH Tryz.prog .any mops Q (fun _ => True) 7 #[true, true, true, true, false, true, false, true, true, true, false, false, false, false, false] { tmps := #[t0, t1, t2, t3, t4, .pointer (some ⟨R, 0, none⟩), t6, t7, .int .i64 (i : Int), t9, .string lb, t11, t12, t13, t14, t15, t16, t17, t18, t19, t20, t21, t22, t23, t24, t25, t26, t27, t28, t29, t30, t31, t32, t33, t34, t35, t36, t37, t38, t39, t40, t41, t42, t43, t44, t45, t46, t47, t48, t49, t50, t51, t52, t53, t54, t55, t56, t57, t58, t59, t60, t61, t62, t63, t64, t65, t66, t67, t68, .pointer (some ⟨R, 5, none⟩), .slice a2 ls.length c2, .string lb, .slice (some ⟨p1, 0, none⟩) 1 1, t73, .pointer (some ⟨R, 6, none⟩), t75, .int .i64 (i : Int), .int .i64 ((i : Int) + 1), .slice (some ⟨p2, 0, none⟩) 1 1, t79, t80, t81, t82, t83, t84, t85, t86], defers := ds } W := by
 have r5 := N.cell 5 rfl
 have r6 := N.cell 6 rfl
 refine wpAnyH_ready (rs := [4, 6]) (by kernel_rfl) (by simp) ?_
 refine AllReadyH.cons rfl (fun K hK => ?_) ?_
 · refine step_append_strs (base := base) (xs := ls) (ys := [lb]) (by rfl) _ _ (by rfl) (by rfl) (by rfl) oL q1 (Nat.zero_lt_succ _) (by show (_ + 1) * 16 ≤ _; omega) kW.size ?_
   intro v' W' hO hgr
   obtain ⟨x1, y1, rfl⟩ := (show ∃ a c, v' = .slice a (ls.length + 1) c from by obtain ⟨a, c, e⟩ := row_form2S hO; exact ⟨a, c, by rw [e]; simp⟩)
   exact hK.out _ _ trivial (fun _ => mr_1110100 hR hl hQ hP (kW.grown hgr (fun k hk => (oL.lt k hk).1)) (N.grownF hgr (fun e => by have := (oL.lt _ e).1; omega)) (hO) (oA.kept hgr (own_types2 oA oL)) (q2.grownF hgr h2))
 refine AllReadyH.cons rfl (fun K hK => ?_) ?_
 · go_simp
   exact hK.out _ _ trivial (fun _ => mr_1101100 hR hl hQ hP (kW) (N) (oL) (oA) (q1) (h1) (q2) (h2))
 exact AllReadyH.nil

set_option maxRecDepth 100000 in
set_option maxHeartbeats 16000000 in
theorem mr_1100000 (hR : R < base) (hl : ls.length ≤ 100000 ∧ ats.length ≤ 100000) (hQ : ∀ (p1 p2 : Nat) (x1 x2 : Option Addr) (y1 y2 : Nat) (W : World), BoxA W R 36 (fnV nm rs lf rt lo (.slice x1 (ls.length + 1) y1) (.slice x2 (ats.length + 1) y2) li false) → OwS base W (.slice x1 (ls.length + 1) y1) (ls ++ [lb]) → OwI base W (.slice x2 (ats.length + 1) y2) (ats ++ [((i : Int) + 1)]) → KL base R R wc W → Q .normal { tmps := #[t0, t1, t2, t3, t4, .pointer (some ⟨R, 0, none⟩), t6, t7, .int .i64 (i : Int), t9, .string lb, t11, t12, t13, t14, t15, t16, t17, t18, t19, t20, t21, t22, t23, t24, t25, t26, t27, t28, t29, t30, t31, t32, t33, t34, t35, t36, t37, t38, t39, t40, t41, t42, t43, t44, t45, t46, t47, t48, t49, t50, t51, t52, t53, t54, t55, t56, t57, t58, t59, t60, t61, t62, t63, t64, t65, t66, t67, t68, .pointer (some ⟨R, 5, none⟩), .slice a2 ls.length c2, .string lb, .slice (some ⟨p1, 0, none⟩) 1 1, .slice x1 (ls.length + 1) y1, .pointer (some ⟨R, 6, none⟩), .slice a3 ats.length c3, .int .i64 (i : Int), .int .i64 ((i : Int) + 1), .slice (some ⟨p2, 0, none⟩) 1 1, .slice x2 (ats.length + 1) y2, .pointer (some ⟨R, 5, none⟩), .pointer (some ⟨R, 6, none⟩), t82, t83, t84, t85, t86], defers := ds } W) (hP : ∀ c a d x w, Q (.panic c) (Act.put a d x) w → Q (.panic c) a w) (kW : KL base R R wc W) (N : BoxA W R 36 (fnV nm rs lf rt lo (.slice a2 ls.length c2) (.slice a3 ats.length c3) li false)) (oL : OwS base W (.slice a2 ls.length c2) ls) (oA : OwI base W (.slice a3 ats.length c3) ats) (q1 : RdS (p1 + 1) W (.slice (some ⟨p1, 0, none⟩) 1 1) [lb]) (h1 : p1 < W.heap.size) :
    wpAnyH Tryz.prog .any mops Q (fun _ => True) 8 #[true, true, true, true, false, true, false, true, true, false, false, false, false, false, false] { tmps := #[t0, t1, t2, t3, t4, .pointer (some ⟨R, 0, none⟩), t6, t7, .int .i64 (i : Int), t9, .string lb, t11, t12, t13, t14, t15, t16, t17, t18, t19, t20, t21, t22, t23, t24, t25, t26, t27, t28, t29, t30, t31, t32, t33, t34, t35, t36, t37, t38, t39, t40, t41, t42, t43, t44, t45, t46, t47, t48, t49, t50, t51, t52, t53, t54, t55, t56, t57, t58, t59, t60, t61, t62, t63, t64, t65, t66, t67, t68, .pointer (some ⟨R, 5, none⟩), .slice a2 ls.length c2, .string lb, .slice (some ⟨p1, 0, none⟩) 1 1, t73, .pointer (some ⟨R, 6, none⟩), t75, .int .i64 (i : Int), .int .i64 ((i : Int) + 1), t78, t79, t80, t81, t82, t83, t84, t85, t86], defers := ds } W := by
 have r5 := N.cell 5 rfl
 have r6 := N.cell 6 rfl
 refine wpAnyH_ready (rs := [4, 6, 9]) (by kernel_rfl) (by simp) ?_
 refine AllReadyH.cons rfl (fun K hK => ?_) ?_
 · refine step_append_strs (base := base) (xs := ls) (ys := [lb]) (by rfl) _ _ (by rfl) (by rfl) (by rfl) oL q1 (Nat.zero_lt_succ _) (by show (_ + 1) * 16 ≤ _; omega) kW.size ?_
   intro v' W' hO hgr
   obtain ⟨x1, y1, rfl⟩ := (show ∃ a c, v' = .slice a (ls.length + 1) c from by obtain ⟨a, c, e⟩ := row_form2S hO; exact ⟨a, c, by rw [e]; simp⟩)
   exact hK.out _ _ trivial (fun _ => mr_1110000 hR hl hQ hP (kW.grown hgr (fun k hk => (oL.lt k hk).1)) (N.grownF hgr (fun e => by have := (oL.lt _ e).1; omega)) (hO) (oA.kept hgr (own_types2 oA oL)))
 refine AllReadyH.cons rfl (fun K hK => ?_) ?_
 · go_simp
   exact hK.out _ _ trivial (fun _ => mr_1101000 hR hl hQ hP (kW) (N) (oL) (oA) (q1) (h1))
 refine AllReadyH.cons rfl (fun K hK => ?_) ?_
 · go_simp
   exact hK.out _ _ trivial (fun _ => mr_1100100 hR hl hQ hP (kW.trans_below (below_alloc W _) kW.size) (N.below (below_alloc W _) N.lt) (oL.alloc _) (oA.alloc _) (q1.below (below_alloc W _) h1) (by simp; omega) (boxA_new W _ _) (fun e => by have := (oL.lt _ e).2; omega))
 exact AllReadyH.nil

set_option maxRecDepth 100000 in
set_option maxHeartbeats 16000000 in
theorem mr_1001100 (hR : R < base) (hl : ls.length ≤ 100000 ∧ ats.length ≤ 100000) (hQ : ∀ (p1 p2 : Nat) (x1 x2 : Option Addr) (y1 y2 : Nat) (W : World), BoxA W R 36 (fnV nm rs lf rt lo (.slice x1 (ls.length + 1) y1) (.slice x2 (ats.length + 1) y2) li false) → OwS base W (.slice x1 (ls.length + 1) y1) (ls ++ [lb]) → OwI base W (.slice x2 (ats.length + 1) y2) (ats ++ [((i : Int) + 1)]) → KL base R R wc W → Q .normal { tmps := #[t0, t1, t2, t3, t4, .pointer (some ⟨R, 0, none⟩), t6, t7, .int .i64 (i : Int), t9, .string lb, t11, t12, t13, t14, t15, t16, t17, t18, t19, t20, t21, t22, t23, t24, t25, t26, t27, t28, t29, t30, t31, t32, t33, t34, t35, t36, t37, t38, t39, t40, t41, t42, t43, t44, t45, t46, t47, t48, t49, t50, t51, t52, t53, t54, t55, t56, t57, t58, t59, t60, t61, t62, t63, t64, t65, t66, t67, t68, .pointer (some ⟨R, 5, none⟩), .slice a2 ls.length c2, .string lb, .slice (some ⟨p1, 0, none⟩) 1 1, .slice x1 (ls.length + 1) y1, .pointer (some ⟨R, 6, none⟩), .slice a3 ats.length c3, .int .i64 (i : Int), .int .i64 ((i : Int) + 1), .slice (some ⟨p2, 0, none⟩) 1 1, .slice x2 (ats.length + 1) y2, .pointer (some ⟨R, 5, none⟩), .pointer (some ⟨R, 6, none⟩), t82, t83, t84, t85, t86], defers := ds } W) (hP : ∀ c a d x w, Q (.panic c) (Act.put a d x) w → Q (.panic c) a w) (kW : KL base R R wc W) (N : BoxA W R 36 (fnV nm rs lf rt lo (.slice a2 ls.length c2) (.slice a3 ats.length c3) li false)) (oL : OwS base W (.slice a2 ls.length c2) ls) (oA : OwI base W (.slice a3 ats.length c3) ats) (q2 : BoxA W p2 3 #[.int .i64 ((i : Int) + 1)]) (h2 : (Value.slice a2 ls.length c2).ownBlock ≠ some p2) :
    wpAnyH Tryz.prog .any mops Q (fun _ => True) 7 #[true, true, true, false, false, true, true, true, true, true, false, false, false, false, false] { tmps := #[t0, t1, t2, t3, t4, .pointer (some ⟨R, 0, none⟩), t6, t7, .int .i64 (i : Int), t9, .string lb, t11, t12, t13, t14, t15, t16, t17, t18, t19, t20, t21, t22, t23, t24, t25, t26, t27, t28, t29, t30, t31, t32, t33, t34, t35, t36, t37, t38, t39, t40, t41, t42, t43, t44, t45, t46, t47, t48, t49, t50, t51, t52, t53, t54, t55, t56, t57, t58, t59, t60, t61, t62, t63, t64, t65, t66, t67, t68, .pointer (some ⟨R, 5, none⟩), .slice a2 ls.length c2, .string lb, t72, t73, .pointer (some ⟨R, 6, none⟩), .slice a3 ats.length c3, .int .i64 (i : Int), .int .i64 ((i : Int) + 1), .slice (some ⟨p2, 0, none⟩) 1 1, t79, t80, t81, t82, t83, t84, t85, t86], defers := ds } W := by
 have r5 := N.cell 5 rfl
 have r6 := N.cell 6 rfl
 refine wpAnyH_ready (rs := [3]) (by kernel_rfl) (by simp) ?_
 refine AllReadyH.cons rfl (fun K hK => ?_) ?_
 · go_simp
   exact hK.out _ _ trivial (fun _ => mr_1101100 hR hl hQ hP (kW.trans_below (below_alloc W _) kW.size) (N.below (below_alloc W _) N.lt) (oL.alloc _) (oA.alloc _) (rdS_new1 W lb) (by simp) (q2.below (below_alloc W _) q2.lt) (h2))
 exact AllReadyH.nil

set_option maxRecDepth 100000 in
set_option maxHeartbeats 16000000 in
theorem mr_1001000 (hR : R < base) (hl : ls.length ≤ 100000 ∧ ats.length ≤ 100000) (hQ : ∀ (p1 p2 : Nat) (x1 x2 : Option Addr) (y1 y2 : Nat) (W : World), BoxA W R 36 (fnV nm rs lf rt lo (.slice x1 (ls.length + 1) y1) (.slice x2 (ats.length + 1) y2) li false) → OwS base W (.slice x1 (ls.length + 1) y1) (ls ++ [lb]) → OwI base W (.slice x2 (ats.length + 1) y2) (ats ++ [((i : Int) + 1)]) → KL base R R wc W → Q .normal { tmps := #[t0, t1, t2, t3, t4, .pointer (some ⟨R, 0, none⟩), t6, t7, .int .i64 (i : Int), t9, .string lb, t11, t12, t13, t14, t15, t16, t17, t18, t19, t20, t21, t22, t23, t24, t25, t26, t27, t28, t29, t30, t31, t32, t33, t34, t35, t36, t37, t38, t39, t40, t41, t42, t43, t44, t45, t46, t47, t48, t49, t50, t51, t52, t53, t54, t55, t56, t57, t58, t59, t60, t61, t62, t63, t64, t65, t66, t67, t68, .pointer (some ⟨R, 5, none⟩), .slice a2 ls.length c2, .string lb, .slice (some ⟨p1, 0, none⟩) 1 1, .slice x1 (ls.length + 1) y1, .pointer (some ⟨R, 6, none⟩), .slice a3 ats.length c3, .int .i64 (i : Int), .int .i64 ((i : Int) + 1), .slice (some ⟨p2, 0, none⟩) 1 1, .slice x2 (ats.length + 1) y2, .pointer (some ⟨R, 5, none⟩), .pointer (some ⟨R, 6, none⟩), t82, t83, t84, t85, t86], defers := ds } W) (hP : ∀ c a d x w, Q (.panic c) (Act.put a d x) w → Q (.panic c) a w) (kW : KL base R R wc W) (N : BoxA W R 36 (fnV nm rs lf rt lo (.slice a2 ls.length c2) (.slice a3 ats.length c3) li false)) (oL : OwS base W (.slice a2 ls.length c2) ls) (oA : OwI base W (.slice a3 ats.length c3) ats) :
    wpAnyH Tryz.prog .any mops Q (fun _ => True) 8 #[true, true, true, false, false, true, true, true, true, false, false, false, false, false, false] { tmps := #[t0, t1, t2, t3, t4, .pointer (some ⟨R, 0, none⟩), t6, t7, .int .i64 (i : Int), t9, .string lb, t11, t12, t13, t14, t15, t16, t17, t18, t19, t20, t21, t22, t23, t24, t25, t26, t27, t28, t29, t30, t31, t32, t33, t34, t35, t36, t37, t38, t39, t40, t41, t42, t43, t44, t45, t46, t47, t48, t49, t50, t51, t52, t53, t54, t55, t56, t57, t58, t59, t60, t61, t62, t63, t64, t65, t66, t67, t68, .pointer (some ⟨R, 5, none⟩), .slice a2 ls.length c2, .string lb, t72, t73, .pointer (some ⟨R, 6, none⟩), .slice a3 ats.length c3, .int .i64 (i : Int), .int .i64 ((i : Int) + 1), t78, t79, t80, t81, t82, t83, t84, t85, t86], defers := ds } W := by
 have r5 := N.cell 5 rfl
 have r6 := N.cell 6 rfl
 refine wpAnyH_ready (rs := [3, 9]) (by kernel_rfl) (by simp) ?_
 refine AllReadyH.cons rfl (fun K hK => ?_) ?_
 · go_simp
   exact hK.out _ _ trivial (fun _ => mr_1101000 hR hl hQ hP (kW.trans_below (below_alloc W _) kW.size) (N.below (below_alloc W _) N.lt) (oL.alloc _) (oA.alloc _) (rdS_new1 W lb) (by simp))
 refine AllReadyH.cons rfl (fun K hK => ?_) ?_
 · go_simp
   exact hK.out _ _ trivial (fun _ => mr_1001100 hR hl hQ hP (kW.trans_below (below_alloc W _) kW.size) (N.below (below_alloc W _) N.lt) (oL.alloc _) (oA.alloc _) (boxA_new W _ _) (fun e => by have := (oL.lt _ e).2; omega))
 exact AllReadyH.nil

set_option maxRecDepth 100000 in
set_option maxHeartbeats 16000000 in
theorem mr_1000100 (hR : R < base) (hl : ls.length ≤ 100000 ∧ ats.length ≤ 100000) (hQ : ∀ (p1 p2 : Nat) (x1 x2 : Option Addr) (y1 y2 : Nat) (W : World), BoxA W R 36 (fnV nm rs lf rt lo (.slice x1 (ls.length + 1) y1) (.slice x2 (ats.length + 1) y2) li false) → OwS base W (.slice x1 (ls.length + 1) y1) (ls ++ [lb]) → OwI base W (.slice x2 (ats.length + 1) y2) (ats ++ [((i : Int) + 1)]) → KL base R R wc W → Q .normal { tmps := #[t0, t1, t2, t3, t4, .pointer (some ⟨R, 0, none⟩), t6, t7, .int .i64 (i : Int), t9, .string lb, t11, t12, t13, t14, t15, t16, t17, t18, t19, t20, t21, t22, t23, t24, t25, t26, t27, t28, t29, t30, t31, t32, t33, t34, t35, t36, t37, t38, t39, t40, t41, t42, t43, t44, t45, t46, t47, t48, t49, t50, t51, t52, t53, t54, t55, t56, t57, t58, t59, t60, t61, t62, t63, t64, t65, t66, t67, t68, .pointer (some ⟨R, 5, none⟩), .slice a2 ls.length c2, .string lb, .slice (some ⟨p1, 0, none⟩) 1 1, .slice x1 (ls.length + 1) y1, .pointer (some ⟨R, 6, none⟩), .slice a3 ats.length c3, .int .i64 (i : Int), .int .i64 ((i : Int) + 1), .slice (some ⟨p2, 0, none⟩) 1 1, .slice x2 (ats.length + 1) y2, .pointer (some ⟨R, 5, none⟩), .pointer (some ⟨R, 6, none⟩), t82, t83, t84, t85, t86], defers := ds } W) (hP : ∀ c a d x w, Q (.panic c) (Act.put a d x) w → Q (.panic c) a w) (kW : KL base R R wc W) (N : BoxA W R 36 (fnV nm rs lf rt lo (.slice a2 ls.length c2) (.slice a3 ats.length c3) li false)) (oL : OwS base W (.slice a2 ls.length c2) ls) (oA : OwI base W (.slice a3 ats.length c3) ats) (q2 : BoxA W p2 3 #[.int .i64 ((i : Int) + 1)]) (h2 : (Value.slice a2 ls.length c2).ownBlock ≠ some p2) :
    wpAnyH Tryz.prog .any mops Q (fun _ => True) 8 #[true, true, true, false, false, true, false, true, true, true, false, false, false, false, false] { tmps := #[t0, t1, t2, t3, t4, .pointer (some ⟨R, 0, none⟩), t6, t7, .int .i64 (i : Int), t9, .string lb, t11, t12, t13, t14, t15, t16, t17, t18, t19, t20, t21, t22, t23, t24, t25, t26, t27, t28, t29, t30, t31, t32, t33, t34, t35, t36, t37, t38, t39, t40, t41, t42, t43, t44, t45, t46, t47, t48, t49, t50, t51, t52, t53, t54, t55, t56, t57, t58, t59, t60, t61, t62, t63, t64, t65, t66, t67, t68, .pointer (some ⟨R, 5, none⟩), .slice a2 ls.length c2, .string lb, t72, t73, .pointer (some ⟨R, 6, none⟩), t75, .int .i64 (i : Int), .int .i64 ((i : Int) + 1), .slice (some ⟨p2, 0, none⟩) 1 1, t79, t80, t81, t82, t83, t84, t85, t86], defers := ds } W := by
 have r5 := N.cell 5 rfl
 have r6 := N.cell 6 rfl
 refine wpAnyH_ready (rs := [3, 6]) (by kernel_rfl) (by simp) ?_
 refine AllReadyH.cons rfl (fun K hK => ?_) ?_
 · go_simp
   exact hK.out _ _ trivial (fun _ => mr_1100100 hR hl hQ hP (kW.trans_below (below_alloc W _) kW.size) (N.below (below_alloc W _) N.lt) (oL.alloc _) (oA.alloc _) (rdS_new1 W lb) (by simp) (q2.below (below_alloc W _) q2.lt) (h2))
 refine AllReadyH.cons rfl (fun K hK => ?_) ?_
 · go_simp
   exact hK.out _ _ trivial (fun _ => mr_1001100 hR hl hQ hP (kW) (N) (oL) (oA) (q2) (h2))
 exact AllReadyH.nil

set_option maxRecDepth 100000 in
set_option maxHeartbeats 16000000 in
theorem mr_1000000 (hR : R < base) (hl : ls.length ≤ 100000 ∧ ats.length ≤ 100000) (hQ : ∀ (p1 p2 : Nat) (x1 x2 : Option Addr) (y1 y2 : Nat) (W : World), BoxA W R 36 (fnV nm rs lf rt lo (.slice x1 (ls.length + 1) y1) (.slice x2 (ats.length + 1) y2) li false) → OwS base W (.slice x1 (ls.length + 1) y1) (ls ++ [lb]) → OwI base W (.slice x2 (ats.length + 1) y2) (ats ++ [((i : Int) + 1)]) → KL base R R wc W → Q .normal { tmps := #[t0, t1, t2, t3, t4, .pointer (some ⟨R, 0, none⟩), t6, t7, .int .i64 (i : Int), t9, .string lb, t11, t12, t13, t14, t15, t16, t17, t18, t19, t20, t21, t22, t23, t24, t25, t26, t27, t28, t29, t30, t31, t32, t33, t34, t35, t36, t37, t38, t39, t40, t41, t42, t43, t44, t45, t46, t47, t48, t49, t50, t51, t52, t53, t54, t55, t56, t57, t58, t59, t60, t61, t62, t63, t64, t65, t66, t67, t68, .pointer (some ⟨R, 5, none⟩), .slice a2 ls.length c2, .string lb, .slice (some ⟨p1, 0, none⟩) 1 1, .slice x1 (ls.length + 1) y1, .pointer (some ⟨R, 6, none⟩), .slice a3 ats.length c3, .int .i64 (i : Int), .int .i64 ((i : Int) + 1), .slice (some ⟨p2, 0, none⟩) 1 1, .slice x2 (ats.length + 1) y2, .pointer (some ⟨R, 5, none⟩), .pointer (some ⟨R, 6, none⟩), t82, t83, t84, t85, t86], defers := ds } W) (hP : ∀ c a d x w, Q (.panic c) (Act.put a d x) w → Q (.panic c) a w) (kW : KL base R R wc W) (N : BoxA W R 36 (fnV nm rs lf rt lo (.slice a2 ls.length c2) (.slice a3 ats.length c3) li false)) (oL : OwS base W (.slice a2 ls.length c2) ls) (oA : OwI base W (.slice a3 ats.length c3) ats) :
    wpAnyH Tryz.prog .any mops Q (fun _ => True) 9 #[true, true, true, false, false, true, false, true, true, false, false, false, false, false, false] { tmps := #[t0, t1, t2, t3, t4, .pointer (some ⟨R, 0, none⟩), t6, t7, .int .i64 (i : Int), t9, .string lb, t11, t12, t13, t14, t15, t16, t17, t18, t19, t20, t21, t22, t23, t24, t25, t26, t27, t28, t29, t30, t31, t32, t33, t34, t35, t36, t37, t38, t39, t40, t41, t42, t43, t44, t45, t46, t47, t48, t49, t50, t51, t52, t53, t54, t55, t56, t57, t58, t59, t60, t61, t62, t63, t64, t65, t66, t67, t68, .pointer (some ⟨R, 5, none⟩), .slice a2 ls.length c2, .string lb, t72, t73, .pointer (some ⟨R, 6, none⟩), t75, .int .i64 (i : Int), .int .i64 ((i : Int) + 1), t78, t79, t80, t81, t82, t83, t84, t85, t86], defers := ds } W := by
 have r5 := N.cell 5 rfl
 have r6 := N.cell 6 rfl
 refine wpAnyH_ready (rs := [3, 6, 9]) (by kernel_rfl) (by simp) ?_
 refine AllReadyH.cons rfl (fun K hK => ?_) ?_
 · go_simp
   exact hK.out _ _ trivial (fun _ => mr_1100000 hR hl hQ hP (kW.trans_below (below_alloc W _) kW.size) (N.below (below_alloc W _) N.lt) (oL.alloc _) (oA.alloc _) (rdS_new1 W lb) (by simp))
 refine AllReadyH.cons rfl (fun K hK => ?_) ?_
 · go_simp
   exact hK.out _ _ trivial (fun _ => mr_1001000 hR hl hQ hP (kW) (N) (oL) (oA))
 refine AllReadyH.cons rfl (fun K hK => ?_) ?_
 · go_simp
   exact hK.out _ _ trivial (fun _ => mr_1000100 hR hl hQ hP (kW.trans_below (below_alloc W _) kW.size) (N.below (below_alloc W _) N.lt) (oL.alloc _) (oA.alloc _) (boxA_new W _ _) (fun e => by have := (oL.lt _ e).2; omega))
 exact AllReadyH.nil

set_option maxRecDepth 100000 in
set_option maxHeartbeats 16000000 in
theorem mr_0101100 (hR : R < base) (hl : ls.length ≤ 100000 ∧ ats.length ≤ 100000) (hQ : ∀ (p1 p2 : Nat) (x1 x2 : Option Addr) (y1 y2 : Nat) (W : World), BoxA W R 36 (fnV nm rs lf rt lo (.slice x1 (ls.length + 1) y1) (.slice x2 (ats.length + 1) y2) li false) → OwS base W (.slice x1 (ls.length + 1) y1) (ls ++ [lb]) → OwI base W (.slice x2 (ats.length + 1) y2) (ats ++ [((i : Int) + 1)]) → KL base R R wc W → Q .normal { tmps := #[t0, t1, t2, t3, t4, .pointer (some ⟨R, 0, none⟩), t6, t7, .int .i64 (i : Int), t9, .string lb, t11, t12, t13, t14, t15, t16, t17, t18, t19, t20, t21, t22, t23, t24, t25, t26, t27, t28, t29, t30, t31, t32, t33, t34, t35, t36, t37, t38, t39, t40, t41, t42, t43, t44, t45, t46, t47, t48, t49, t50, t51, t52, t53, t54, t55, t56, t57, t58, t59, t60, t61, t62, t63, t64, t65, t66, t67, t68, .pointer (some ⟨R, 5, none⟩), .slice a2 ls.length c2, .string lb, .slice (some ⟨p1, 0, none⟩) 1 1, .slice x1 (ls.length + 1) y1, .pointer (some ⟨R, 6, none⟩), .slice a3 ats.length c3, .int .i64 (i : Int), .int .i64 ((i : Int) + 1), .slice (some ⟨p2, 0, none⟩) 1 1, .slice x2 (ats.length + 1) y2, .pointer (some ⟨R, 5, none⟩), .pointer (some ⟨R, 6, none⟩), t82, t83, t84, t85, t86], defers := ds } W) (hP : ∀ c a d x w, Q (.panic c) (Act.put a d x) w → Q (.panic c) a w) (kW : KL base R R wc W) (N : BoxA W R 36 (fnV nm rs lf rt lo (.slice a2 ls.length c2) (.slice a3 ats.length c3) li false)) (oL : OwS base W (.slice a2 ls.length c2) ls) (oA : OwI base W (.slice a3 ats.length c3) ats) (q1 : RdS (p1 + 1) W (.slice (some ⟨p1, 0, none⟩) 1 1) [lb]) (h1 : p1 < W.heap.size) (q2 : BoxA W p2 3 #[.int .i64 ((i : Int) + 1)]) (h2 : (Value.slice a2 ls.length c2).ownBlock ≠ some p2) :
    wpAnyH Tryz.prog .any mops Q (fun _ => True) 7 #[true, false, true, true, false, true, true, true, true, true, false, false, false, false, false] { tmps := #[t0, t1, t2, t3, t4, .pointer (some ⟨R, 0, none⟩), t6, t7, .int .i64 (i : Int), t9, .string lb, t11, t12, t13, t14, t15, t16, t17, t18, t19, t20, t21, t22, t23, t24, t25, t26, t27, t28, t29, t30, t31, t32, t33, t34, t35, t36, t37, t38, t39, t40, t41, t42, t43, t44, t45, t46, t47, t48, t49, t50, t51, t52, t53, t54, t55, t56, t57, t58, t59, t60, t61, t62, t63, t64, t65, t66, t67, t68, .pointer (some ⟨R, 5, none⟩), t70, .string lb, .slice (some ⟨p1, 0, none⟩) 1 1, t73, .pointer (some ⟨R, 6, none⟩), .slice a3 ats.length c3, .int .i64 (i : Int), .int .i64 ((i : Int) + 1), .slice (some ⟨p2, 0, none⟩) 1 1, t79, t80, t81, t82, t83, t84, t85, t86], defers := ds } W := by
 have r5 := N.cell 5 rfl
 have r6 := N.cell 6 rfl
 refine wpAnyH_ready (rs := [1]) (by kernel_rfl) (by simp) ?_
 refine AllReadyH.cons rfl (fun K hK => ?_) ?_
 · go_simp
   exact hK.out _ _ trivial (fun _ => mr_1101100 hR hl hQ hP (kW) (N) (oL) (oA) (q1) (h1) (q2) (h2))
 exact AllReadyH.nil

set_option maxRecDepth 100000 in
set_option maxHeartbeats 16000000 in
theorem mr_0101000 (hR : R < base) (hl : ls.length ≤ 100000 ∧ ats.length ≤ 100000) (hQ : ∀ (p1 p2 : Nat) (x1 x2 : Option Addr) (y1 y2 : Nat) (W : World), BoxA W R 36 (fnV nm rs lf rt lo (.slice x1 (ls.length + 1) y1) (.slice x2 (ats.length + 1) y2) li false) → OwS base W (.slice x1 (ls.length + 1) y1) (ls ++ [lb]) → OwI base W (.slice x2 (ats.length + 1) y2) (ats ++ [((i : Int) + 1)]) → KL base R R wc W → Q .normal { tmps := #[t0, t1, t2, t3, t4, .pointer (some ⟨R, 0, none⟩), t6, t7, .int .i64 (i : Int), t9, .string lb, t11, t12, t13, t14, t15, t16, t17, t18, t19, t20, t21, t22, t23, t24, t25, t26, t27, t28, t29, t30, t31, t32, t33, t34, t35, t36, t37, t38, t39, t40, t41, t42, t43, t44, t45, t46, t47, t48, t49, t50, t51, t52, t53, t54, t55, t56, t57, t58, t59, t60, t61, t62, t63, t64, t65, t66, t67, t68, .pointer (some ⟨R, 5, none⟩), .slice a2 ls.length c2, .string lb, .slice (some ⟨p1, 0, none⟩) 1 1, .slice x1 (ls.length + 1) y1, .pointer (some ⟨R, 6, none⟩), .slice a3 ats.length c3, .int .i64 (i : Int), .int .i64 ((i : Int) + 1), .slice (some ⟨p2, 0, none⟩) 1 1, .slice x2 (ats.length + 1) y2, .pointer (some ⟨R, 5, none⟩), .pointer (some ⟨R, 6, none⟩), t82, t83, t84, t85, t86], defers := ds } W) (hP : ∀ c a d x w, Q (.panic c) (Act.put a d x) w → Q (.panic c) a w) (kW : KL base R R wc W) (N : BoxA W R 36 (fnV nm rs lf rt lo (.slice a2 ls.length c2) (.slice a3 ats.length c3) li false)) (oL : OwS base W (.slice a2 ls.length c2) ls) (oA : OwI base W (.slice a3 ats.length c3) ats) (q1 : RdS (p1 + 1) W (.slice (some ⟨p1, 0, none⟩) 1 1) [lb]) (h1 : p1 < W.heap.size) :
    wpAnyH Tryz.prog .any mops Q (fun _ => True) 8 #[true, false, true, true, false, true, true, true, true, false, false, false, false, false, false] { tmps := #[t0, t1, t2, t3, t4, .pointer (some ⟨R, 0, none⟩), t6, t7, .int .i64 (i : Int), t9, .string lb, t11, t12, t13, t14, t15, t16, t17, t18, t19, t20, t21, t22, t23, t24, t25, t26, t27, t28, t29, t30, t31, t32, t33, t34, t35, t36, t37, t38, t39, t40, t41, t42, t43, t44, t45, t46, t47, t48, t49, t50, t51, t52, t53, t54, t55, t56, t57, t58, t59, t60, t61, t62, t63, t64, t65, t66, t67, t68, .pointer (some ⟨R, 5, none⟩), t70, .string lb, .slice (some ⟨p1, 0, none⟩) 1 1, t73, .pointer (some ⟨R, 6, none⟩), .slice a3 ats.length c3, .int .i64 (i : Int), .int .i64 ((i : Int) + 1), t78, t79, t80, t81, t82, t83, t84, t85, t86], defers := ds } W := by
 have r5 := N.cell 5 rfl
 have r6 := N.cell 6 rfl
 refine wpAnyH_ready (rs := [1, 9]) (by kernel_rfl) (by simp) ?_
 refine AllReadyH.cons rfl (fun K hK => ?_) ?_
 · go_simp
   exact hK.out _ _ trivial (fun _ => mr_1101000 hR hl hQ hP (kW) (N) (oL) (oA) (q1) (h1))
 refine AllReadyH.cons rfl (fun K hK => ?_) ?_
 · go_simp
   exact hK.out _ _ trivial (fun _ => mr_0101100 hR hl hQ hP (kW.trans_below (below_alloc W _) kW.size) (N.below (below_alloc W _) N.lt) (oL.alloc _) (oA.alloc _) (q1.below (below_alloc W _) h1) (by simp; omega) (boxA_new W _ _) (fun e => by have := (oL.lt _ e).2; omega))
 exact AllReadyH.nil

set_option maxRecDepth 100000 in
set_option maxHeartbeats 16000000 in
theorem mr_0100100 (hR : R < base) (hl : ls.length ≤ 100000 ∧ ats.length ≤ 100000) (hQ : ∀ (p1 p2 : Nat) (x1 x2 : Option Addr) (y1 y2 : Nat) (W : World), BoxA W R 36 (fnV nm rs lf rt lo (.slice x1 (ls.length + 1) y1) (.slice x2 (ats.length + 1) y2) li false) → OwS base W (.slice x1 (ls.length + 1) y1) (ls ++ [lb]) → OwI base W (.slice x2 (ats.length + 1) y2) (ats ++ [((i : Int) + 1)]) → KL base R R wc W → Q .normal { tmps := #[t0, t1, t2, t3, t4, .pointer (some ⟨R, 0, none⟩), t6, t7, .int .i64 (i : Int), t9, .string lb, t11, t12, t13, t14, t15, t16, t17, t18, t19, t20, t21, t22, t23, t24, t25, t26, t27, t28, t29, t30, t31, t32, t33, t34, t35, t36, t37, t38, t39, t40, t41, t42, t43, t44, t45, t46, t47, t48, t49, t50, t51, t52, t53, t54, t55, t56, t57, t58, t59, t60, t61, t62, t63, t64, t65, t66, t67, t68, .pointer (some ⟨R, 5, none⟩), .slice a2 ls.length c2, .string lb, .slice (some ⟨p1, 0, none⟩) 1 1, .slice x1 (ls.length + 1) y1, .pointer (some ⟨R, 6, none⟩), .slice a3 ats.length c3, .int .i64 (i : Int), .int .i64 ((i : Int) + 1), .slice (some ⟨p2, 0, none⟩) 1 1, .slice x2 (ats.length + 1) y2, .pointer (some ⟨R, 5, none⟩), .pointer (some ⟨R, 6, none⟩), t82, t83, t84, t85, t86], defers := ds } W) (hP : ∀ c a d x w, Q (.panic c) (Act.put a d x) w → Q (.panic c) a w) (kW : KL base R R wc W) (N : BoxA W R 36 (fnV nm rs lf rt lo (.slice a2 ls.length c2) (.slice a3 ats.length c3) li false)) (oL : OwS base W (.slice a2 ls.length c2) ls) (oA : OwI base W (.slice a3 ats.length c3) ats) (q1 : RdS (p1 + 1) W (.slice (some ⟨p1, 0, none⟩) 1 1) [lb]) (h1 : p1 < W.heap.size) (q2 : BoxA W p2 3 #[.int .i64 ((i : Int) + 1)]) (h2 : (Value.slice a2 ls.length c2).ownBlock ≠ some p2) :
    wpAnyH Tryz.prog .any mops Q (fun _ => True) 8 #[true, false, true, true, false, true, false, true, true, true, false, false, false, false, false] { tmps := #[t0, t1, t2, t3, t4, .pointer (some ⟨R, 0, none⟩), t6, t7, .int .i64 (i : Int), t9, .string lb, t11, t12, t13, t14, t15, t16, t17, t18, t19, t20, t21, t22, t23, t24, t25, t26, t27, t28, t29, t30, t31, t32, t33, t34, t35, t36, t37, t38, t39, t40, t41, t42, t43, t44, t45, t46, t47, t48, t49, t50, t51, t52, t53, t54, t55, t56, t57, t58, t59, t60, t61, t62, t63, t64, t65, t66, t67, t68, .pointer (some ⟨R, 5, none⟩), t70, .string lb, .slice (some ⟨p1, 0, none⟩) 1 1, t73, .pointer (some ⟨R, 6, none⟩), t75, .int .i64 (i : Int), .int .i64 ((i : Int) + 1), .slice (some ⟨p2, 0, none⟩) 1 1, t79, t80, t81, t82, t83, t84, t85, t86], defers := ds } W := by
 have r5 := N.cell 5 rfl
 have r6 := N.cell 6 rfl
 refine wpAnyH_ready (rs := [1, 6]) (by kernel_rfl) (by simp) ?_
 refine AllReadyH.cons rfl (fun K hK => ?_) ?_
 · go_simp
   exact hK.out _ _ trivial (fun _ => mr_1100100 hR hl hQ hP (kW) (N) (oL) (oA) (q1) (h1) (q2) (h2))
 refine AllReadyH.cons rfl (fun K hK => ?_) ?_
 · go_simp
   exact hK.out _ _ trivial (fun _ => mr_0101100 hR hl hQ hP (kW) (N) (oL) (oA) (q1) (h1) (q2) (h2))
 exact AllReadyH.nil

set_option maxRecDepth 100000 in
set_option maxHeartbeats 16000000 in
theorem mr_0100000 (hR : R < base) (hl : ls.length ≤ 100000 ∧ ats.length ≤ 100000) (hQ : ∀ (p1 p2 : Nat) (x1 x2 : Option Addr) (y1 y2 : Nat) (W : World), BoxA W R 36 (fnV nm rs lf rt lo (.slice x1 (ls.length + 1) y1) (.slice x2 (ats.length + 1) y2) li false) → OwS base W (.slice x1 (ls.length + 1) y1) (ls ++ [lb]) → OwI base W (.slice x2 (ats.length + 1) y2) (ats ++ [((i : Int) + 1)]) → KL base R R wc W → Q .normal { tmps := #[t0, t1, t2, t3, t4, .pointer (some ⟨R, 0, none⟩), t6, t7, .int .i64 (i : Int), t9, .string lb, t11, t12, t13, t14, t15, t16, t17, t18, t19, t20, t21, t22, t23, t24, t25, t26, t27, t28, t29, t30, t31, t32, t33, t34, t35, t36, t37, t38, t39, t40, t41, t42, t43, t44, t45, t46, t47, t48, t49, t50, t51, t52, t53, t54, t55, t56, t57, t58, t59, t60, t61, t62, t63, t64, t65, t66, t67, t68, .pointer (some ⟨R, 5, none⟩), .slice a2 ls.length c2, .string lb, .slice (some ⟨p1, 0, none⟩) 1 1, .slice x1 (ls.length + 1) y1, .pointer (some ⟨R, 6, none⟩), .slice a3 ats.length c3, .int .i64 (i : Int), .int .i64 ((i : Int) + 1), .slice (some ⟨p2, 0, none⟩) 1 1, .slice x2 (ats.length + 1) y2, .pointer (some ⟨R, 5, none⟩), .pointer (some ⟨R, 6, none⟩), t82, t83, t84, t85, t86], defers := ds } W) (hP : ∀ c a d x w, Q (.panic c) (Act.put a d x) w → Q (.panic c) a w) (kW : KL base R R wc W) (N : BoxA W R 36 (fnV nm rs lf rt lo (.slice a2 ls.length c2) (.slice a3 ats.length c3) li false)) (oL : OwS base W (.slice a2 ls.length c2) ls) (oA : OwI base W (.slice a3 ats.length c3) ats) (q1 : RdS (p1 + 1) W (.slice (some ⟨p1, 0, none⟩) 1 1) [lb]) (h1 : p1 < W.heap.size) :
    wpAnyH Tryz.prog .any mops Q (fun _ => True) 9 #[true, false, true, true, false, true, false, true, true, false, false, false, false, false, false] { tmps := #[t0, t1, t2, t3, t4, .pointer (some ⟨R, 0, none⟩), t6, t7, .int .i64 (i : Int), t9, .string lb, t11, t12, t13, t14, t15, t16, t17, t18, t19, t20, t21, t22, t23, t24, t25, t26, t27, t28, t29, t30, t31, t32, t33, t34, t35, t36, t37, t38, t39, t40, t41, t42, t43, t44, t45, t46, t47, t48, t49, t50, t51, t52, t53, t54, t55, t56, t57, t58, t59, t60, t61, t62, t63, t64, t65, t66, t67, t68, .pointer (some ⟨R, 5, none⟩), t70, .string lb, .slice (some ⟨p1, 0, none⟩) 1 1, t73, .pointer (some ⟨R, 6, none⟩), t75, .int .i64 (i : Int), .int .i64 ((i : Int) + 1), t78, t79, t80, t81, t82, t83, t84, t85, t86], defers := ds } W := by
 have r5 := N.cell 5 rfl
 have r6 := N.cell 6 rfl
 refine wpAnyH_ready (rs := [1, 6, 9]) (by kernel_rfl) (by simp) ?_
 refine AllReadyH.cons rfl (fun K hK => ?_) ?_
 · go_simp
   exact hK.out _ _ trivial (fun _ => mr_1100000 hR hl hQ hP (kW) (N) (oL) (oA) (q1) (h1))
 refine AllReadyH.cons rfl (fun K hK => ?_) ?_
 · go_simp
   exact hK.out _ _ trivial (fun _ => mr_0101000 hR hl hQ hP (kW) (N) (oL) (oA) (q1) (h1))
 refine AllReadyH.cons rfl (fun K hK => ?_) ?_
 · go_simp
   exact hK.out _ _ trivial (fun _ => mr_0100100 hR hl hQ hP (kW.trans_below (below_alloc W _) kW.size) (N.below (below_alloc W _) N.lt) (oL.alloc _) (oA.alloc _) (q1.below (below_alloc W _) h1) (by simp; omega) (boxA_new W _ _) (fun e => by have := (oL.lt _ e).2; omega))
 exact AllReadyH.nil

set_option maxRecDepth 100000 in
set_option maxHeartbeats 16000000 in
theorem mr_0001100 (hR : R < base) (hl : ls.length ≤ 100000 ∧ ats.length ≤ 100000) (hQ : ∀ (p1 p2 : Nat) (x1 x2 : Option Addr) (y1 y2 : Nat) (W : World), BoxA W R 36 (fnV nm rs lf rt lo (.slice x1 (ls.length + 1) y1) (.slice x2 (ats.length + 1) y2) li false) → OwS base W (.slice x1 (ls.length + 1) y1) (ls ++ [lb]) → OwI base W (.slice x2 (ats.length + 1) y2) (ats ++ [((i : Int) + 1)]) → KL base R R wc W → Q .normal { tmps := #[t0, t1, t2, t3, t4, .pointer (some ⟨R, 0, none⟩), t6, t7, .int .i64 (i : Int), t9, .string lb, t11, t12, t13, t14, t15, t16, t17, t18, t19, t20, t21, t22, t23, t24, t25, t26, t27, t28, t29, t30, t31, t32, t33, t34, t35, t36, t37, t38, t39, t40, t41, t42, t43, t44, t45, t46, t47, t48, t49, t50, t51, t52, t53, t54, t55, t56, t57, t58, t59, t60, t61, t62, t63, t64, t65, t66, t67, t68, .pointer (some ⟨R, 5, none⟩), .slice a2 ls.length c2, .string lb, .slice (some ⟨p1, 0, none⟩) 1 1, .slice x1 (ls.length + 1) y1, .pointer (some ⟨R, 6, none⟩), .slice a3 ats.length c3, .int .i64 (i : Int), .int .i64 ((i : Int) + 1), .slice (some ⟨p2, 0, none⟩) 1 1, .slice x2 (ats.length + 1) y2, .pointer (some ⟨R, 5, none⟩), .pointer (some ⟨R, 6, none⟩), t82, t83, t84, t85, t86], defers := ds } W) (hP : ∀ c a d x w, Q (.panic c) (Act.put a d x) w → Q (.panic c) a w) (kW : KL base R R wc W) (N : BoxA W R 36 (fnV nm rs lf rt lo (.slice a2 ls.length c2) (.slice a3 ats.length c3) li false)) (oL : OwS base W (.slice a2 ls.length c2) ls) (oA : OwI base W (.slice a3 ats.length c3) ats) (q2 : BoxA W p2 3 #[.int .i64 ((i : Int) + 1)]) (h2 : (Value.slice a2 ls.length c2).ownBlock ≠ some p2) :
    wpAnyH Tryz.prog .any mops Q (fun _ => True) 8 #[true, false, true, false, false, true, true, true, true, true, false, false, false, false, false] { tmps := #[t0, t1, t2, t3, t4, .pointer (some ⟨R, 0, none⟩), t6, t7, .int .i64 (i : Int), t9, .string lb, t11, t12, t13, t14, t15, t16, t17, t18, t19, t20, t21, t22, t23, t24, t25, t26, t27, t28, t29, t30, t31, t32, t33, t34, t35, t36, t37, t38, t39, t40, t41, t42, t43, t44, t45, t46, t47, t48, t49, t50, t51, t52, t53, t54, t55, t56, t57, t58, t59, t60, t61, t62, t63, t64, t65, t66, t67, t68, .pointer (some ⟨R, 5, none⟩), t70, .string lb, t72, t73, .pointer (some ⟨R, 6, none⟩), .slice a3 ats.length c3, .int .i64 (i : Int), .int .i64 ((i : Int) + 1), .slice (some ⟨p2, 0, none⟩) 1 1, t79, t80, t81, t82, t83, t84, t85, t86], defers := ds } W := by
 have r5 := N.cell 5 rfl
 have r6 := N.cell 6 rfl
 refine wpAnyH_ready (rs := [1, 3]) (by kernel_rfl) (by simp) ?_
 refine AllReadyH.cons rfl (fun K hK => ?_) ?_
 · go_simp
   exact hK.out _ _ trivial (fun _ => mr_1001100 hR hl hQ hP (kW) (N) (oL) (oA) (q2) (h2))
 refine AllReadyH.cons rfl (fun K hK => ?_) ?_
 · go_simp
   exact hK.out _ _ trivial (fun _ => mr_0101100 hR hl hQ hP (kW.trans_below (below_alloc W _) kW.size) (N.below (below_alloc W _) N.lt) (oL.alloc _) (oA.alloc _) (rdS_new1 W lb) (by simp) (q2.below (below_alloc W _) q2.lt) (h2))
 exact AllReadyH.nil

set_option maxRecDepth 100000 in
set_option maxHeartbeats 16000000 in
theorem mr_0001000 (hR : R < base) (hl : ls.length ≤ 100000 ∧ ats.length ≤ 100000) (hQ : ∀ (p1 p2 : Nat) (x1 x2 : Option Addr) (y1 y2 : Nat) (W : World), BoxA W R 36 (fnV nm rs lf rt lo (.slice x1 (ls.length + 1) y1) (.slice x2 (ats.length + 1) y2) li false) → OwS base W (.slice x1 (ls.length + 1) y1) (ls ++ [lb]) → OwI base W (.slice x2 (ats.length + 1) y2) (ats ++ [((i : Int) + 1)]) → KL base R R wc W → Q .normal { tmps := #[t0, t1, t2, t3, t4, .pointer (some ⟨R, 0, none⟩), t6, t7, .int .i64 (i : Int), t9, .string lb, t11, t12, t13, t14, t15, t16, t17, t18, t19, t20, t21, t22, t23, t24, t25, t26, t27, t28, t29, t30, t31, t32, t33, t34, t35, t36, t37, t38, t39, t40, t41, t42, t43, t44, t45, t46, t47, t48, t49, t50, t51, t52, t53, t54, t55, t56, t57, t58, t59, t60, t61, t62, t63, t64, t65, t66, t67, t68, .pointer (some ⟨R, 5, none⟩), .slice a2 ls.length c2, .string lb, .slice (some ⟨p1, 0, none⟩) 1 1, .slice x1 (ls.length + 1) y1, .pointer (some ⟨R, 6, none⟩), .slice a3 ats.length c3, .int .i64 (i : Int), .int .i64 ((i : Int) + 1), .slice (some ⟨p2, 0, none⟩) 1 1, .slice x2 (ats.length + 1) y2, .pointer (some ⟨R, 5, none⟩), .pointer (some ⟨R, 6, none⟩), t82, t83, t84, t85, t86], defers := ds } W) (hP : ∀ c a d x w, Q (.panic c) (Act.put a d x) w → Q (.panic c) a w) (kW : KL base R R wc W) (N : BoxA W R 36 (fnV nm rs lf rt lo (.slice a2 ls.length c2) (.slice a3 ats.length c3) li false)) (oL : OwS base W (.slice a2 ls.length c2) ls) (oA : OwI base W (.slice a3 ats.length c3) ats) :
    wpAnyH Tryz.prog .any mops Q (fun _ => True) 9 #[true, false, true, false, false, true, true, true, true, false, false, false, false, false, false] { tmps := #[t0, t1, t2, t3, t4, .pointer (some ⟨R, 0, none⟩), t6, t7, .int .i64 (i : Int), t9, .string lb, t11, t12, t13, t14, t15, t16, t17, t18, t19, t20, t21, t22, t23, t24, t25, t26, t27, t28, t29, t30, t31, t32, t33, t34, t35, t36, t37, t38, t39, t40, t41, t42, t43, t44, t45, t46, t47, t48, t49, t50, t51, t52, t53, t54, t55, t56, t57, t58, t59, t60, t61, t62, t63, t64, t65, t66, t67, t68, .pointer (some ⟨R, 5, none⟩), t70, .string lb, t72, t73, .pointer (some ⟨R, 6, none⟩), .slice a3 ats.length c3, .int .i64 (i : Int), .int .i64 ((i : Int) + 1), t78, t79, t80, t81, t82, t83, t84, t85, t86], defers := ds } W := by
 have r5 := N.cell 5 rfl
 have r6 := N.cell 6 rfl
 refine wpAnyH_ready (rs := [1, 3, 9]) (by kernel_rfl) (by simp) ?_
 refine AllReadyH.cons rfl (fun K hK => ?_) ?_
 · go_simp
   exact hK.out _ _ trivial (fun _ => mr_1001000 hR hl hQ hP (kW) (N) (oL) (oA))
 refine AllReadyH.cons rfl (fun K hK => ?_) ?_
 · go_simp
   exact hK.out _ _ trivial (fun _ => mr_0101000 hR hl hQ hP (kW.trans_below (below_alloc W _) kW.size) (N.below (below_alloc W _) N.lt) (oL.alloc _) (oA.alloc _) (rdS_new1 W lb) (by simp))
 refine AllReadyH.cons rfl (fun K hK => ?_) ?_
 · go_simp
   exact hK.out _ _ trivial (fun _ => mr_0001100 hR hl hQ hP (kW.trans_below (below_alloc W _) kW.size) (N.below (below_alloc W _) N.lt) (oL.alloc _) (oA.alloc _) (boxA_new W _ _) (fun e => by have := (oL.lt _ e).2; omega))
 exact AllReadyH.nil

set_option maxRecDepth 100000 in
set_option maxHeartbeats 16000000 in
theorem mr_0000100 (hR : R < base) (hl : ls.length ≤ 100000 ∧ ats.length ≤ 100000) (hQ : ∀ (p1 p2 : Nat) (x1 x2 : Option Addr) (y1 y2 : Nat) (W : World), BoxA W R 36 (fnV nm rs lf rt lo (.slice x1 (ls.length + 1) y1) (.slice x2 (ats.length + 1) y2) li false) → OwS base W (.slice x1 (ls.length + 1) y1) (ls ++ [lb]) → OwI base W (.slice x2 (ats.length + 1) y2) (ats ++ [((i : Int) + 1)]) → KL base R R wc W → Q .normal { tmps := #[t0, t1, t2, t3, t4, .pointer (some ⟨R, 0, none⟩), t6, t7, .int .i64 (i : Int), t9, .string lb, t11, t12, t13, t14, t15, t16, t17, t18, t19, t20, t21, t22, t23, t24, t25, t26, t27, t28, t29, t30, t31, t32, t33, t34, t35, t36, t37, t38, t39, t40, t41, t42, t43, t44, t45, t46, t47, t48, t49, t50, t51, t52, t53, t54, t55, t56, t57, t58, t59, t60, t61, t62, t63, t64, t65, t66, t67, t68, .pointer (some ⟨R, 5, none⟩), .slice a2 ls.length c2, .string lb, .slice (some ⟨p1, 0, none⟩) 1 1, .slice x1 (ls.length + 1) y1, .pointer (some ⟨R, 6, none⟩), .slice a3 ats.length c3, .int .i64 (i : Int), .int .i64 ((i : Int) + 1), .slice (some ⟨p2, 0, none⟩) 1 1, .slice x2 (ats.length + 1) y2, .pointer (some ⟨R, 5, none⟩), .pointer (some ⟨R, 6, none⟩), t82, t83, t84, t85, t86], defers := ds } W) (hP : ∀ c a d x w, Q (.panic c) (Act.put a d x) w → Q (.panic c) a w) (kW : KL base R R wc W) (N : BoxA W R 36 (fnV nm rs lf rt lo (.slice a2 ls.length c2) (.slice a3 ats.length c3) li false)) (oL : OwS base W (.slice a2 ls.length c2) ls) (oA : OwI base W (.slice a3 ats.length c3) ats) (q2 : BoxA W p2 3 #[.int .i64 ((i : Int) + 1)]) (h2 : (Value.slice a2 ls.length c2).ownBlock ≠ some p2) :
    wpAnyH Tryz.prog .any mops Q (fun _ => True) 9 #[true, false, true, false, false, true, false, true, true, true, false, false, false, false, false] { tmps := #[t0, t1, t2, t3, t4, .pointer (some ⟨R, 0, none⟩), t6, t7, .int .i64 (i : Int), t9, .string lb, t11, t12, t13, t14, t15, t16, t17, t18, t19, t20, t21, t22, t23, t24, t25, t26, t27, t28, t29, t30, t31, t32, t33, t34, t35, t36, t37, t38, t39, t40, t41, t42, t43, t44, t45, t46, t47, t48, t49, t50, t51, t52, t53, t54, t55, t56, t57, t58, t59, t60, t61, t62, t63, t64, t65, t66, t67, t68, .pointer (some ⟨R, 5, none⟩), t70, .string lb, t72, t73, .pointer (some ⟨R, 6, none⟩), t75, .int .i64 (i : Int), .int .i64 ((i : Int) + 1), .slice (some ⟨p2, 0, none⟩) 1 1, t79, t80, t81, t82, t83, t84, t85, t86], defers := ds } W := by
 have r5 := N.cell 5 rfl
 have r6 := N.cell 6 rfl
 refine wpAnyH_ready (rs := [1, 3, 6]) (by kernel_rfl) (by simp) ?_
 refine AllReadyH.cons rfl (fun K hK => ?_) ?_
 · go_simp
   exact hK.out _ _ trivial (fun _ => mr_1000100 hR hl hQ hP (kW) (N) (oL) (oA) (q2) (h2))
 refine AllReadyH.cons rfl (fun K hK => ?_) ?_
 · go_simp
   exact hK.out _ _ trivial (fun _ => mr_0100100 hR hl hQ hP (kW.trans_below (below_alloc W _) kW.size) (N.below (below_alloc W _) N.lt) (oL.alloc _) (oA.alloc _) (rdS_new1 W lb) (by simp) (q2.below (below_alloc W _) q2.lt) (h2))
 refine AllReadyH.cons rfl (fun K hK => ?_) ?_
 · go_simp
   exact hK.out _ _ trivial (fun _ => mr_0001100 hR hl hQ hP (kW) (N) (oL) (oA) (q2) (h2))
 exact AllReadyH.nil

set_option maxRecDepth 100000 in
set_option maxHeartbeats 16000000 in
theorem mr_0000000 (hR : R < base) (hl : ls.length ≤ 100000 ∧ ats.length ≤ 100000) (hQ : ∀ (p1 p2 : Nat) (x1 x2 : Option Addr) (y1 y2 : Nat) (W : World), BoxA W R 36 (fnV nm rs lf rt lo (.slice x1 (ls.length + 1) y1) (.slice x2 (ats.length + 1) y2) li false) → OwS base W (.slice x1 (ls.length + 1) y1) (ls ++ [lb]) → OwI base W (.slice x2 (ats.length + 1) y2) (ats ++ [((i : Int) + 1)]) → KL base R R wc W → Q .normal { tmps := #[t0, t1, t2, t3, t4, .pointer (some ⟨R, 0, none⟩), t6, t7, .int .i64 (i : Int), t9, .string lb, t11, t12, t13, t14, t15, t16, t17, t18, t19, t20, t21, t22, t23, t24, t25, t26, t27, t28, t29, t30, t31, t32, t33, t34, t35, t36, t37, t38, t39, t40, t41, t42, t43, t44, t45, t46, t47, t48, t49, t50, t51, t52, t53, t54, t55, t56, t57, t58, t59, t60, t61, t62, t63, t64, t65, t66, t67, t68, .pointer (some ⟨R, 5, none⟩), .slice a2 ls.length c2, .string lb, .slice (some ⟨p1, 0, none⟩) 1 1, .slice x1 (ls.length + 1) y1, .pointer (some ⟨R, 6, none⟩), .slice a3 ats.length c3, .int .i64 (i : Int), .int .i64 ((i : Int) + 1), .slice (some ⟨p2, 0, none⟩) 1 1, .slice x2 (ats.length + 1) y2, .pointer (some ⟨R, 5, none⟩), .pointer (some ⟨R, 6, none⟩), t82, t83, t84, t85, t86], defers := ds } W) (hP : ∀ c a d x w, Q (.panic c) (Act.put a d x) w → Q (.panic c) a w) (kW : KL base R R wc W) (N : BoxA W R 36 (fnV nm rs lf rt lo (.slice a2 ls.length c2) (.slice a3 ats.length c3) li false)) (oL : OwS base W (.slice a2 ls.length c2) ls) (oA : OwI base W (.slice a3 ats.length c3) ats) :
    wpAnyH Tryz.prog .any mops Q (fun _ => True) 10 #[true, false, true, false, false, true, false, true, true, false, false, false, false, false, false] { tmps := #[t0, t1, t2, t3, t4, .pointer (some ⟨R, 0, none⟩), t6, t7, .int .i64 (i : Int), t9, .string lb, t11, t12, t13, t14, t15, t16, t17, t18, t19, t20, t21, t22, t23, t24, t25, t26, t27, t28, t29, t30, t31, t32, t33, t34, t35, t36, t37, t38, t39, t40, t41, t42, t43, t44, t45, t46, t47, t48, t49, t50, t51, t52, t53, t54, t55, t56, t57, t58, t59, t60, t61, t62, t63, t64, t65, t66, t67, t68, .pointer (some ⟨R, 5, none⟩), t70, .string lb, t72, t73, .pointer (some ⟨R, 6, none⟩), t75, .int .i64 (i : Int), .int .i64 ((i : Int) + 1), t78, t79, t80, t81, t82, t83, t84, t85, t86], defers := ds } W := by
 have r5 := N.cell 5 rfl
 have r6 := N.cell 6 rfl
 refine wpAnyH_ready (rs := [1, 3, 6, 9]) (by kernel_rfl) (by simp) ?_
 refine AllReadyH.cons rfl (fun K hK => ?_) ?_
 · go_simp
   exact hK.out _ _ trivial (fun _ => mr_1000000 hR hl hQ hP (kW) (N) (oL) (oA))
 refine AllReadyH.cons rfl (fun K hK => ?_) ?_
 · go_simp
   exact hK.out _ _ trivial (fun _ => mr_0100000 hR hl hQ hP (kW.trans_below (below_alloc W _) kW.size) (N.below (below_alloc W _) N.lt) (oL.alloc _) (oA.alloc _) (rdS_new1 W lb) (by simp))
 refine AllReadyH.cons rfl (fun K hK => ?_) ?_
 · go_simp
   exact hK.out _ _ trivial (fun _ => mr_0001000 hR hl hQ hP (kW) (N) (oL) (oA))
 refine AllReadyH.cons rfl (fun K hK => ?_) ?_
 · go_simp
   exact hK.out _ _ trivial (fun _ => mr_0000100 hR hl hQ hP (kW.trans_below (below_alloc W _) kW.size) (N.below (below_alloc W _) N.lt) (oL.alloc _) (oA.alloc _) (boxA_new W _ _) (fun e => by have := (oL.lt _ e).2; omega))
 exact AllReadyH.nil

set_option maxRecDepth 100000 in
set_option maxHeartbeats 16000000 in
theorem makeReg (hi : i ≤ 1000) (hR : R < base) (hl : ls.length ≤ 100000 ∧ ats.length ≤ 100000) (hQ : ∀ (p1 p2 : Nat) (x1 x2 : Option Addr) (y1 y2 : Nat) (W : World), BoxA W R 36 (fnV nm rs lf rt lo (.slice x1 (ls.length + 1) y1) (.slice x2 (ats.length + 1) y2) li false) → OwS base W (.slice x1 (ls.length + 1) y1) (ls ++ [lb]) → OwI base W (.slice x2 (ats.length + 1) y2) (ats ++ [((i : Int) + 1)]) → KL base R R wc W → Q .normal { tmps := #[t0, t1, t2, t3, t4, .pointer (some ⟨R, 0, none⟩), t6, t7, .int .i64 (i : Int), t9, .string lb, t11, t12, t13, t14, t15, t16, t17, t18, t19, t20, t21, t22, t23, t24, t25, t26, t27, t28, t29, t30, t31, t32, t33, t34, t35, t36, t37, t38, t39, t40, t41, t42, t43, t44, t45, t46, t47, t48, t49, t50, t51, t52, t53, t54, t55, t56, t57, t58, t59, t60, t61, t62, t63, t64, t65, t66, t67, t68, .pointer (some ⟨R, 5, none⟩), .slice a2 ls.length c2, .string lb, .slice (some ⟨p1, 0, none⟩) 1 1, .slice x1 (ls.length + 1) y1, .pointer (some ⟨R, 6, none⟩), .slice a3 ats.length c3, .int .i64 (i : Int), .int .i64 ((i : Int) + 1), .slice (some ⟨p2, 0, none⟩) 1 1, .slice x2 (ats.length + 1) y2, .pointer (some ⟨R, 5, none⟩), .pointer (some ⟨R, 6, none⟩), t82, t83, t84, t85, t86], defers := ds } W) (hP : ∀ c a d x w, Q (.panic c) (Act.put a d x) w → Q (.panic c) a w) (kW : KL base R R wc W) (N : BoxA W R 36 (fnV nm rs lf rt lo (.slice a2 ls.length c2) (.slice a3 ats.length c3) li false)) (oL : OwS base W (.slice a2 ls.length c2) ls) (oA : OwI base W (.slice a3 ats.length c3) ats) :
    (Code.region 15 mops true).wp Tryz.prog Q { tmps := #[t0, t1, t2, t3, t4, .pointer (some ⟨R, 0, none⟩), t6, t7, .int .i64 (i : Int), t9, .string lb, t11, t12, t13, t14, t15, t16, t17, t18, t19, t20, t21, t22, t23, t24, t25, t26, t27, t28, t29, t30, t31, t32, t33, t34, t35, t36, t37, t38, t39, t40, t41, t42, t43, t44, t45, t46, t47, t48, t49, t50, t51, t52, t53, t54, t55, t56, t57, t58, t59, t60, t61, t62, t63, t64, t65, t66, t67, t68, t69, t70, t71, t72, t73, t74, t75, t76, t77, t78, t79, t80, t81, t82, t83, t84, t85, t86], defers := ds } W := by
 have hw : IntKind.i64.wrap ((i : Int) + 1) = (i : Int) + 1 := by rw [IntKind.wrap_i64]; omega
 have kD : KL base R R wc W.drew := ⟨kW.os, kW.tape, kW.output, kW.size, kW.block⟩
 refine wp_region_held_drew (S := fun _ => True) (by kernel_rfl) trivial (fun _ => ?_)
 show wpAnyH Tryz.prog .any mops Q (fun _ => True) 15 #[false, false, false, false, false, false, false, false, false, false, false, false, false, false, false] _ _
 refine wpAnyH_take (i := 0) (v := .pointer (some ⟨R, 5, none⟩)) rfl (by kernel_rfl) (by kernel_rfl) (by kernel_rfl) (fun c a w h => hP c a _ _ w h) (Or.inl ⟨by rfl, (by intro w hSw; go_simp)⟩) trivial ?_
 simp only [Act.put, List.setIfInBounds_toArray, List.set_cons_zero, List.set_cons_succ]
 refine wpAnyH_take (i := 2) (v := .string lb) rfl (by kernel_rfl) (by kernel_rfl) (by kernel_rfl) (fun c a w h => hP c a _ _ w h) (Or.inl ⟨by rfl, (by intro w hSw; go_simp)⟩) trivial ?_
 simp only [Act.put, List.setIfInBounds_toArray, List.set_cons_zero, List.set_cons_succ]
 refine wpAnyH_take (i := 5) (v := .pointer (some ⟨R, 6, none⟩)) rfl (by kernel_rfl) (by kernel_rfl) (by kernel_rfl) (fun c a w h => hP c a _ _ w h) (Or.inl ⟨by rfl, (by intro w hSw; go_simp)⟩) trivial ?_
 simp only [Act.put, List.setIfInBounds_toArray, List.set_cons_zero, List.set_cons_succ]
 refine wpAnyH_take (i := 7) (v := .int .i64 (i : Int)) rfl (by kernel_rfl) (by kernel_rfl) (by kernel_rfl) (fun c a w h => hP c a _ _ w h) (Or.inl ⟨by rfl, (by intro w hSw; go_simp)⟩) trivial ?_
 simp only [Act.put, List.setIfInBounds_toArray, List.set_cons_zero, List.set_cons_succ]
 refine wpAnyH_take (i := 8) (v := .int .i64 ((i : Int) + 1)) rfl (by kernel_rfl) (by kernel_rfl) (by kernel_rfl) (fun c a w h => hP c a _ _ w h) (Or.inl ⟨by rfl, (by intro w hSw; go_simp)⟩) trivial ?_
 simp only [Act.put, List.setIfInBounds_toArray, List.set_cons_zero, List.set_cons_succ]
 exact mr_0000000 hR hl hQ hP kD N oL oA
end
end Go.Proofs.YtimfnalpmmkndaaGreatDoor
