/- Scalar functions of bits: what is 0 or 1. -/
import Derived.Test.YtmijanocljmaeaaGreatKS1
import Derived.Test.YtmijanocljmaeaaGreatK12
import Derived.Test.YtmijanocljmaeaaGreatKS3
import Derived.Test.YtmijanocljmaeaaGreatKS4
namespace Go.Proofs.YtmijanocljmaeaaGreat
set_option linter.unusedVariables false
set_option linter.unusedSimpArgs false
open Go.RowKit

/-- A bit as a whole number. -/
def bitI (h : Bool) : Int := if h then 1 else 0
/-- Its limbs. -/
def bitL (h : Bool) : List Int := if h then [1] else []
theorem wholeT_bit (h : Bool) : wholeT (bitI h) = numT false (bitL h) [1] := by
 cases h
 · exact (wholeIs_eq (by decide) (by decide) (q := 0) (b := false) (ns := []) (ds := [1]) ⟨by decide, can_nil, rfl, by decide, rfl⟩).symm
 · exact (wholeIs_eq (by decide) (by decide) (q := 1) (b := false) (ns := [1]) (ds := [1]) ⟨by decide, can_one, one_val, by decide, rfl⟩).symm
theorem Rd.one {B : Nat} {w : World} {a : Option Addr} {c : Nat} {x : Int} (h : Rd B w (.slice a 1 c) [x]) : ∃ b off, a = some ⟨b, off, none⟩ ∧ b < B ∧ w.cell? ⟨b, off, none⟩ = some (.int .u32 x) := by
 obtain ⟨_, a', cap, e, _, _, _, hc⟩ := h
 cases e
 rcases hc with h0 | ⟨b, off, rfl, hb, hj⟩
 · simp at h0
 · exact ⟨b, off, rfl, hb, by simpa using hj 0 (by simp)⟩
/-- A number that is a bit, by itself. -/
def BitN (base : Nat) (h : Bool) (e : Ending) (w' : World) : Prop := ∃ b z1 ns u1 z2 ds u2, e = .returned (.agg #[.bool b, .slice z1 ns.length u1, .slice z2 ds.length u2]) ∧ Own base w' (.slice z1 ns.length u1) ns ∧ Own base w' (.slice z2 ds.length u2) ds ∧ Hid (numT b ns ds = wholeT (bitI h))
set_option maxRecDepth 100000 in
set_option maxHeartbeats 16000000 in
theorem truth_bit (h : Bool) (w : World) : Calls Tryz.prog 75 #[.bool h] w fun e w' => BitN w.heap.size h e w' ∧ Below w.heap.size w w' := by
 have R := boxA_new w #[.bool false, .slice none 0 0, .slice none 0 0] 33
 have g := below_alloc w (.cells #[.bool false, .slice none 0 0, .slice none 0 0] 33)
 have lR := R.lt
 have sz : (w.alloc (.cells #[.bool false, .slice none 0 0, .slice none 0 0] 33)).heap.size = w.heap.size + 1 := by simp
 cases h
 all_goals
  go_enter Tryz.func75, Tryz.ntmps75
  go_wp2_with fail
  generalize hA : w.alloc (.cells #[.bool false, .slice none 0 0, .slice none 0 0] 33) = v at *
  clear hA
  refine (ofInt_any _ (by omega) (by omega) v).mono ?_
  rintro e w1 ⟨k1, b, ns, ds, z1, u1, z2, u2, hw, rfl, ho1, ho2⟩
  have R1 := R.below k1 lR
  have r0 := R1.cell 0 rfl
  have r1 := R1.cell 1 rfl
  have r2 := R1.cell 2 rfl
  have f0 := R1.frozen 0
  have f1 := R1.frozen 1
  have f2 := R1.frozen 2
  have R3 := ((R1.put 0 (.bool b)).put 1 (.slice z1 ns.length u1)).put 2 (.slice z2 ds.length u2)
  have q0 := R3.cell 0 rfl
  have q1 := R3.cell 1 rfl
  have q2 := R3.cell 2 rfl
  go_wp2
  refine bodyPost_ret (v := .agg #[.bool b, .slice z1 ns.length u1, .slice z2 ds.length u2]) (by simp [results, Tryz.results75, go_sem, q0, q1, q2]) rfl ?_
  exact ⟨⟨b, z1, ns, u1, z2, ds, u2, rfl, (ho1.set3 (by omega) _ _ _).mono (by omega), (ho2.set3 (by omega) _ _ _).mono (by omega), wholeIs_eq (by decide) (by decide) hw.out⟩, Below.set3 (g.trans (k1.mono g.size)) (Nat.le_refl _) _ _ _⟩
section
variable {w : World} {h : Bool} {p : Nat} {a1 a2 : Option Addr} {c1 c2 : Nat}
set_option maxRecDepth 100000 in
set_option maxHeartbeats 16000000 in
theorem isZero_bit (q1 : w.cell? ⟨p, 1, none⟩ = some (.slice a1 (bitL h).length c1)) : Calls Tryz.prog 106 #[.pointer (some ⟨p, 0, none⟩)] w fun e w' => e = .returned (.bool (!h)) ∧ w' = w := by
 cases h
 · replace q1 : w.cell? ⟨p, 1, none⟩ = some (.slice a1 0 c1) := q1
   go_enter Tryz.func106, Tryz.ntmps106
   go_wp2
   go_ret
   exact ⟨rfl, rfl⟩
 · replace q1 : w.cell? ⟨p, 1, none⟩ = some (.slice a1 1 c1) := q1
   go_enter Tryz.func106, Tryz.ntmps106
   go_wp2
   go_ret
   exact ⟨rfl, rfl⟩
set_option maxRecDepth 100000 in
set_option maxHeartbeats 16000000 in
theorem isWhole_one {b off : Nat} (q2 : w.cell? ⟨p, 2, none⟩ = some (.slice (some ⟨b, off, none⟩) 1 c2)) (hc : w.cell? ⟨b, off, none⟩ = some (.int .u32 1)) : Calls Tryz.prog 138 #[.pointer (some ⟨p, 0, none⟩)] w fun e w' => e = .returned (.bool true) ∧ w' = w := by
 go_enter Tryz.func138, Tryz.ntmps138
 go_wp2
 go_ret
 exact ⟨rfl, rfl⟩
set_option maxRecDepth 100000 in
set_option maxHeartbeats 16000000 in
theorem isBit_bit (q0 : w.cell? ⟨p, 0, none⟩ = some (.bool false)) (q1 : w.cell? ⟨p, 1, none⟩ = some (.slice a1 (bitL h).length c1)) (q2 : w.cell? ⟨p, 2, none⟩ = some (.slice a2 1 c2)) (r1 : Rd w.heap.size w (.slice a1 (bitL h).length c1) (bitL h)) (r2 : Rd w.heap.size w (.slice a2 1 c2) [1]) : Calls Tryz.prog 112 #[.pointer (some ⟨p, 0, none⟩)] w fun e w' => e = .returned (.bool true) ∧ w' = w := by
 have hz := isZero_bit q1
 obtain ⟨b, off, rfl, _, hc⟩ := r2.one
 have hw := isWhole_one q2 hc
 cases h
 · clear r1
   go_enter Tryz.func112, Tryz.ntmps112
   go_wp2_with fail
   refine hz.mono ?_
   rintro e w' ⟨rfl, hw'⟩
   obtain rfl := hw'.symm
   go_wp2
   go_ret
   exact ⟨rfl, rfl⟩
 · replace q1 : w.cell? ⟨p, 1, none⟩ = some (.slice a1 1 c1) := q1
   replace r1 : Rd w.heap.size w (.slice a1 1 c1) [1] := r1
   obtain ⟨b1, o1, rfl, _, hc1⟩ := r1.one
   clear r1
   go_enter Tryz.func112, Tryz.ntmps112
   go_wp2_with fail
   refine hz.mono ?_
   rintro e w' ⟨rfl, hw'⟩
   obtain rfl := hw'.symm
   clear hz
   go_wp2_with fail
   refine hw.mono ?_
   rintro e w' ⟨rfl, hw'⟩
   obtain rfl := hw'.symm
   clear hw
   go_wp2
   go_ret
   exact ⟨rfl, rfl⟩
end
end Go.Proofs.YtmijanocljmaeaaGreat

/- Rows of truths, and the two rows of bits that ScalarLogic makes of them. -/
namespace Go.Proofs.YtmijanocljmaeaaGreat
set_option linter.unusedVariables false
set_option linter.unusedSimpArgs false
open Go.RowKit

theorem rdN_row {W : World} {Z : Nat} {a : Option Addr} {c : Nat} {l : List Int} (hin : ∀ x ∈ l, -9223372036854775808 ≤ x ∧ x ≤ 9223372036854775807) (h : W.ownsRow Z 3 1 (.slice a l.length c) l.length (l.map (Value.int .i64))) : RdN (Fr Z W.heap.size) W (.slice a l.length c) l := by
 have hrow := h
 obtain ⟨_, h | ⟨g, cap, cur, hv, hg, hh, h2, h3, _, _⟩⟩ := h
 · obtain ⟨e1, e2⟩ := h
   obtain ⟨rfl, _, rfl⟩ := Value.slice.inj e1
   exact ⟨hin, none, 0, rfl, by omega, by omega, fun _ => rfl, Or.inl e2⟩
 · obtain ⟨rfl, _, rfl⟩ := Value.slice.inj hv
   refine ⟨hin, _, _, rfl, h2, by unfold maxLen at h3; omega, (fun h => by cases h), Or.inr ⟨g, 0, rfl, ⟨hg, lt_of_block hh⟩, fun j hj => ?_⟩⟩
   have := hrow.cellAt j (by omega)
   rw [getD_map_i64 l j hj] at this
   rw [Nat.zero_add]; exact this
/-- Items that are bits. -/
def Bits (q : List Bool) (l : List Tr) : Prop := l = q.map (fun h => numT false (bitL h) [1])
theorem Bits.at {q : List Bool} {l : List Tr} (h : Bits q l) {j : Nat} (hj : j < l.length) : l.getD j tr0 = numT false (bitL (q.getD j false)) [1] := by
 obtain rfl := h
 rw [List.length_map] at hj
 simp [List.getD_eq_getElem?_getD, hj]
/-- A row of truths. -/
def RdT (w : World) (v : Value) (xs : List Bool) : Prop := ∃ a cap, v = .slice a xs.length cap ∧ (xs.length = 0 ∨ ∃ b off, a = some ⟨b, off, none⟩ ∧ b < w.heap.size ∧ ∀ j, j < xs.length → w.cell? ⟨b, off + j, none⟩ = some (.bool (xs.getD j false)))
theorem RdT.at {w : World} {a : Option Addr} {c : Nat} {xs : List Bool} (h : RdT w (.slice a xs.length c) xs) {i : Nat} (hi : i < xs.length) : ∃ b off, a = some ⟨b, off, none⟩ ∧ b < w.heap.size ∧ w.cell? ⟨b, off + i, none⟩ = some (.bool (xs.getD i false)) := by
 obtain ⟨a', cap, e, h0 | ⟨b, off, rfl, hb, hc⟩⟩ := h
 · omega
 · cases e
   exact ⟨b, off, rfl, hb, hc i hi⟩
set_option maxRecDepth 100000 in
set_option maxHeartbeats 4000000 in
theorem bit_any (h : Bool) (w : World) : Calls Tryz.prog 16 #[.bool h] w fun e w' => e = .returned (.int .i64 (bitI h)) ∧ w' = w := by
 cases h
 all_goals
  go_enter Tryz.func16, Tryz.ntmps16
  go_wp2
  go_ret
  exact ⟨rfl, rfl⟩
/-- A row of bits that grows: so many of the truths. -/
def BitRow (Z : Nat) (w : World) (v : Value) (xs : List Bool) (i : Nat) : Prop := w.ownsRow Z 3 1 v i ((xs.take i).map (fun h => Value.int .i64 (bitI h)))
theorem BitRow.next {Z : Nat} {w : World} {v : Value} {xs : List Bool} {i : Nat} (hi : i < xs.length) (h : w.ownsRow Z 3 1 v (i + 1) ((xs.take i).map (fun h => Value.int .i64 (bitI h)) ++ [.int .i64 (bitI (xs.getD i false))])) : BitRow Z w v xs (i + 1) := by
 unfold BitRow
 have e : xs.take (i + 1) = xs.take i ++ [xs.getD i false] := by
  rw [List.take_add_one, List.getD_eq_getElem?_getD, List.getElem?_eq_getElem hi]
  rfl
 rw [e, List.map_append]
 exact h
theorem row_apart {A B : World} {Z e size n : Nat} {v u : Value} {xs : List Value} (h : A.ownsRow Z e size v n xs) (hg : A.grownBy B u.ownBlock) (hne : ∀ k, v.ownBlock = some k → u.ownBlock ≠ some k) : B.ownsRow Z e size v n xs := by
 refine h.kept hg ?_
 cases hv : v.ownBlock with
 | none => exact Or.inl rfl
 | some k => exact Or.inr (fun e => hne k hv e.symm)
/-- The row as a slice of ints. -/
theorem BitRow.ints {Z : Nat} {w : World} {a : Option Addr} {c : Nat} {xs : List Bool} {i : Nat} (hi : i ≤ xs.length) (h : BitRow Z w (.slice a i c) xs i) : RdN (Fr Z w.heap.size) w (.slice a ((xs.take i).map bitI).length c) ((xs.take i).map bitI) := by
 have hl : ((xs.take i).map bitI).length = i := by rw [List.length_map, List.length_take]; omega
 refine rdN_row (fun x hx => ?_) ?_
 · obtain ⟨b, _, rfl⟩ := List.mem_map.1 hx
   cases b <;> simp [bitI]
 · rw [hl, List.map_map]
   exact h
end Go.Proofs.YtmijanocljmaeaaGreat

/- ScalarLogic's drawn regions, 1. -/
namespace Go.Proofs.YtmijanocljmaeaaGreat
set_option linter.unusedVariables false
set_option linter.unusedSimpArgs false
open Go.RowKit

section
variable {v : World} {x1 x2 : Option Addr} {n1 y1 n2 y2 ka m : Nat} {x3 x4 : Option Addr} {n3 y3 n4 y4 kb : Nat} {U : Tr}
set_option maxRecDepth 100000 in
set_option maxHeartbeats 16000000 in
theorem logic_8 {Q : Exit → Act → World → Prop} {t0 t1 t2 t3 t4 t5 t6 t7 t10 t11 t12 t13 t14 t15 t16 t17 t18 t19 t20 t21 t22 t23 t24 t25 t26 t27 t28 t29 t30 t31 t32 t33 t34 t35 t36 t37 t38 t39 t40 t41 t42 t43 t44 t45 t46 t47 t48 t49 t50 t51 t52 t53 t54 t55 t56 t57 t58 t59 t60 t61 t62 t63 t64 t65 t66 t67 t68 t69 t70 t71 t72 t73 t74 t75 t76 t77 t78 t79 t80 t81 t82 t83 t84 t85 t86 t87 t88 t89 t90 t91 t92 t93 t94 t95 t96 t97 t98 t99 t100 t101 t102 t103 t104 t105 t106 t107 t108 t109 t110 t111 t112 t113 t114 t115 t116 t117 t118 t119 t120 t121 t122 t123 t124 t125 t126 t127 t128 t129 t130 t131 t132 t133 t134 t135 t136 t137 t138 t139 t140 t141 t142 t143 t144 t145 t146 t147 t148 : Value} (HC : Hid (∀ {w' : World}, Below v.heap.size v w' → w'.cell? ⟨ka, 0, none⟩ = some (.slice x1 n1 y1) ∧ w'.cell? ⟨ka, 1, none⟩ = some (.slice x2 n2 y2) ∧ w'.cell? ⟨kb, 0, none⟩ = some (.slice x3 n3 y3) ∧ w'.cell? ⟨kb, 1, none⟩ = some (.slice x4 n4 y4)))
    (KT : Hid (∀ u (ds0 : List Int) ea ec, Hid (ds0 = [(1 : Int)]) → Rd u.heap.size u (.slice ea ds0.length ec) ds0 → Below v.heap.size v u → Calls Tryz.prog 7 #[.agg #[.int .i64 1, .bool false, .slice none 0 0, .slice ea ds0.length ec, .int .i64 0], .int .i32 8743, .agg #[.slice x1 n1 y1, .slice x2 n2 y2], .agg #[.slice x3 n3 y3, .slice x4 n4 y4]] u fun e w' => (∃ x5 y5 b3 d3, e = .returned (.tuple #[.agg #[.slice x5 1 y5, .slice b3 m d3], .int .i64 0]) ∧ ArV 1 (Fr u.heap.size w'.heap.size) w' (.slice x5 1 y5) (.slice b3 m d3) U) ∧ Below u.heap.size u w'))
    (hQ : ∀ A (ds0 : List Int) ea ec x5 y5 b3 d3 w', BoxA w' A 25 #[.slice x5 1 y5, .slice b3 m d3] → v.heap.size ≤ A → Hid (ArV 1 (Fr v.heap.size w'.heap.size) w' (.slice x5 1 y5) (.slice b3 m d3) U) → Below v.heap.size v w' → Q .normal { tmps := #[t0, t1, t2, t3, t4, t5, t6, t7, .pointer (some ⟨ka, 0, none⟩), .pointer (some ⟨kb, 0, none⟩), .pointer (some ⟨A, 0, none⟩), .int .i64 0, t12, t13, t14, t15, t16, t17, t18, t19, t20, t21, t22, t23, t24, t25, t26, t27, t28, t29, t30, t31, t32, t33, t34, t35, t36, t37, t38, t39, t40, t41, t42, t43, t44, t45, t46, t47, t48, t49, t50, t51, t52, t53, t54, t55, t56, t57, t58, t59, .tuple #[.agg #[.slice x5 1 y5, .slice b3 m d3], .int .i64 0], .agg #[.int .i64 1, .bool false, .slice none 0 0, .slice ea ds0.length ec, .int .i64 0], .agg #[.slice x1 n1 y1, .slice x2 n2 y2], .agg #[.slice x3 n3 y3, .slice x4 n4 y4], .tuple #[.agg #[.slice x5 1 y5, .slice b3 m d3], .int .i64 0], .agg #[.slice x5 1 y5, .slice b3 m d3], .int .i64 0, t67, t68, t69, t70, t71, t72, t73, t74, t75, t76, t77, t78, t79, t80, t81, t82, t83, t84, t85, t86, t87, t88, t89, t90, t91, t92, t93, t94, t95, t96, t97, t98, t99, t100, t101, t102, t103, t104, t105, t106, t107, t108, t109, t110, t111, t112, t113, t114, t115, t116, t117, t118, t119, t120, t121, t122, t123, t124, t125, t126, t127, t128, t129, t130, t131, t132, t133, t134, t135, t136, t137, t138, t139, t140, t141, t142, t143, t144, t145, t146, t147, t148], defers := [] } w') (hP : ∀ c a d x w, Q (.panic c) (Act.put a d x) w → Q (.panic c) a w) :
    (Code.region 8 #[{ dst := some 61, op := Op.call { callee := Callee.value (Operand.func 8), args := #[], argTypes := #[] }, type := 35, pos := "law.go:144", after := #[], guard := none }, { dst := some 62, op := Op.load 25 (Operand.tmp 8), type := 25, pos := "law.go:144", after := #[], guard := none }, { dst := some 63, op := Op.load 25 (Operand.tmp 9), type := 25, pos := "law.go:144", after := #[], guard := none }, { dst := some 64, op := Op.call { callee := Callee.value (Operand.func 7), args := #[Operand.tmp 61, Operand.const (Value.int IntKind.i32 8743), Operand.tmp 62, Operand.tmp 63], argTypes := #[35, 21, 25, 25] }, type := 29, pos := "law.go:144", after := #[{ on := 0, ground := Ground.data }, { on := 1, ground := Ground.data }, { on := 2, ground := Ground.data }, { on := 0, ground := Ground.chain }], guard := none }, { dst := some 60, op := Op.move (Operand.tmp 64), type := 29, pos := "law.go:144", after := #[{ on := 3, ground := Ground.data }], guard := none }, { dst := some 65, op := Op.extract (Operand.tmp 60) 0, type := 25, pos := "law.go:144", after := #[{ on := 4, ground := Ground.data }], guard := none }, { dst := some 66, op := Op.extract (Operand.tmp 60) 1, type := 28, pos := "law.go:144", after := #[{ on := 4, ground := Ground.data }, { on := 8, ground := Ground.gcOnly Departure.lateStores }], guard := none }, { dst := some 10, op := Op.alloc 25, type := 0, pos := "law.go:144", after := #[], guard := none }, { dst := none, op := Op.store 25 (Operand.tmp 10) (Operand.tmp 65), type := 0, pos := "law.go:144", after := #[{ on := 7, ground := Ground.data }, { on := 5, ground := Ground.data }, { on := 3, ground := Ground.chain }, { on := 0, ground := Ground.phase }, { on := 1, ground := Ground.phase }, { on := 2, ground := Ground.phase }, { on := 3, ground := Ground.phase }, { on := 4, ground := Ground.phase }, { on := 5, ground := Ground.phase }, { on := 6, ground := Ground.textOnly Departure.lateStores }, { on := 7, ground := Ground.phase }], guard := none }, { dst := some 11, op := Op.assign (Operand.tmp 66), type := 28, pos := "law.go:144", after := #[{ on := 6, ground := Ground.data }, { on := 8, ground := Ground.chain }, { on := 0, ground := Ground.phase }, { on := 1, ground := Ground.phase }, { on := 2, ground := Ground.phase }, { on := 3, ground := Ground.phase }, { on := 4, ground := Ground.phase }, { on := 5, ground := Ground.phase }, { on := 6, ground := Ground.phase }, { on := 7, ground := Ground.phase }, { on := 8, ground := Ground.phase }], guard := none }] true).wp Tryz.prog Q { tmps := #[t0, t1, t2, t3, t4, t5, t6, t7, .pointer (some ⟨ka, 0, none⟩), .pointer (some ⟨kb, 0, none⟩), t10, t11, t12, t13, t14, t15, t16, t17, t18, t19, t20, t21, t22, t23, t24, t25, t26, t27, t28, t29, t30, t31, t32, t33, t34, t35, t36, t37, t38, t39, t40, t41, t42, t43, t44, t45, t46, t47, t48, t49, t50, t51, t52, t53, t54, t55, t56, t57, t58, t59, t60, t61, t62, t63, t64, t65, t66, t67, t68, t69, t70, t71, t72, t73, t74, t75, t76, t77, t78, t79, t80, t81, t82, t83, t84, t85, t86, t87, t88, t89, t90, t91, t92, t93, t94, t95, t96, t97, t98, t99, t100, t101, t102, t103, t104, t105, t106, t107, t108, t109, t110, t111, t112, t113, t114, t115, t116, t117, t118, t119, t120, t121, t122, t123, t124, t125, t126, t127, t128, t129, t130, t131, t132, t133, t134, t135, t136, t137, t138, t139, t140, t141, t142, t143, t144, t145, t146, t147, t148], defers := [] } v := by
 have d1 : Below v.heap.size v v.drew := ⟨rfl, rfl, rfl, Nat.le_refl _, fun _ _ => rfl⟩
 have j0 := HC.out d1
 refine wp_region_held_drew (S := (fun w' => w'.cell? ⟨ka, 0, none⟩ = some (.slice x1 n1 y1) ∧ w'.cell? ⟨ka, 1, none⟩ = some (.slice x2 n2 y2) ∧ w'.cell? ⟨kb, 0, none⟩ = some (.slice x3 n3 y3) ∧ w'.cell? ⟨kb, 1, none⟩ = some (.slice x4 n4 y4))) (by kernel_rfl) j0 (fun hS => ?_)
 refine wpAnyH_take (i := 1) (oi := { dst := some 62, op := Op.load 25 (Operand.tmp 8), type := 25, pos := "law.go:144", after := #[], guard := none }) (v := .agg #[.slice x1 n1 y1, .slice x2 n2 y2]) rfl (by kernel_rfl) (by kernel_rfl) (by kernel_rfl) (fun _ _ _ h => hP _ _ _ _ _ h) (Or.inl ⟨by rfl, (by intro w hSw; (try dsimp only at hSw); go_simp)⟩) (by assumption) ?_
 simp only [Act.put, List.setIfInBounds_toArray, List.set_cons_zero, List.set_cons_succ]
 refine wpAnyH_take (i := 2) (oi := { dst := some 63, op := Op.load 25 (Operand.tmp 9), type := 25, pos := "law.go:144", after := #[], guard := none }) (v := .agg #[.slice x3 n3 y3, .slice x4 n4 y4]) rfl (by kernel_rfl) (by kernel_rfl) (by kernel_rfl) (fun _ _ _ h => hP _ _ _ _ _ h) (Or.inl ⟨by rfl, (by intro w hSw; (try dsimp only at hSw); go_simp)⟩) (by assumption) ?_
 simp only [Act.put, List.setIfInBounds_toArray, List.set_cons_zero, List.set_cons_succ]
 refine wpAnyH_ready (rs := [0, 7]) (by kernel_rfl) (by simp) ?_
 refine (AllReadyH.cons (o := { dst := some 61, op := Op.call { callee := Callee.value (Operand.func 8), args := #[], argTypes := #[] }, type := 35, pos := "law.go:144", after := #[], guard := none }) rfl (fun K hK => ?_) (AllReadyH.cons (o := { dst := some 10, op := Op.alloc 25, type := 0, pos := "law.go:144", after := #[], guard := none }) rfl (fun K hK => ?_) AllReadyH.nil))
 · go_simp
   refine (env_any _).mono ?_
   rintro e wE ⟨ds0, ea, ec, hd, rfl, ho, pE⟩
   have kE : Below v.heap.size v wE := d1.trans (pE.mono d1.size)
   have jE := HC.out kE
   go_simp
   refine hK.out _ _ (jE) (fun _ => ?_)
   clear hK K
   refine wpAnyH_ready (rs := [3, 7]) (by kernel_rfl) (by simp) ?_
   refine (AllReadyH.cons (o := { dst := some 64, op := Op.call { callee := Callee.value (Operand.func 7), args := #[Operand.tmp 61, Operand.const (Value.int IntKind.i32 8743), Operand.tmp 62, Operand.tmp 63], argTypes := #[35, 21, 25, 25] }, type := 29, pos := "law.go:144", after := #[{ on := 0, ground := Ground.data }, { on := 1, ground := Ground.data }, { on := 2, ground := Ground.data }, { on := 0, ground := Ground.chain }], guard := none }) rfl (fun K hK => ?_) (AllReadyH.cons (o := { dst := some 10, op := Op.alloc 25, type := 0, pos := "law.go:144", after := #[], guard := none }) rfl (fun K hK => ?_) AllReadyH.nil))
   · go_simp
     have sC : v.heap.size ≤ wE.heap.size := kE.size
     refine (KT.out _ ds0 ea ec hd (ho.rd) kE).mono ?_
     rintro e wT ⟨⟨x5, y5, b3, d3, rfl, hv⟩, pT⟩
     have kT : Below v.heap.size v wT := kE.trans (pT.mono kE.size)
     have jT := HC.out kT
     have HV : Hid (ArV 1 (Fr wE.heap.size wT.heap.size) wT (.slice x5 1 y5) (.slice b3 m d3) U) := hv
     clear hv
     go_simp
     refine hK.out _ _ (jT) (fun _ => ?_)
     clear hK K
     refine wpAnyH_take (i := 4) (oi := { dst := some 60, op := Op.move (Operand.tmp 64), type := 29, pos := "law.go:144", after := #[{ on := 3, ground := Ground.data }], guard := none }) (v := .tuple #[.agg #[.slice x5 1 y5, .slice b3 m d3], .int .i64 0]) rfl (by kernel_rfl) (by kernel_rfl) (by kernel_rfl) (fun _ _ _ h => hP _ _ _ _ _ h) (Or.inl ⟨by rfl, (by intro w hSw; (try dsimp only at hSw); go_simp)⟩) (by assumption) ?_
     simp only [Act.put, List.setIfInBounds_toArray, List.set_cons_zero, List.set_cons_succ]
     refine wpAnyH_take (i := 5) (oi := { dst := some 65, op := Op.extract (Operand.tmp 60) 0, type := 25, pos := "law.go:144", after := #[{ on := 4, ground := Ground.data }], guard := none }) (v := .agg #[.slice x5 1 y5, .slice b3 m d3]) rfl (by kernel_rfl) (by kernel_rfl) (by kernel_rfl) (fun _ _ _ h => hP _ _ _ _ _ h) (Or.inl ⟨by rfl, (by intro w hSw; (try dsimp only at hSw); go_simp)⟩) (by assumption) ?_
     simp only [Act.put, List.setIfInBounds_toArray, List.set_cons_zero, List.set_cons_succ]
     refine wpAnyH_take (i := 6) (oi := { dst := some 66, op := Op.extract (Operand.tmp 60) 1, type := 28, pos := "law.go:144", after := #[{ on := 4, ground := Ground.data }, { on := 8, ground := Ground.gcOnly Departure.lateStores }], guard := none }) (v := .int .i64 0) rfl (by kernel_rfl) (by kernel_rfl) (by kernel_rfl) (fun _ _ _ h => hP _ _ _ _ _ h) (Or.inl ⟨by rfl, (by intro w hSw; (try dsimp only at hSw); go_simp)⟩) (by assumption) ?_
     simp only [Act.put, List.setIfInBounds_toArray, List.set_cons_zero, List.set_cons_succ]
     refine wpAnyH_ready (rs := [7]) (by kernel_rfl) (by simp) ?_
     refine (AllReadyH.cons (o := { dst := some 10, op := Op.alloc 25, type := 0, pos := "law.go:144", after := #[], guard := none }) rfl (fun K hK => ?_) AllReadyH.nil)
     go_simp
     have kA : Below v.heap.size v (wT.alloc (.cells #[.slice none 0 0, .slice none 0 0] 25)) := kT.trans ((below_alloc wT (.cells #[.slice none 0 0, .slice none 0 0] 25)).mono kT.size)
     have jA := HC.out kA
     have BA : BoxA (wT.alloc (.cells #[.slice none 0 0, .slice none 0 0] 25)) wT.heap.size 25 #[.slice none 0 0, .slice none 0 0] := boxA_new wT #[.slice none 0 0, .slice none 0 0] 25
     have nA : v.heap.size ≤ wT.heap.size := kT.size
     go_simp
     refine hK.out _ _ (jA) (fun _ => ?_)
     clear hK K
     refine wpAnyH_ready (rs := [8]) (by kernel_rfl) (by simp) ?_
     refine (AllReadyH.cons (o := { dst := none, op := Op.store 25 (Operand.tmp 10) (Operand.tmp 65), type := 0, pos := "law.go:144", after := #[{ on := 7, ground := Ground.data }, { on := 5, ground := Ground.data }, { on := 3, ground := Ground.chain }, { on := 0, ground := Ground.phase }, { on := 1, ground := Ground.phase }, { on := 2, ground := Ground.phase }, { on := 3, ground := Ground.phase }, { on := 4, ground := Ground.phase }, { on := 5, ground := Ground.phase }, { on := 6, ground := Ground.textOnly Departure.lateStores }, { on := 7, ground := Ground.phase }], guard := none }) rfl (fun K hK => ?_) AllReadyH.nil)
     go_simp
     have r0 := BA.cell 0 rfl
     have r1 := BA.cell 1 rfl
     have f0 := BA.frozen 0
     have f1 := BA.frozen 1
     have BS := boxA_new wT #[.slice x5 1 y5, .slice b3 m d3] 25
     have kS : Below v.heap.size v (wT.alloc (.cells #[.slice x5 1 y5, .slice b3 m d3] 25)) := kT.trans ((below_alloc wT (.cells #[.slice x5 1 y5, .slice b3 m d3] 25)).mono kT.size)
     have jS := HC.out kS
     have HVS : Hid (ArV 1 (Fr v.heap.size (wT.alloc (.cells #[.slice x5 1 y5, .slice b3 m d3] 25)).heap.size) (wT.alloc (.cells #[.slice x5 1 y5, .slice b3 m d3] 25)) (.slice x5 1 y5) (.slice b3 m d3) U) := ArV.imp (fun q hq => ⟨by have := hq.1; omega, by rw [World.size_alloc]; have := hq.2; omega⟩) (fun q hq => (below_alloc wT (.cells #[.slice x5 1 y5, .slice b3 m d3] 25)).block q hq.2) 1 1 _ _ _ (Nat.le_refl _) HV.out
     go_simp
     refine hK.out _ _ (jS) (fun _ => ?_)
     clear hK K
     refine wpAnyH_take (i := 9) (oi := { dst := some 11, op := Op.assign (Operand.tmp 66), type := 28, pos := "law.go:144", after := #[{ on := 6, ground := Ground.data }, { on := 8, ground := Ground.chain }, { on := 0, ground := Ground.phase }, { on := 1, ground := Ground.phase }, { on := 2, ground := Ground.phase }, { on := 3, ground := Ground.phase }, { on := 4, ground := Ground.phase }, { on := 5, ground := Ground.phase }, { on := 6, ground := Ground.phase }, { on := 7, ground := Ground.phase }, { on := 8, ground := Ground.phase }], guard := none }) (v := .int .i64 0) rfl (by kernel_rfl) (by kernel_rfl) (by kernel_rfl) (fun _ _ _ h => hP _ _ _ _ _ h) (Or.inl ⟨by rfl, (by intro w hSw; (try dsimp only at hSw); go_simp)⟩) (by assumption) ?_
     simp only [Act.put, List.setIfInBounds_toArray, List.set_cons_zero, List.set_cons_succ]
     refine wpAnyH_done (by kernel_rfl) ?_ _
     exact hQ _ ds0 ea ec x5 y5 b3 d3 _ BS nA HVS kS
   · go_simp
     have kA : Below v.heap.size v (wE.alloc (.cells #[.slice none 0 0, .slice none 0 0] 25)) := kE.trans ((below_alloc wE (.cells #[.slice none 0 0, .slice none 0 0] 25)).mono kE.size)
     have jA := HC.out kA
     have BA : BoxA (wE.alloc (.cells #[.slice none 0 0, .slice none 0 0] 25)) wE.heap.size 25 #[.slice none 0 0, .slice none 0 0] := boxA_new wE #[.slice none 0 0, .slice none 0 0] 25
     have nA : v.heap.size ≤ wE.heap.size := kE.size
     go_simp
     refine hK.out _ _ (jA) (fun _ => ?_)
     clear hK K
     refine wpAnyH_ready (rs := [3]) (by kernel_rfl) (by simp) ?_
     refine (AllReadyH.cons (o := { dst := some 64, op := Op.call { callee := Callee.value (Operand.func 7), args := #[Operand.tmp 61, Operand.const (Value.int IntKind.i32 8743), Operand.tmp 62, Operand.tmp 63], argTypes := #[35, 21, 25, 25] }, type := 29, pos := "law.go:144", after := #[{ on := 0, ground := Ground.data }, { on := 1, ground := Ground.data }, { on := 2, ground := Ground.data }, { on := 0, ground := Ground.chain }], guard := none }) rfl (fun K hK => ?_) AllReadyH.nil)
     go_simp
     have sC : v.heap.size ≤ (wE.alloc (.cells #[.slice none 0 0, .slice none 0 0] 25)).heap.size := kA.size
     have lBA := BA.lt
     refine (KT.out _ ds0 ea ec hd ((ho.below (below_alloc wE (.cells #[.slice none 0 0, .slice none 0 0] 25)) (Nat.le_refl _)).rd) kA).mono ?_
     rintro e wT ⟨⟨x5, y5, b3, d3, rfl, hv⟩, pT⟩
     have kT : Below v.heap.size v wT := kA.trans (pT.mono kA.size)
     have jT := HC.out kT
     have HV : Hid (ArV 1 (Fr (wE.alloc (.cells #[.slice none 0 0, .slice none 0 0] 25)).heap.size wT.heap.size) wT (.slice x5 1 y5) (.slice b3 m d3) U) := hv
     clear hv
     replace BA := BA.below pT lBA
     go_simp
     refine hK.out _ _ (jT) (fun _ => ?_)
     clear hK K
     refine wpAnyH_take (i := 4) (oi := { dst := some 60, op := Op.move (Operand.tmp 64), type := 29, pos := "law.go:144", after := #[{ on := 3, ground := Ground.data }], guard := none }) (v := .tuple #[.agg #[.slice x5 1 y5, .slice b3 m d3], .int .i64 0]) rfl (by kernel_rfl) (by kernel_rfl) (by kernel_rfl) (fun _ _ _ h => hP _ _ _ _ _ h) (Or.inl ⟨by rfl, (by intro w hSw; (try dsimp only at hSw); go_simp)⟩) (by assumption) ?_
     simp only [Act.put, List.setIfInBounds_toArray, List.set_cons_zero, List.set_cons_succ]
     refine wpAnyH_take (i := 5) (oi := { dst := some 65, op := Op.extract (Operand.tmp 60) 0, type := 25, pos := "law.go:144", after := #[{ on := 4, ground := Ground.data }], guard := none }) (v := .agg #[.slice x5 1 y5, .slice b3 m d3]) rfl (by kernel_rfl) (by kernel_rfl) (by kernel_rfl) (fun _ _ _ h => hP _ _ _ _ _ h) (Or.inl ⟨by rfl, (by intro w hSw; (try dsimp only at hSw); go_simp)⟩) (by assumption) ?_
     simp only [Act.put, List.setIfInBounds_toArray, List.set_cons_zero, List.set_cons_succ]
     refine wpAnyH_take (i := 6) (oi := { dst := some 66, op := Op.extract (Operand.tmp 60) 1, type := 28, pos := "law.go:144", after := #[{ on := 4, ground := Ground.data }, { on := 8, ground := Ground.gcOnly Departure.lateStores }], guard := none }) (v := .int .i64 0) rfl (by kernel_rfl) (by kernel_rfl) (by kernel_rfl) (fun _ _ _ h => hP _ _ _ _ _ h) (Or.inl ⟨by rfl, (by intro w hSw; (try dsimp only at hSw); go_simp)⟩) (by assumption) ?_
     simp only [Act.put, List.setIfInBounds_toArray, List.set_cons_zero, List.set_cons_succ]
     refine wpAnyH_ready (rs := [8]) (by kernel_rfl) (by simp) ?_
     refine (AllReadyH.cons (o := { dst := none, op := Op.store 25 (Operand.tmp 10) (Operand.tmp 65), type := 0, pos := "law.go:144", after := #[{ on := 7, ground := Ground.data }, { on := 5, ground := Ground.data }, { on := 3, ground := Ground.chain }, { on := 0, ground := Ground.phase }, { on := 1, ground := Ground.phase }, { on := 2, ground := Ground.phase }, { on := 3, ground := Ground.phase }, { on := 4, ground := Ground.phase }, { on := 5, ground := Ground.phase }, { on := 6, ground := Ground.textOnly Departure.lateStores }, { on := 7, ground := Ground.phase }], guard := none }) rfl (fun K hK => ?_) AllReadyH.nil)
     go_simp
     have r0 := BA.cell 0 rfl
     have r1 := BA.cell 1 rfl
     have f0 := BA.frozen 0
     have f1 := BA.frozen 1
     have BS := boxA_s1 (boxA_s0 BA (.slice x5 1 y5)) (.slice b3 m d3)
     have kS := Below.set2 kT nA (.slice x5 1 y5) (.slice b3 m d3)
     have jS := HC.out kS
     have HVS : Hid (ArV 1 (Fr v.heap.size ((wT.setCell ⟨wE.heap.size, 0, none⟩ (.slice x5 1 y5)).setCell ⟨wE.heap.size, 1, none⟩ (.slice b3 m d3)).heap.size) ((wT.setCell ⟨wE.heap.size, 0, none⟩ (.slice x5 1 y5)).setCell ⟨wE.heap.size, 1, none⟩ (.slice b3 m d3)) (.slice x5 1 y5) (.slice b3 m d3) U) := ArV.imp (fun q hq => ⟨by have := hq.1; omega, by rw [set1_size, set1_size]; exact hq.2⟩) (fun q hq => by rw [set1_other (by show ¬ wE.heap.size = q; have := hq.1; omega), set1_other (by show ¬ wE.heap.size = q; have := hq.1; omega)]) 1 1 _ _ _ (Nat.le_refl _) HV.out
     go_simp
     refine hK.out _ _ (jS) (fun _ => ?_)
     clear hK K
     refine wpAnyH_take (i := 9) (oi := { dst := some 11, op := Op.assign (Operand.tmp 66), type := 28, pos := "law.go:144", after := #[{ on := 6, ground := Ground.data }, { on := 8, ground := Ground.chain }, { on := 0, ground := Ground.phase }, { on := 1, ground := Ground.phase }, { on := 2, ground := Ground.phase }, { on := 3, ground := Ground.phase }, { on := 4, ground := Ground.phase }, { on := 5, ground := Ground.phase }, { on := 6, ground := Ground.phase }, { on := 7, ground := Ground.phase }, { on := 8, ground := Ground.phase }], guard := none }) (v := .int .i64 0) rfl (by kernel_rfl) (by kernel_rfl) (by kernel_rfl) (fun _ _ _ h => hP _ _ _ _ _ h) (Or.inl ⟨by rfl, (by intro w hSw; (try dsimp only at hSw); go_simp)⟩) (by assumption) ?_
     simp only [Act.put, List.setIfInBounds_toArray, List.set_cons_zero, List.set_cons_succ]
     refine wpAnyH_done (by kernel_rfl) ?_ _
     exact hQ _ ds0 ea ec x5 y5 b3 d3 _ BS nA HVS kS
 · go_simp
   have kA : Below v.heap.size v (v.drew.alloc (.cells #[.slice none 0 0, .slice none 0 0] 25)) := d1.trans ((below_alloc v.drew (.cells #[.slice none 0 0, .slice none 0 0] 25)).mono d1.size)
   have jA := HC.out kA
   have BA : BoxA (v.drew.alloc (.cells #[.slice none 0 0, .slice none 0 0] 25)) v.heap.size 25 #[.slice none 0 0, .slice none 0 0] := boxA_new v.drew #[.slice none 0 0, .slice none 0 0] 25
   have nA : v.heap.size ≤ v.heap.size := d1.size
   go_simp
   refine hK.out _ _ (jA) (fun _ => ?_)
   clear hK K
   refine wpAnyH_ready (rs := [0]) (by kernel_rfl) (by simp) ?_
   refine (AllReadyH.cons (o := { dst := some 61, op := Op.call { callee := Callee.value (Operand.func 8), args := #[], argTypes := #[] }, type := 35, pos := "law.go:144", after := #[], guard := none }) rfl (fun K hK => ?_) AllReadyH.nil)
   go_simp
   refine (env_any _).mono ?_
   rintro e wE ⟨ds0, ea, ec, hd, rfl, ho, pE⟩
   have kE : Below v.heap.size v wE := kA.trans (pE.mono kA.size)
   have jE := HC.out kE
   have lBA := BA.lt
   replace BA := BA.below pE lBA
   clear lBA
   go_simp
   refine hK.out _ _ (jE) (fun _ => ?_)
   clear hK K
   refine wpAnyH_ready (rs := [3]) (by kernel_rfl) (by simp) ?_
   refine (AllReadyH.cons (o := { dst := some 64, op := Op.call { callee := Callee.value (Operand.func 7), args := #[Operand.tmp 61, Operand.const (Value.int IntKind.i32 8743), Operand.tmp 62, Operand.tmp 63], argTypes := #[35, 21, 25, 25] }, type := 29, pos := "law.go:144", after := #[{ on := 0, ground := Ground.data }, { on := 1, ground := Ground.data }, { on := 2, ground := Ground.data }, { on := 0, ground := Ground.chain }], guard := none }) rfl (fun K hK => ?_) AllReadyH.nil)
   go_simp
   have sC : v.heap.size ≤ wE.heap.size := kE.size
   have lBA := BA.lt
   refine (KT.out _ ds0 ea ec hd (ho.rd) kE).mono ?_
   rintro e wT ⟨⟨x5, y5, b3, d3, rfl, hv⟩, pT⟩
   have kT : Below v.heap.size v wT := kE.trans (pT.mono kE.size)
   have jT := HC.out kT
   have HV : Hid (ArV 1 (Fr wE.heap.size wT.heap.size) wT (.slice x5 1 y5) (.slice b3 m d3) U) := hv
   clear hv
   replace BA := BA.below pT lBA
   go_simp
   refine hK.out _ _ (jT) (fun _ => ?_)
   clear hK K
   refine wpAnyH_take (i := 4) (oi := { dst := some 60, op := Op.move (Operand.tmp 64), type := 29, pos := "law.go:144", after := #[{ on := 3, ground := Ground.data }], guard := none }) (v := .tuple #[.agg #[.slice x5 1 y5, .slice b3 m d3], .int .i64 0]) rfl (by kernel_rfl) (by kernel_rfl) (by kernel_rfl) (fun _ _ _ h => hP _ _ _ _ _ h) (Or.inl ⟨by rfl, (by intro w hSw; (try dsimp only at hSw); go_simp)⟩) (by assumption) ?_
   simp only [Act.put, List.setIfInBounds_toArray, List.set_cons_zero, List.set_cons_succ]
   refine wpAnyH_take (i := 5) (oi := { dst := some 65, op := Op.extract (Operand.tmp 60) 0, type := 25, pos := "law.go:144", after := #[{ on := 4, ground := Ground.data }], guard := none }) (v := .agg #[.slice x5 1 y5, .slice b3 m d3]) rfl (by kernel_rfl) (by kernel_rfl) (by kernel_rfl) (fun _ _ _ h => hP _ _ _ _ _ h) (Or.inl ⟨by rfl, (by intro w hSw; (try dsimp only at hSw); go_simp)⟩) (by assumption) ?_
   simp only [Act.put, List.setIfInBounds_toArray, List.set_cons_zero, List.set_cons_succ]
   refine wpAnyH_take (i := 6) (oi := { dst := some 66, op := Op.extract (Operand.tmp 60) 1, type := 28, pos := "law.go:144", after := #[{ on := 4, ground := Ground.data }, { on := 8, ground := Ground.gcOnly Departure.lateStores }], guard := none }) (v := .int .i64 0) rfl (by kernel_rfl) (by kernel_rfl) (by kernel_rfl) (fun _ _ _ h => hP _ _ _ _ _ h) (Or.inl ⟨by rfl, (by intro w hSw; (try dsimp only at hSw); go_simp)⟩) (by assumption) ?_
   simp only [Act.put, List.setIfInBounds_toArray, List.set_cons_zero, List.set_cons_succ]
   refine wpAnyH_ready (rs := [8]) (by kernel_rfl) (by simp) ?_
   refine (AllReadyH.cons (o := { dst := none, op := Op.store 25 (Operand.tmp 10) (Operand.tmp 65), type := 0, pos := "law.go:144", after := #[{ on := 7, ground := Ground.data }, { on := 5, ground := Ground.data }, { on := 3, ground := Ground.chain }, { on := 0, ground := Ground.phase }, { on := 1, ground := Ground.phase }, { on := 2, ground := Ground.phase }, { on := 3, ground := Ground.phase }, { on := 4, ground := Ground.phase }, { on := 5, ground := Ground.phase }, { on := 6, ground := Ground.textOnly Departure.lateStores }, { on := 7, ground := Ground.phase }], guard := none }) rfl (fun K hK => ?_) AllReadyH.nil)
   go_simp
   have r0 := BA.cell 0 rfl
   have r1 := BA.cell 1 rfl
   have f0 := BA.frozen 0
   have f1 := BA.frozen 1
   have BS := boxA_s1 (boxA_s0 BA (.slice x5 1 y5)) (.slice b3 m d3)
   have kS := Below.set2 kT nA (.slice x5 1 y5) (.slice b3 m d3)
   have jS := HC.out kS
   have HVS : Hid (ArV 1 (Fr v.heap.size ((wT.setCell ⟨v.heap.size, 0, none⟩ (.slice x5 1 y5)).setCell ⟨v.heap.size, 1, none⟩ (.slice b3 m d3)).heap.size) ((wT.setCell ⟨v.heap.size, 0, none⟩ (.slice x5 1 y5)).setCell ⟨v.heap.size, 1, none⟩ (.slice b3 m d3)) (.slice x5 1 y5) (.slice b3 m d3) U) := ArV.imp (fun q hq => ⟨by have := hq.1; omega, by rw [set1_size, set1_size]; exact hq.2⟩) (fun q hq => by rw [set1_other (by show ¬ v.heap.size = q; have := hq.1; omega), set1_other (by show ¬ v.heap.size = q; have := hq.1; omega)]) 1 1 _ _ _ (Nat.le_refl _) HV.out
   go_simp
   refine hK.out _ _ (jS) (fun _ => ?_)
   clear hK K
   refine wpAnyH_take (i := 9) (oi := { dst := some 11, op := Op.assign (Operand.tmp 66), type := 28, pos := "law.go:144", after := #[{ on := 6, ground := Ground.data }, { on := 8, ground := Ground.chain }, { on := 0, ground := Ground.phase }, { on := 1, ground := Ground.phase }, { on := 2, ground := Ground.phase }, { on := 3, ground := Ground.phase }, { on := 4, ground := Ground.phase }, { on := 5, ground := Ground.phase }, { on := 6, ground := Ground.phase }, { on := 7, ground := Ground.phase }, { on := 8, ground := Ground.phase }], guard := none }) (v := .int .i64 0) rfl (by kernel_rfl) (by kernel_rfl) (by kernel_rfl) (fun _ _ _ h => hP _ _ _ _ _ h) (Or.inl ⟨by rfl, (by intro w hSw; (try dsimp only at hSw); go_simp)⟩) (by assumption) ?_
   simp only [Act.put, List.setIfInBounds_toArray, List.set_cons_zero, List.set_cons_succ]
   refine wpAnyH_done (by kernel_rfl) ?_ _
   exact hQ _ ds0 ea ec x5 y5 b3 d3 _ BS nA HVS kS
end
section
variable {v : World} {x1 x2 : Option Addr} {n1 y1 n2 y2 ka m : Nat} {U : Tr}
set_option maxRecDepth 100000 in
set_option maxHeartbeats 16000000 in
theorem logic_10 {Q : Exit → Act → World → Prop} {t0 t1 t2 t3 t4 t5 t6 t7 t8 t9 t11 t12 t13 t14 t15 t16 t17 t18 t19 t20 t21 t22 t23 t24 t25 t26 t27 t28 t29 t30 t31 t32 t33 t34 t35 t36 t37 t38 t39 t40 t41 t42 t43 t44 t45 t46 t47 t48 t49 t50 t51 t52 t53 t54 t55 t56 t57 t58 t59 t60 t61 t62 t63 t64 t65 t66 t67 t68 t69 t70 t71 t72 t73 t74 t75 t76 t77 t78 t79 t80 t81 t82 t83 t84 t85 t86 t87 t88 t89 t90 t91 t92 t93 t94 t95 t96 t97 t98 t99 t100 t101 t102 t103 t104 t105 t106 t107 t108 t109 t110 t111 t112 t113 t114 t115 t116 t117 t118 t119 t120 t121 t122 t123 t124 t125 t126 t127 t128 t129 t130 t131 t132 t133 t134 t135 t136 t137 t138 t139 t140 t141 t142 t143 t144 t145 t146 t147 t148 : Value} (HC : Hid (∀ {w' : World}, Below v.heap.size v w' → w'.cell? ⟨ka, 0, none⟩ = some (.slice x1 n1 y1) ∧ w'.cell? ⟨ka, 1, none⟩ = some (.slice x2 n2 y2)))
    (KT : Hid (∀ u (ds0 : List Int) ea ec, Hid (ds0 = [(1 : Int)]) → Rd u.heap.size u (.slice ea ds0.length ec) ds0 → Below v.heap.size v u → Calls Tryz.prog 11 #[.agg #[.int .i64 1, .bool false, .slice none 0 0, .slice ea ds0.length ec, .int .i64 0], .int .i32 126, .agg #[.slice x1 n1 y1, .slice x2 n2 y2]] u fun e w' => (∃ x5 y5 b3 d3, e = .returned (.tuple #[.agg #[.slice x5 1 y5, .slice b3 m d3], .int .i64 0]) ∧ ArV 1 (Fr u.heap.size w'.heap.size) w' (.slice x5 1 y5) (.slice b3 m d3) U) ∧ Below u.heap.size u w'))
    (hQ : ∀ A (ds0 : List Int) ea ec x5 y5 b3 d3 w', BoxA w' A 25 #[.slice x5 1 y5, .slice b3 m d3] → v.heap.size ≤ A → Hid (ArV 1 (Fr v.heap.size w'.heap.size) w' (.slice x5 1 y5) (.slice b3 m d3) U) → Below v.heap.size v w' → Q .normal { tmps := #[t0, t1, t2, t3, t4, t5, t6, t7, t8, t9, .pointer (some ⟨ka, 0, none⟩), t11, t12, t13, .pointer (some ⟨A, 0, none⟩), .int .i64 0, t16, t17, t18, t19, t20, t21, t22, t23, t24, t25, t26, t27, t28, t29, t30, t31, t32, t33, t34, t35, t36, t37, t38, t39, t40, t41, t42, t43, t44, t45, t46, t47, t48, t49, t50, t51, t52, t53, t54, t55, t56, t57, t58, t59, t60, t61, t62, t63, t64, t65, t66, t67, t68, t69, t70, t71, t72, t73, .tuple #[.agg #[.slice x5 1 y5, .slice b3 m d3], .int .i64 0], .agg #[.int .i64 1, .bool false, .slice none 0 0, .slice ea ds0.length ec, .int .i64 0], .agg #[.slice x1 n1 y1, .slice x2 n2 y2], .tuple #[.agg #[.slice x5 1 y5, .slice b3 m d3], .int .i64 0], .agg #[.slice x5 1 y5, .slice b3 m d3], .int .i64 0, t80, t81, t82, t83, t84, t85, t86, t87, t88, t89, t90, t91, t92, t93, t94, t95, t96, t97, t98, t99, t100, t101, t102, t103, t104, t105, t106, t107, t108, t109, t110, t111, t112, t113, t114, t115, t116, t117, t118, t119, t120, t121, t122, t123, t124, t125, t126, t127, t128, t129, t130, t131, t132, t133, t134, t135, t136, t137, t138, t139, t140, t141, t142, t143, t144, t145, t146, t147, t148], defers := [] } w') (hP : ∀ c a d x w, Q (.panic c) (Act.put a d x) w → Q (.panic c) a w) :
    (Code.region 10 #[{ dst := some 75, op := Op.call { callee := Callee.value (Operand.func 8), args := #[], argTypes := #[] }, type := 35, pos := "law.go:146", after := #[], guard := none }, { dst := some 76, op := Op.load 25 (Operand.tmp 10), type := 25, pos := "law.go:146", after := #[], guard := none }, { dst := some 77, op := Op.call { callee := Callee.value (Operand.func 11), args := #[Operand.tmp 75, Operand.const (Value.int IntKind.i32 126), Operand.tmp 76], argTypes := #[35, 21, 25] }, type := 29, pos := "law.go:146", after := #[{ on := 0, ground := Ground.data }, { on := 1, ground := Ground.data }, { on := 0, ground := Ground.chain }], guard := none }, { dst := some 74, op := Op.move (Operand.tmp 77), type := 29, pos := "law.go:146", after := #[{ on := 2, ground := Ground.data }], guard := none }, { dst := some 78, op := Op.extract (Operand.tmp 74) 0, type := 25, pos := "law.go:146", after := #[{ on := 3, ground := Ground.data }], guard := none }, { dst := some 79, op := Op.extract (Operand.tmp 74) 1, type := 28, pos := "law.go:146", after := #[{ on := 3, ground := Ground.data }, { on := 7, ground := Ground.gcOnly Departure.lateStores }], guard := none }, { dst := some 14, op := Op.alloc 25, type := 0, pos := "law.go:146", after := #[], guard := none }, { dst := none, op := Op.store 25 (Operand.tmp 14) (Operand.tmp 78), type := 0, pos := "law.go:146", after := #[{ on := 6, ground := Ground.data }, { on := 4, ground := Ground.data }, { on := 2, ground := Ground.chain }, { on := 0, ground := Ground.phase }, { on := 1, ground := Ground.phase }, { on := 2, ground := Ground.phase }, { on := 3, ground := Ground.phase }, { on := 4, ground := Ground.phase }, { on := 5, ground := Ground.textOnly Departure.lateStores }, { on := 6, ground := Ground.phase }], guard := none }, { dst := some 15, op := Op.assign (Operand.tmp 79), type := 28, pos := "law.go:146", after := #[{ on := 5, ground := Ground.data }, { on := 7, ground := Ground.chain }, { on := 0, ground := Ground.phase }, { on := 1, ground := Ground.phase }, { on := 2, ground := Ground.phase }, { on := 3, ground := Ground.phase }, { on := 4, ground := Ground.phase }, { on := 5, ground := Ground.phase }, { on := 6, ground := Ground.phase }, { on := 7, ground := Ground.phase }], guard := none }] true).wp Tryz.prog Q { tmps := #[t0, t1, t2, t3, t4, t5, t6, t7, t8, t9, .pointer (some ⟨ka, 0, none⟩), t11, t12, t13, t14, t15, t16, t17, t18, t19, t20, t21, t22, t23, t24, t25, t26, t27, t28, t29, t30, t31, t32, t33, t34, t35, t36, t37, t38, t39, t40, t41, t42, t43, t44, t45, t46, t47, t48, t49, t50, t51, t52, t53, t54, t55, t56, t57, t58, t59, t60, t61, t62, t63, t64, t65, t66, t67, t68, t69, t70, t71, t72, t73, t74, t75, t76, t77, t78, t79, t80, t81, t82, t83, t84, t85, t86, t87, t88, t89, t90, t91, t92, t93, t94, t95, t96, t97, t98, t99, t100, t101, t102, t103, t104, t105, t106, t107, t108, t109, t110, t111, t112, t113, t114, t115, t116, t117, t118, t119, t120, t121, t122, t123, t124, t125, t126, t127, t128, t129, t130, t131, t132, t133, t134, t135, t136, t137, t138, t139, t140, t141, t142, t143, t144, t145, t146, t147, t148], defers := [] } v := by
 have d1 : Below v.heap.size v v.drew := ⟨rfl, rfl, rfl, Nat.le_refl _, fun _ _ => rfl⟩
 have j0 := HC.out d1
 refine wp_region_held_drew (S := (fun w' => w'.cell? ⟨ka, 0, none⟩ = some (.slice x1 n1 y1) ∧ w'.cell? ⟨ka, 1, none⟩ = some (.slice x2 n2 y2))) (by kernel_rfl) j0 (fun hS => ?_)
 refine wpAnyH_take (i := 1) (oi := { dst := some 76, op := Op.load 25 (Operand.tmp 10), type := 25, pos := "law.go:146", after := #[], guard := none }) (v := .agg #[.slice x1 n1 y1, .slice x2 n2 y2]) rfl (by kernel_rfl) (by kernel_rfl) (by kernel_rfl) (fun _ _ _ h => hP _ _ _ _ _ h) (Or.inl ⟨by rfl, (by intro w hSw; (try dsimp only at hSw); go_simp)⟩) (by assumption) ?_
 simp only [Act.put, List.setIfInBounds_toArray, List.set_cons_zero, List.set_cons_succ]
 refine wpAnyH_ready (rs := [0, 6]) (by kernel_rfl) (by simp) ?_
 refine (AllReadyH.cons (o := { dst := some 75, op := Op.call { callee := Callee.value (Operand.func 8), args := #[], argTypes := #[] }, type := 35, pos := "law.go:146", after := #[], guard := none }) rfl (fun K hK => ?_) (AllReadyH.cons (o := { dst := some 14, op := Op.alloc 25, type := 0, pos := "law.go:146", after := #[], guard := none }) rfl (fun K hK => ?_) AllReadyH.nil))
 · go_simp
   refine (env_any _).mono ?_
   rintro e wE ⟨ds0, ea, ec, hd, rfl, ho, pE⟩
   have kE : Below v.heap.size v wE := d1.trans (pE.mono d1.size)
   have jE := HC.out kE
   go_simp
   refine hK.out _ _ (jE) (fun _ => ?_)
   clear hK K
   refine wpAnyH_ready (rs := [2, 6]) (by kernel_rfl) (by simp) ?_
   refine (AllReadyH.cons (o := { dst := some 77, op := Op.call { callee := Callee.value (Operand.func 11), args := #[Operand.tmp 75, Operand.const (Value.int IntKind.i32 126), Operand.tmp 76], argTypes := #[35, 21, 25] }, type := 29, pos := "law.go:146", after := #[{ on := 0, ground := Ground.data }, { on := 1, ground := Ground.data }, { on := 0, ground := Ground.chain }], guard := none }) rfl (fun K hK => ?_) (AllReadyH.cons (o := { dst := some 14, op := Op.alloc 25, type := 0, pos := "law.go:146", after := #[], guard := none }) rfl (fun K hK => ?_) AllReadyH.nil))
   · go_simp
     have sC : v.heap.size ≤ wE.heap.size := kE.size
     refine (KT.out _ ds0 ea ec hd (ho.rd) kE).mono ?_
     rintro e wT ⟨⟨x5, y5, b3, d3, rfl, hv⟩, pT⟩
     have kT : Below v.heap.size v wT := kE.trans (pT.mono kE.size)
     have jT := HC.out kT
     have HV : Hid (ArV 1 (Fr wE.heap.size wT.heap.size) wT (.slice x5 1 y5) (.slice b3 m d3) U) := hv
     clear hv
     go_simp
     refine hK.out _ _ (jT) (fun _ => ?_)
     clear hK K
     refine wpAnyH_take (i := 3) (oi := { dst := some 74, op := Op.move (Operand.tmp 77), type := 29, pos := "law.go:146", after := #[{ on := 2, ground := Ground.data }], guard := none }) (v := .tuple #[.agg #[.slice x5 1 y5, .slice b3 m d3], .int .i64 0]) rfl (by kernel_rfl) (by kernel_rfl) (by kernel_rfl) (fun _ _ _ h => hP _ _ _ _ _ h) (Or.inl ⟨by rfl, (by intro w hSw; (try dsimp only at hSw); go_simp)⟩) (by assumption) ?_
     simp only [Act.put, List.setIfInBounds_toArray, List.set_cons_zero, List.set_cons_succ]
     refine wpAnyH_take (i := 4) (oi := { dst := some 78, op := Op.extract (Operand.tmp 74) 0, type := 25, pos := "law.go:146", after := #[{ on := 3, ground := Ground.data }], guard := none }) (v := .agg #[.slice x5 1 y5, .slice b3 m d3]) rfl (by kernel_rfl) (by kernel_rfl) (by kernel_rfl) (fun _ _ _ h => hP _ _ _ _ _ h) (Or.inl ⟨by rfl, (by intro w hSw; (try dsimp only at hSw); go_simp)⟩) (by assumption) ?_
     simp only [Act.put, List.setIfInBounds_toArray, List.set_cons_zero, List.set_cons_succ]
     refine wpAnyH_take (i := 5) (oi := { dst := some 79, op := Op.extract (Operand.tmp 74) 1, type := 28, pos := "law.go:146", after := #[{ on := 3, ground := Ground.data }, { on := 7, ground := Ground.gcOnly Departure.lateStores }], guard := none }) (v := .int .i64 0) rfl (by kernel_rfl) (by kernel_rfl) (by kernel_rfl) (fun _ _ _ h => hP _ _ _ _ _ h) (Or.inl ⟨by rfl, (by intro w hSw; (try dsimp only at hSw); go_simp)⟩) (by assumption) ?_
     simp only [Act.put, List.setIfInBounds_toArray, List.set_cons_zero, List.set_cons_succ]
     refine wpAnyH_ready (rs := [6]) (by kernel_rfl) (by simp) ?_
     refine (AllReadyH.cons (o := { dst := some 14, op := Op.alloc 25, type := 0, pos := "law.go:146", after := #[], guard := none }) rfl (fun K hK => ?_) AllReadyH.nil)
     go_simp
     have kA : Below v.heap.size v (wT.alloc (.cells #[.slice none 0 0, .slice none 0 0] 25)) := kT.trans ((below_alloc wT (.cells #[.slice none 0 0, .slice none 0 0] 25)).mono kT.size)
     have jA := HC.out kA
     have BA : BoxA (wT.alloc (.cells #[.slice none 0 0, .slice none 0 0] 25)) wT.heap.size 25 #[.slice none 0 0, .slice none 0 0] := boxA_new wT #[.slice none 0 0, .slice none 0 0] 25
     have nA : v.heap.size ≤ wT.heap.size := kT.size
     go_simp
     refine hK.out _ _ (jA) (fun _ => ?_)
     clear hK K
     refine wpAnyH_ready (rs := [7]) (by kernel_rfl) (by simp) ?_
     refine (AllReadyH.cons (o := { dst := none, op := Op.store 25 (Operand.tmp 14) (Operand.tmp 78), type := 0, pos := "law.go:146", after := #[{ on := 6, ground := Ground.data }, { on := 4, ground := Ground.data }, { on := 2, ground := Ground.chain }, { on := 0, ground := Ground.phase }, { on := 1, ground := Ground.phase }, { on := 2, ground := Ground.phase }, { on := 3, ground := Ground.phase }, { on := 4, ground := Ground.phase }, { on := 5, ground := Ground.textOnly Departure.lateStores }, { on := 6, ground := Ground.phase }], guard := none }) rfl (fun K hK => ?_) AllReadyH.nil)
     go_simp
     have r0 := BA.cell 0 rfl
     have r1 := BA.cell 1 rfl
     have f0 := BA.frozen 0
     have f1 := BA.frozen 1
     have BS := boxA_new wT #[.slice x5 1 y5, .slice b3 m d3] 25
     have kS : Below v.heap.size v (wT.alloc (.cells #[.slice x5 1 y5, .slice b3 m d3] 25)) := kT.trans ((below_alloc wT (.cells #[.slice x5 1 y5, .slice b3 m d3] 25)).mono kT.size)
     have jS := HC.out kS
     have HVS : Hid (ArV 1 (Fr v.heap.size (wT.alloc (.cells #[.slice x5 1 y5, .slice b3 m d3] 25)).heap.size) (wT.alloc (.cells #[.slice x5 1 y5, .slice b3 m d3] 25)) (.slice x5 1 y5) (.slice b3 m d3) U) := ArV.imp (fun q hq => ⟨by have := hq.1; omega, by rw [World.size_alloc]; have := hq.2; omega⟩) (fun q hq => (below_alloc wT (.cells #[.slice x5 1 y5, .slice b3 m d3] 25)).block q hq.2) 1 1 _ _ _ (Nat.le_refl _) HV.out
     go_simp
     refine hK.out _ _ (jS) (fun _ => ?_)
     clear hK K
     refine wpAnyH_take (i := 8) (oi := { dst := some 15, op := Op.assign (Operand.tmp 79), type := 28, pos := "law.go:146", after := #[{ on := 5, ground := Ground.data }, { on := 7, ground := Ground.chain }, { on := 0, ground := Ground.phase }, { on := 1, ground := Ground.phase }, { on := 2, ground := Ground.phase }, { on := 3, ground := Ground.phase }, { on := 4, ground := Ground.phase }, { on := 5, ground := Ground.phase }, { on := 6, ground := Ground.phase }, { on := 7, ground := Ground.phase }], guard := none }) (v := .int .i64 0) rfl (by kernel_rfl) (by kernel_rfl) (by kernel_rfl) (fun _ _ _ h => hP _ _ _ _ _ h) (Or.inl ⟨by rfl, (by intro w hSw; (try dsimp only at hSw); go_simp)⟩) (by assumption) ?_
     simp only [Act.put, List.setIfInBounds_toArray, List.set_cons_zero, List.set_cons_succ]
     refine wpAnyH_done (by kernel_rfl) ?_ _
     exact hQ _ ds0 ea ec x5 y5 b3 d3 _ BS nA HVS kS
   · go_simp
     have kA : Below v.heap.size v (wE.alloc (.cells #[.slice none 0 0, .slice none 0 0] 25)) := kE.trans ((below_alloc wE (.cells #[.slice none 0 0, .slice none 0 0] 25)).mono kE.size)
     have jA := HC.out kA
     have BA : BoxA (wE.alloc (.cells #[.slice none 0 0, .slice none 0 0] 25)) wE.heap.size 25 #[.slice none 0 0, .slice none 0 0] := boxA_new wE #[.slice none 0 0, .slice none 0 0] 25
     have nA : v.heap.size ≤ wE.heap.size := kE.size
     go_simp
     refine hK.out _ _ (jA) (fun _ => ?_)
     clear hK K
     refine wpAnyH_ready (rs := [2]) (by kernel_rfl) (by simp) ?_
     refine (AllReadyH.cons (o := { dst := some 77, op := Op.call { callee := Callee.value (Operand.func 11), args := #[Operand.tmp 75, Operand.const (Value.int IntKind.i32 126), Operand.tmp 76], argTypes := #[35, 21, 25] }, type := 29, pos := "law.go:146", after := #[{ on := 0, ground := Ground.data }, { on := 1, ground := Ground.data }, { on := 0, ground := Ground.chain }], guard := none }) rfl (fun K hK => ?_) AllReadyH.nil)
     go_simp
     have sC : v.heap.size ≤ (wE.alloc (.cells #[.slice none 0 0, .slice none 0 0] 25)).heap.size := kA.size
     have lBA := BA.lt
     refine (KT.out _ ds0 ea ec hd ((ho.below (below_alloc wE (.cells #[.slice none 0 0, .slice none 0 0] 25)) (Nat.le_refl _)).rd) kA).mono ?_
     rintro e wT ⟨⟨x5, y5, b3, d3, rfl, hv⟩, pT⟩
     have kT : Below v.heap.size v wT := kA.trans (pT.mono kA.size)
     have jT := HC.out kT
     have HV : Hid (ArV 1 (Fr (wE.alloc (.cells #[.slice none 0 0, .slice none 0 0] 25)).heap.size wT.heap.size) wT (.slice x5 1 y5) (.slice b3 m d3) U) := hv
     clear hv
     replace BA := BA.below pT lBA
     go_simp
     refine hK.out _ _ (jT) (fun _ => ?_)
     clear hK K
     refine wpAnyH_take (i := 3) (oi := { dst := some 74, op := Op.move (Operand.tmp 77), type := 29, pos := "law.go:146", after := #[{ on := 2, ground := Ground.data }], guard := none }) (v := .tuple #[.agg #[.slice x5 1 y5, .slice b3 m d3], .int .i64 0]) rfl (by kernel_rfl) (by kernel_rfl) (by kernel_rfl) (fun _ _ _ h => hP _ _ _ _ _ h) (Or.inl ⟨by rfl, (by intro w hSw; (try dsimp only at hSw); go_simp)⟩) (by assumption) ?_
     simp only [Act.put, List.setIfInBounds_toArray, List.set_cons_zero, List.set_cons_succ]
     refine wpAnyH_take (i := 4) (oi := { dst := some 78, op := Op.extract (Operand.tmp 74) 0, type := 25, pos := "law.go:146", after := #[{ on := 3, ground := Ground.data }], guard := none }) (v := .agg #[.slice x5 1 y5, .slice b3 m d3]) rfl (by kernel_rfl) (by kernel_rfl) (by kernel_rfl) (fun _ _ _ h => hP _ _ _ _ _ h) (Or.inl ⟨by rfl, (by intro w hSw; (try dsimp only at hSw); go_simp)⟩) (by assumption) ?_
     simp only [Act.put, List.setIfInBounds_toArray, List.set_cons_zero, List.set_cons_succ]
     refine wpAnyH_take (i := 5) (oi := { dst := some 79, op := Op.extract (Operand.tmp 74) 1, type := 28, pos := "law.go:146", after := #[{ on := 3, ground := Ground.data }, { on := 7, ground := Ground.gcOnly Departure.lateStores }], guard := none }) (v := .int .i64 0) rfl (by kernel_rfl) (by kernel_rfl) (by kernel_rfl) (fun _ _ _ h => hP _ _ _ _ _ h) (Or.inl ⟨by rfl, (by intro w hSw; (try dsimp only at hSw); go_simp)⟩) (by assumption) ?_
     simp only [Act.put, List.setIfInBounds_toArray, List.set_cons_zero, List.set_cons_succ]
     refine wpAnyH_ready (rs := [7]) (by kernel_rfl) (by simp) ?_
     refine (AllReadyH.cons (o := { dst := none, op := Op.store 25 (Operand.tmp 14) (Operand.tmp 78), type := 0, pos := "law.go:146", after := #[{ on := 6, ground := Ground.data }, { on := 4, ground := Ground.data }, { on := 2, ground := Ground.chain }, { on := 0, ground := Ground.phase }, { on := 1, ground := Ground.phase }, { on := 2, ground := Ground.phase }, { on := 3, ground := Ground.phase }, { on := 4, ground := Ground.phase }, { on := 5, ground := Ground.textOnly Departure.lateStores }, { on := 6, ground := Ground.phase }], guard := none }) rfl (fun K hK => ?_) AllReadyH.nil)
     go_simp
     have r0 := BA.cell 0 rfl
     have r1 := BA.cell 1 rfl
     have f0 := BA.frozen 0
     have f1 := BA.frozen 1
     have BS := boxA_s1 (boxA_s0 BA (.slice x5 1 y5)) (.slice b3 m d3)
     have kS := Below.set2 kT nA (.slice x5 1 y5) (.slice b3 m d3)
     have jS := HC.out kS
     have HVS : Hid (ArV 1 (Fr v.heap.size ((wT.setCell ⟨wE.heap.size, 0, none⟩ (.slice x5 1 y5)).setCell ⟨wE.heap.size, 1, none⟩ (.slice b3 m d3)).heap.size) ((wT.setCell ⟨wE.heap.size, 0, none⟩ (.slice x5 1 y5)).setCell ⟨wE.heap.size, 1, none⟩ (.slice b3 m d3)) (.slice x5 1 y5) (.slice b3 m d3) U) := ArV.imp (fun q hq => ⟨by have := hq.1; omega, by rw [set1_size, set1_size]; exact hq.2⟩) (fun q hq => by rw [set1_other (by show ¬ wE.heap.size = q; have := hq.1; omega), set1_other (by show ¬ wE.heap.size = q; have := hq.1; omega)]) 1 1 _ _ _ (Nat.le_refl _) HV.out
     go_simp
     refine hK.out _ _ (jS) (fun _ => ?_)
     clear hK K
     refine wpAnyH_take (i := 8) (oi := { dst := some 15, op := Op.assign (Operand.tmp 79), type := 28, pos := "law.go:146", after := #[{ on := 5, ground := Ground.data }, { on := 7, ground := Ground.chain }, { on := 0, ground := Ground.phase }, { on := 1, ground := Ground.phase }, { on := 2, ground := Ground.phase }, { on := 3, ground := Ground.phase }, { on := 4, ground := Ground.phase }, { on := 5, ground := Ground.phase }, { on := 6, ground := Ground.phase }, { on := 7, ground := Ground.phase }], guard := none }) (v := .int .i64 0) rfl (by kernel_rfl) (by kernel_rfl) (by kernel_rfl) (fun _ _ _ h => hP _ _ _ _ _ h) (Or.inl ⟨by rfl, (by intro w hSw; (try dsimp only at hSw); go_simp)⟩) (by assumption) ?_
     simp only [Act.put, List.setIfInBounds_toArray, List.set_cons_zero, List.set_cons_succ]
     refine wpAnyH_done (by kernel_rfl) ?_ _
     exact hQ _ ds0 ea ec x5 y5 b3 d3 _ BS nA HVS kS
 · go_simp
   have kA : Below v.heap.size v (v.drew.alloc (.cells #[.slice none 0 0, .slice none 0 0] 25)) := d1.trans ((below_alloc v.drew (.cells #[.slice none 0 0, .slice none 0 0] 25)).mono d1.size)
   have jA := HC.out kA
   have BA : BoxA (v.drew.alloc (.cells #[.slice none 0 0, .slice none 0 0] 25)) v.heap.size 25 #[.slice none 0 0, .slice none 0 0] := boxA_new v.drew #[.slice none 0 0, .slice none 0 0] 25
   have nA : v.heap.size ≤ v.heap.size := d1.size
   go_simp
   refine hK.out _ _ (jA) (fun _ => ?_)
   clear hK K
   refine wpAnyH_ready (rs := [0]) (by kernel_rfl) (by simp) ?_
   refine (AllReadyH.cons (o := { dst := some 75, op := Op.call { callee := Callee.value (Operand.func 8), args := #[], argTypes := #[] }, type := 35, pos := "law.go:146", after := #[], guard := none }) rfl (fun K hK => ?_) AllReadyH.nil)
   go_simp
   refine (env_any _).mono ?_
   rintro e wE ⟨ds0, ea, ec, hd, rfl, ho, pE⟩
   have kE : Below v.heap.size v wE := kA.trans (pE.mono kA.size)
   have jE := HC.out kE
   have lBA := BA.lt
   replace BA := BA.below pE lBA
   clear lBA
   go_simp
   refine hK.out _ _ (jE) (fun _ => ?_)
   clear hK K
   refine wpAnyH_ready (rs := [2]) (by kernel_rfl) (by simp) ?_
   refine (AllReadyH.cons (o := { dst := some 77, op := Op.call { callee := Callee.value (Operand.func 11), args := #[Operand.tmp 75, Operand.const (Value.int IntKind.i32 126), Operand.tmp 76], argTypes := #[35, 21, 25] }, type := 29, pos := "law.go:146", after := #[{ on := 0, ground := Ground.data }, { on := 1, ground := Ground.data }, { on := 0, ground := Ground.chain }], guard := none }) rfl (fun K hK => ?_) AllReadyH.nil)
   go_simp
   have sC : v.heap.size ≤ wE.heap.size := kE.size
   have lBA := BA.lt
   refine (KT.out _ ds0 ea ec hd (ho.rd) kE).mono ?_
   rintro e wT ⟨⟨x5, y5, b3, d3, rfl, hv⟩, pT⟩
   have kT : Below v.heap.size v wT := kE.trans (pT.mono kE.size)
   have jT := HC.out kT
   have HV : Hid (ArV 1 (Fr wE.heap.size wT.heap.size) wT (.slice x5 1 y5) (.slice b3 m d3) U) := hv
   clear hv
   replace BA := BA.below pT lBA
   go_simp
   refine hK.out _ _ (jT) (fun _ => ?_)
   clear hK K
   refine wpAnyH_take (i := 3) (oi := { dst := some 74, op := Op.move (Operand.tmp 77), type := 29, pos := "law.go:146", after := #[{ on := 2, ground := Ground.data }], guard := none }) (v := .tuple #[.agg #[.slice x5 1 y5, .slice b3 m d3], .int .i64 0]) rfl (by kernel_rfl) (by kernel_rfl) (by kernel_rfl) (fun _ _ _ h => hP _ _ _ _ _ h) (Or.inl ⟨by rfl, (by intro w hSw; (try dsimp only at hSw); go_simp)⟩) (by assumption) ?_
   simp only [Act.put, List.setIfInBounds_toArray, List.set_cons_zero, List.set_cons_succ]
   refine wpAnyH_take (i := 4) (oi := { dst := some 78, op := Op.extract (Operand.tmp 74) 0, type := 25, pos := "law.go:146", after := #[{ on := 3, ground := Ground.data }], guard := none }) (v := .agg #[.slice x5 1 y5, .slice b3 m d3]) rfl (by kernel_rfl) (by kernel_rfl) (by kernel_rfl) (fun _ _ _ h => hP _ _ _ _ _ h) (Or.inl ⟨by rfl, (by intro w hSw; (try dsimp only at hSw); go_simp)⟩) (by assumption) ?_
   simp only [Act.put, List.setIfInBounds_toArray, List.set_cons_zero, List.set_cons_succ]
   refine wpAnyH_take (i := 5) (oi := { dst := some 79, op := Op.extract (Operand.tmp 74) 1, type := 28, pos := "law.go:146", after := #[{ on := 3, ground := Ground.data }, { on := 7, ground := Ground.gcOnly Departure.lateStores }], guard := none }) (v := .int .i64 0) rfl (by kernel_rfl) (by kernel_rfl) (by kernel_rfl) (fun _ _ _ h => hP _ _ _ _ _ h) (Or.inl ⟨by rfl, (by intro w hSw; (try dsimp only at hSw); go_simp)⟩) (by assumption) ?_
   simp only [Act.put, List.setIfInBounds_toArray, List.set_cons_zero, List.set_cons_succ]
   refine wpAnyH_ready (rs := [7]) (by kernel_rfl) (by simp) ?_
   refine (AllReadyH.cons (o := { dst := none, op := Op.store 25 (Operand.tmp 14) (Operand.tmp 78), type := 0, pos := "law.go:146", after := #[{ on := 6, ground := Ground.data }, { on := 4, ground := Ground.data }, { on := 2, ground := Ground.chain }, { on := 0, ground := Ground.phase }, { on := 1, ground := Ground.phase }, { on := 2, ground := Ground.phase }, { on := 3, ground := Ground.phase }, { on := 4, ground := Ground.phase }, { on := 5, ground := Ground.textOnly Departure.lateStores }, { on := 6, ground := Ground.phase }], guard := none }) rfl (fun K hK => ?_) AllReadyH.nil)
   go_simp
   have r0 := BA.cell 0 rfl
   have r1 := BA.cell 1 rfl
   have f0 := BA.frozen 0
   have f1 := BA.frozen 1
   have BS := boxA_s1 (boxA_s0 BA (.slice x5 1 y5)) (.slice b3 m d3)
   have kS := Below.set2 kT nA (.slice x5 1 y5) (.slice b3 m d3)
   have jS := HC.out kS
   have HVS : Hid (ArV 1 (Fr v.heap.size ((wT.setCell ⟨v.heap.size, 0, none⟩ (.slice x5 1 y5)).setCell ⟨v.heap.size, 1, none⟩ (.slice b3 m d3)).heap.size) ((wT.setCell ⟨v.heap.size, 0, none⟩ (.slice x5 1 y5)).setCell ⟨v.heap.size, 1, none⟩ (.slice b3 m d3)) (.slice x5 1 y5) (.slice b3 m d3) U) := ArV.imp (fun q hq => ⟨by have := hq.1; omega, by rw [set1_size, set1_size]; exact hq.2⟩) (fun q hq => by rw [set1_other (by show ¬ v.heap.size = q; have := hq.1; omega), set1_other (by show ¬ v.heap.size = q; have := hq.1; omega)]) 1 1 _ _ _ (Nat.le_refl _) HV.out
   go_simp
   refine hK.out _ _ (jS) (fun _ => ?_)
   clear hK K
   refine wpAnyH_take (i := 8) (oi := { dst := some 15, op := Op.assign (Operand.tmp 79), type := 28, pos := "law.go:146", after := #[{ on := 5, ground := Ground.data }, { on := 7, ground := Ground.chain }, { on := 0, ground := Ground.phase }, { on := 1, ground := Ground.phase }, { on := 2, ground := Ground.phase }, { on := 3, ground := Ground.phase }, { on := 4, ground := Ground.phase }, { on := 5, ground := Ground.phase }, { on := 6, ground := Ground.phase }, { on := 7, ground := Ground.phase }], guard := none }) (v := .int .i64 0) rfl (by kernel_rfl) (by kernel_rfl) (by kernel_rfl) (fun _ _ _ h => hP _ _ _ _ _ h) (Or.inl ⟨by rfl, (by intro w hSw; (try dsimp only at hSw); go_simp)⟩) (by assumption) ?_
   simp only [Act.put, List.setIfInBounds_toArray, List.set_cons_zero, List.set_cons_succ]
   refine wpAnyH_done (by kernel_rfl) ?_ _
   exact hQ _ ds0 ea ec x5 y5 b3 d3 _ BS nA HVS kS
end
end Go.Proofs.YtmijanocljmaeaaGreat

/- ScalarLogic's drawn regions, 2. -/
namespace Go.Proofs.YtmijanocljmaeaaGreat
set_option linter.unusedVariables false
set_option linter.unusedSimpArgs false
open Go.RowKit

section
variable {v : World} {x1 x2 : Option Addr} {n1 y1 n2 y2 ka m : Nat} {x3 x4 : Option Addr} {n3 y3 n4 y4 kb : Nat} {U : Tr}
set_option maxRecDepth 100000 in
set_option maxHeartbeats 16000000 in
theorem logic_9 {Q : Exit → Act → World → Prop} {t0 t1 t2 t3 t4 t5 t6 t7 t10 t11 t12 t13 t14 t15 t16 t17 t18 t19 t20 t21 t22 t23 t24 t25 t26 t27 t28 t29 t30 t31 t32 t33 t34 t35 t36 t37 t38 t39 t40 t41 t42 t43 t44 t45 t46 t47 t48 t49 t50 t51 t52 t53 t54 t55 t56 t57 t58 t59 t60 t61 t62 t63 t64 t65 t66 t67 t68 t69 t70 t71 t72 t73 t74 t75 t76 t77 t78 t79 t80 t81 t82 t83 t84 t85 t86 t87 t88 t89 t90 t91 t92 t93 t94 t95 t96 t97 t98 t99 t100 t101 t102 t103 t104 t105 t106 t107 t108 t109 t110 t111 t112 t113 t114 t115 t116 t117 t118 t119 t120 t121 t122 t123 t124 t125 t126 t127 t128 t129 t130 t131 t132 t133 t134 t135 t136 t137 t138 t139 t140 t141 t142 t143 t144 t145 t146 t147 t148 : Value} (HC : Hid (∀ {w' : World}, Below v.heap.size v w' → w'.cell? ⟨ka, 0, none⟩ = some (.slice x1 n1 y1) ∧ w'.cell? ⟨ka, 1, none⟩ = some (.slice x2 n2 y2) ∧ w'.cell? ⟨kb, 0, none⟩ = some (.slice x3 n3 y3) ∧ w'.cell? ⟨kb, 1, none⟩ = some (.slice x4 n4 y4)))
    (KT : Hid (∀ u (ds0 : List Int) ea ec, Hid (ds0 = [(1 : Int)]) → Rd u.heap.size u (.slice ea ds0.length ec) ds0 → Below v.heap.size v u → Calls Tryz.prog 7 #[.agg #[.int .i64 1, .bool false, .slice none 0 0, .slice ea ds0.length ec, .int .i64 0], .int .i32 9074, .agg #[.slice x1 n1 y1, .slice x2 n2 y2], .agg #[.slice x3 n3 y3, .slice x4 n4 y4]] u fun e w' => (∃ x5 y5 b3 d3, e = .returned (.tuple #[.agg #[.slice x5 1 y5, .slice b3 m d3], .int .i64 0]) ∧ ArV 1 (Fr u.heap.size w'.heap.size) w' (.slice x5 1 y5) (.slice b3 m d3) U) ∧ Below u.heap.size u w'))
    (hQ : ∀ A (ds0 : List Int) ea ec x5 y5 b3 d3 w', BoxA w' A 25 #[.slice x5 1 y5, .slice b3 m d3] → v.heap.size ≤ A → Hid (ArV 1 (Fr v.heap.size w'.heap.size) w' (.slice x5 1 y5) (.slice b3 m d3) U) → Below v.heap.size v w' → Q .normal { tmps := #[t0, t1, t2, t3, t4, t5, t6, t7, .pointer (some ⟨ka, 0, none⟩), .pointer (some ⟨kb, 0, none⟩), t10, t11, .pointer (some ⟨A, 0, none⟩), .int .i64 0, t14, t15, t16, t17, t18, t19, t20, t21, t22, t23, t24, t25, t26, t27, t28, t29, t30, t31, t32, t33, t34, t35, t36, t37, t38, t39, t40, t41, t42, t43, t44, t45, t46, t47, t48, t49, t50, t51, t52, t53, t54, t55, t56, t57, t58, t59, t60, t61, t62, t63, t64, t65, t66, .tuple #[.agg #[.slice x5 1 y5, .slice b3 m d3], .int .i64 0], .agg #[.int .i64 1, .bool false, .slice none 0 0, .slice ea ds0.length ec, .int .i64 0], .agg #[.slice x1 n1 y1, .slice x2 n2 y2], .agg #[.slice x3 n3 y3, .slice x4 n4 y4], .tuple #[.agg #[.slice x5 1 y5, .slice b3 m d3], .int .i64 0], .agg #[.slice x5 1 y5, .slice b3 m d3], .int .i64 0, t74, t75, t76, t77, t78, t79, t80, t81, t82, t83, t84, t85, t86, t87, t88, t89, t90, t91, t92, t93, t94, t95, t96, t97, t98, t99, t100, t101, t102, t103, t104, t105, t106, t107, t108, t109, t110, t111, t112, t113, t114, t115, t116, t117, t118, t119, t120, t121, t122, t123, t124, t125, t126, t127, t128, t129, t130, t131, t132, t133, t134, t135, t136, t137, t138, t139, t140, t141, t142, t143, t144, t145, t146, t147, t148], defers := [] } w') (hP : ∀ c a d x w, Q (.panic c) (Act.put a d x) w → Q (.panic c) a w) :
    (Code.region 9 #[{ dst := some 68, op := Op.call { callee := Callee.value (Operand.func 8), args := #[], argTypes := #[] }, type := 35, pos := "law.go:145", after := #[], guard := none }, { dst := some 69, op := Op.load 25 (Operand.tmp 8), type := 25, pos := "law.go:145", after := #[], guard := none }, { dst := some 70, op := Op.load 25 (Operand.tmp 9), type := 25, pos := "law.go:145", after := #[], guard := none }, { dst := some 71, op := Op.call { callee := Callee.value (Operand.func 7), args := #[Operand.tmp 68, Operand.const (Value.int IntKind.i32 9074), Operand.tmp 69, Operand.tmp 70], argTypes := #[35, 21, 25, 25] }, type := 29, pos := "law.go:145", after := #[{ on := 0, ground := Ground.data }, { on := 1, ground := Ground.data }, { on := 2, ground := Ground.data }, { on := 0, ground := Ground.chain }], guard := none }, { dst := some 67, op := Op.move (Operand.tmp 71), type := 29, pos := "law.go:145", after := #[{ on := 3, ground := Ground.data }], guard := none }, { dst := some 72, op := Op.extract (Operand.tmp 67) 0, type := 25, pos := "law.go:145", after := #[{ on := 4, ground := Ground.data }], guard := none }, { dst := some 73, op := Op.extract (Operand.tmp 67) 1, type := 28, pos := "law.go:145", after := #[{ on := 4, ground := Ground.data }, { on := 8, ground := Ground.gcOnly Departure.lateStores }], guard := none }, { dst := some 12, op := Op.alloc 25, type := 0, pos := "law.go:145", after := #[], guard := none }, { dst := none, op := Op.store 25 (Operand.tmp 12) (Operand.tmp 72), type := 0, pos := "law.go:145", after := #[{ on := 7, ground := Ground.data }, { on := 5, ground := Ground.data }, { on := 3, ground := Ground.chain }, { on := 0, ground := Ground.phase }, { on := 1, ground := Ground.phase }, { on := 2, ground := Ground.phase }, { on := 3, ground := Ground.phase }, { on := 4, ground := Ground.phase }, { on := 5, ground := Ground.phase }, { on := 6, ground := Ground.textOnly Departure.lateStores }, { on := 7, ground := Ground.phase }], guard := none }, { dst := some 13, op := Op.assign (Operand.tmp 73), type := 28, pos := "law.go:145", after := #[{ on := 6, ground := Ground.data }, { on := 8, ground := Ground.chain }, { on := 0, ground := Ground.phase }, { on := 1, ground := Ground.phase }, { on := 2, ground := Ground.phase }, { on := 3, ground := Ground.phase }, { on := 4, ground := Ground.phase }, { on := 5, ground := Ground.phase }, { on := 6, ground := Ground.phase }, { on := 7, ground := Ground.phase }, { on := 8, ground := Ground.phase }], guard := none }] true).wp Tryz.prog Q { tmps := #[t0, t1, t2, t3, t4, t5, t6, t7, .pointer (some ⟨ka, 0, none⟩), .pointer (some ⟨kb, 0, none⟩), t10, t11, t12, t13, t14, t15, t16, t17, t18, t19, t20, t21, t22, t23, t24, t25, t26, t27, t28, t29, t30, t31, t32, t33, t34, t35, t36, t37, t38, t39, t40, t41, t42, t43, t44, t45, t46, t47, t48, t49, t50, t51, t52, t53, t54, t55, t56, t57, t58, t59, t60, t61, t62, t63, t64, t65, t66, t67, t68, t69, t70, t71, t72, t73, t74, t75, t76, t77, t78, t79, t80, t81, t82, t83, t84, t85, t86, t87, t88, t89, t90, t91, t92, t93, t94, t95, t96, t97, t98, t99, t100, t101, t102, t103, t104, t105, t106, t107, t108, t109, t110, t111, t112, t113, t114, t115, t116, t117, t118, t119, t120, t121, t122, t123, t124, t125, t126, t127, t128, t129, t130, t131, t132, t133, t134, t135, t136, t137, t138, t139, t140, t141, t142, t143, t144, t145, t146, t147, t148], defers := [] } v := by
 have d1 : Below v.heap.size v v.drew := ⟨rfl, rfl, rfl, Nat.le_refl _, fun _ _ => rfl⟩
 have j0 := HC.out d1
 refine wp_region_held_drew (S := (fun w' => w'.cell? ⟨ka, 0, none⟩ = some (.slice x1 n1 y1) ∧ w'.cell? ⟨ka, 1, none⟩ = some (.slice x2 n2 y2) ∧ w'.cell? ⟨kb, 0, none⟩ = some (.slice x3 n3 y3) ∧ w'.cell? ⟨kb, 1, none⟩ = some (.slice x4 n4 y4))) (by kernel_rfl) j0 (fun hS => ?_)
 refine wpAnyH_take (i := 1) (oi := { dst := some 69, op := Op.load 25 (Operand.tmp 8), type := 25, pos := "law.go:145", after := #[], guard := none }) (v := .agg #[.slice x1 n1 y1, .slice x2 n2 y2]) rfl (by kernel_rfl) (by kernel_rfl) (by kernel_rfl) (fun _ _ _ h => hP _ _ _ _ _ h) (Or.inl ⟨by rfl, (by intro w hSw; (try dsimp only at hSw); go_simp)⟩) (by assumption) ?_
 simp only [Act.put, List.setIfInBounds_toArray, List.set_cons_zero, List.set_cons_succ]
 refine wpAnyH_take (i := 2) (oi := { dst := some 70, op := Op.load 25 (Operand.tmp 9), type := 25, pos := "law.go:145", after := #[], guard := none }) (v := .agg #[.slice x3 n3 y3, .slice x4 n4 y4]) rfl (by kernel_rfl) (by kernel_rfl) (by kernel_rfl) (fun _ _ _ h => hP _ _ _ _ _ h) (Or.inl ⟨by rfl, (by intro w hSw; (try dsimp only at hSw); go_simp)⟩) (by assumption) ?_
 simp only [Act.put, List.setIfInBounds_toArray, List.set_cons_zero, List.set_cons_succ]
 refine wpAnyH_ready (rs := [0, 7]) (by kernel_rfl) (by simp) ?_
 refine (AllReadyH.cons (o := { dst := some 68, op := Op.call { callee := Callee.value (Operand.func 8), args := #[], argTypes := #[] }, type := 35, pos := "law.go:145", after := #[], guard := none }) rfl (fun K hK => ?_) (AllReadyH.cons (o := { dst := some 12, op := Op.alloc 25, type := 0, pos := "law.go:145", after := #[], guard := none }) rfl (fun K hK => ?_) AllReadyH.nil))
 · go_simp
   refine (env_any _).mono ?_
   rintro e wE ⟨ds0, ea, ec, hd, rfl, ho, pE⟩
   have kE : Below v.heap.size v wE := d1.trans (pE.mono d1.size)
   have jE := HC.out kE
   go_simp
   refine hK.out _ _ (jE) (fun _ => ?_)
   clear hK K
   refine wpAnyH_ready (rs := [3, 7]) (by kernel_rfl) (by simp) ?_
   refine (AllReadyH.cons (o := { dst := some 71, op := Op.call { callee := Callee.value (Operand.func 7), args := #[Operand.tmp 68, Operand.const (Value.int IntKind.i32 9074), Operand.tmp 69, Operand.tmp 70], argTypes := #[35, 21, 25, 25] }, type := 29, pos := "law.go:145", after := #[{ on := 0, ground := Ground.data }, { on := 1, ground := Ground.data }, { on := 2, ground := Ground.data }, { on := 0, ground := Ground.chain }], guard := none }) rfl (fun K hK => ?_) (AllReadyH.cons (o := { dst := some 12, op := Op.alloc 25, type := 0, pos := "law.go:145", after := #[], guard := none }) rfl (fun K hK => ?_) AllReadyH.nil))
   · go_simp
     have sC : v.heap.size ≤ wE.heap.size := kE.size
     refine (KT.out _ ds0 ea ec hd (ho.rd) kE).mono ?_
     rintro e wT ⟨⟨x5, y5, b3, d3, rfl, hv⟩, pT⟩
     have kT : Below v.heap.size v wT := kE.trans (pT.mono kE.size)
     have jT := HC.out kT
     have HV : Hid (ArV 1 (Fr wE.heap.size wT.heap.size) wT (.slice x5 1 y5) (.slice b3 m d3) U) := hv
     clear hv
     go_simp
     refine hK.out _ _ (jT) (fun _ => ?_)
     clear hK K
     refine wpAnyH_take (i := 4) (oi := { dst := some 67, op := Op.move (Operand.tmp 71), type := 29, pos := "law.go:145", after := #[{ on := 3, ground := Ground.data }], guard := none }) (v := .tuple #[.agg #[.slice x5 1 y5, .slice b3 m d3], .int .i64 0]) rfl (by kernel_rfl) (by kernel_rfl) (by kernel_rfl) (fun _ _ _ h => hP _ _ _ _ _ h) (Or.inl ⟨by rfl, (by intro w hSw; (try dsimp only at hSw); go_simp)⟩) (by assumption) ?_
     simp only [Act.put, List.setIfInBounds_toArray, List.set_cons_zero, List.set_cons_succ]
     refine wpAnyH_take (i := 5) (oi := { dst := some 72, op := Op.extract (Operand.tmp 67) 0, type := 25, pos := "law.go:145", after := #[{ on := 4, ground := Ground.data }], guard := none }) (v := .agg #[.slice x5 1 y5, .slice b3 m d3]) rfl (by kernel_rfl) (by kernel_rfl) (by kernel_rfl) (fun _ _ _ h => hP _ _ _ _ _ h) (Or.inl ⟨by rfl, (by intro w hSw; (try dsimp only at hSw); go_simp)⟩) (by assumption) ?_
     simp only [Act.put, List.setIfInBounds_toArray, List.set_cons_zero, List.set_cons_succ]
     refine wpAnyH_take (i := 6) (oi := { dst := some 73, op := Op.extract (Operand.tmp 67) 1, type := 28, pos := "law.go:145", after := #[{ on := 4, ground := Ground.data }, { on := 8, ground := Ground.gcOnly Departure.lateStores }], guard := none }) (v := .int .i64 0) rfl (by kernel_rfl) (by kernel_rfl) (by kernel_rfl) (fun _ _ _ h => hP _ _ _ _ _ h) (Or.inl ⟨by rfl, (by intro w hSw; (try dsimp only at hSw); go_simp)⟩) (by assumption) ?_
     simp only [Act.put, List.setIfInBounds_toArray, List.set_cons_zero, List.set_cons_succ]
     refine wpAnyH_ready (rs := [7]) (by kernel_rfl) (by simp) ?_
     refine (AllReadyH.cons (o := { dst := some 12, op := Op.alloc 25, type := 0, pos := "law.go:145", after := #[], guard := none }) rfl (fun K hK => ?_) AllReadyH.nil)
     go_simp
     have kA : Below v.heap.size v (wT.alloc (.cells #[.slice none 0 0, .slice none 0 0] 25)) := kT.trans ((below_alloc wT (.cells #[.slice none 0 0, .slice none 0 0] 25)).mono kT.size)
     have jA := HC.out kA
     have BA : BoxA (wT.alloc (.cells #[.slice none 0 0, .slice none 0 0] 25)) wT.heap.size 25 #[.slice none 0 0, .slice none 0 0] := boxA_new wT #[.slice none 0 0, .slice none 0 0] 25
     have nA : v.heap.size ≤ wT.heap.size := kT.size
     go_simp
     refine hK.out _ _ (jA) (fun _ => ?_)
     clear hK K
     refine wpAnyH_ready (rs := [8]) (by kernel_rfl) (by simp) ?_
     refine (AllReadyH.cons (o := { dst := none, op := Op.store 25 (Operand.tmp 12) (Operand.tmp 72), type := 0, pos := "law.go:145", after := #[{ on := 7, ground := Ground.data }, { on := 5, ground := Ground.data }, { on := 3, ground := Ground.chain }, { on := 0, ground := Ground.phase }, { on := 1, ground := Ground.phase }, { on := 2, ground := Ground.phase }, { on := 3, ground := Ground.phase }, { on := 4, ground := Ground.phase }, { on := 5, ground := Ground.phase }, { on := 6, ground := Ground.textOnly Departure.lateStores }, { on := 7, ground := Ground.phase }], guard := none }) rfl (fun K hK => ?_) AllReadyH.nil)
     go_simp
     have r0 := BA.cell 0 rfl
     have r1 := BA.cell 1 rfl
     have f0 := BA.frozen 0
     have f1 := BA.frozen 1
     have BS := boxA_new wT #[.slice x5 1 y5, .slice b3 m d3] 25
     have kS : Below v.heap.size v (wT.alloc (.cells #[.slice x5 1 y5, .slice b3 m d3] 25)) := kT.trans ((below_alloc wT (.cells #[.slice x5 1 y5, .slice b3 m d3] 25)).mono kT.size)
     have jS := HC.out kS
     have HVS : Hid (ArV 1 (Fr v.heap.size (wT.alloc (.cells #[.slice x5 1 y5, .slice b3 m d3] 25)).heap.size) (wT.alloc (.cells #[.slice x5 1 y5, .slice b3 m d3] 25)) (.slice x5 1 y5) (.slice b3 m d3) U) := ArV.imp (fun q hq => ⟨by have := hq.1; omega, by rw [World.size_alloc]; have := hq.2; omega⟩) (fun q hq => (below_alloc wT (.cells #[.slice x5 1 y5, .slice b3 m d3] 25)).block q hq.2) 1 1 _ _ _ (Nat.le_refl _) HV.out
     go_simp
     refine hK.out _ _ (jS) (fun _ => ?_)
     clear hK K
     refine wpAnyH_take (i := 9) (oi := { dst := some 13, op := Op.assign (Operand.tmp 73), type := 28, pos := "law.go:145", after := #[{ on := 6, ground := Ground.data }, { on := 8, ground := Ground.chain }, { on := 0, ground := Ground.phase }, { on := 1, ground := Ground.phase }, { on := 2, ground := Ground.phase }, { on := 3, ground := Ground.phase }, { on := 4, ground := Ground.phase }, { on := 5, ground := Ground.phase }, { on := 6, ground := Ground.phase }, { on := 7, ground := Ground.phase }, { on := 8, ground := Ground.phase }], guard := none }) (v := .int .i64 0) rfl (by kernel_rfl) (by kernel_rfl) (by kernel_rfl) (fun _ _ _ h => hP _ _ _ _ _ h) (Or.inl ⟨by rfl, (by intro w hSw; (try dsimp only at hSw); go_simp)⟩) (by assumption) ?_
     simp only [Act.put, List.setIfInBounds_toArray, List.set_cons_zero, List.set_cons_succ]
     refine wpAnyH_done (by kernel_rfl) ?_ _
     exact hQ _ ds0 ea ec x5 y5 b3 d3 _ BS nA HVS kS
   · go_simp
     have kA : Below v.heap.size v (wE.alloc (.cells #[.slice none 0 0, .slice none 0 0] 25)) := kE.trans ((below_alloc wE (.cells #[.slice none 0 0, .slice none 0 0] 25)).mono kE.size)
     have jA := HC.out kA
     have BA : BoxA (wE.alloc (.cells #[.slice none 0 0, .slice none 0 0] 25)) wE.heap.size 25 #[.slice none 0 0, .slice none 0 0] := boxA_new wE #[.slice none 0 0, .slice none 0 0] 25
     have nA : v.heap.size ≤ wE.heap.size := kE.size
     go_simp
     refine hK.out _ _ (jA) (fun _ => ?_)
     clear hK K
     refine wpAnyH_ready (rs := [3]) (by kernel_rfl) (by simp) ?_
     refine (AllReadyH.cons (o := { dst := some 71, op := Op.call { callee := Callee.value (Operand.func 7), args := #[Operand.tmp 68, Operand.const (Value.int IntKind.i32 9074), Operand.tmp 69, Operand.tmp 70], argTypes := #[35, 21, 25, 25] }, type := 29, pos := "law.go:145", after := #[{ on := 0, ground := Ground.data }, { on := 1, ground := Ground.data }, { on := 2, ground := Ground.data }, { on := 0, ground := Ground.chain }], guard := none }) rfl (fun K hK => ?_) AllReadyH.nil)
     go_simp
     have sC : v.heap.size ≤ (wE.alloc (.cells #[.slice none 0 0, .slice none 0 0] 25)).heap.size := kA.size
     have lBA := BA.lt
     refine (KT.out _ ds0 ea ec hd ((ho.below (below_alloc wE (.cells #[.slice none 0 0, .slice none 0 0] 25)) (Nat.le_refl _)).rd) kA).mono ?_
     rintro e wT ⟨⟨x5, y5, b3, d3, rfl, hv⟩, pT⟩
     have kT : Below v.heap.size v wT := kA.trans (pT.mono kA.size)
     have jT := HC.out kT
     have HV : Hid (ArV 1 (Fr (wE.alloc (.cells #[.slice none 0 0, .slice none 0 0] 25)).heap.size wT.heap.size) wT (.slice x5 1 y5) (.slice b3 m d3) U) := hv
     clear hv
     replace BA := BA.below pT lBA
     go_simp
     refine hK.out _ _ (jT) (fun _ => ?_)
     clear hK K
     refine wpAnyH_take (i := 4) (oi := { dst := some 67, op := Op.move (Operand.tmp 71), type := 29, pos := "law.go:145", after := #[{ on := 3, ground := Ground.data }], guard := none }) (v := .tuple #[.agg #[.slice x5 1 y5, .slice b3 m d3], .int .i64 0]) rfl (by kernel_rfl) (by kernel_rfl) (by kernel_rfl) (fun _ _ _ h => hP _ _ _ _ _ h) (Or.inl ⟨by rfl, (by intro w hSw; (try dsimp only at hSw); go_simp)⟩) (by assumption) ?_
     simp only [Act.put, List.setIfInBounds_toArray, List.set_cons_zero, List.set_cons_succ]
     refine wpAnyH_take (i := 5) (oi := { dst := some 72, op := Op.extract (Operand.tmp 67) 0, type := 25, pos := "law.go:145", after := #[{ on := 4, ground := Ground.data }], guard := none }) (v := .agg #[.slice x5 1 y5, .slice b3 m d3]) rfl (by kernel_rfl) (by kernel_rfl) (by kernel_rfl) (fun _ _ _ h => hP _ _ _ _ _ h) (Or.inl ⟨by rfl, (by intro w hSw; (try dsimp only at hSw); go_simp)⟩) (by assumption) ?_
     simp only [Act.put, List.setIfInBounds_toArray, List.set_cons_zero, List.set_cons_succ]
     refine wpAnyH_take (i := 6) (oi := { dst := some 73, op := Op.extract (Operand.tmp 67) 1, type := 28, pos := "law.go:145", after := #[{ on := 4, ground := Ground.data }, { on := 8, ground := Ground.gcOnly Departure.lateStores }], guard := none }) (v := .int .i64 0) rfl (by kernel_rfl) (by kernel_rfl) (by kernel_rfl) (fun _ _ _ h => hP _ _ _ _ _ h) (Or.inl ⟨by rfl, (by intro w hSw; (try dsimp only at hSw); go_simp)⟩) (by assumption) ?_
     simp only [Act.put, List.setIfInBounds_toArray, List.set_cons_zero, List.set_cons_succ]
     refine wpAnyH_ready (rs := [8]) (by kernel_rfl) (by simp) ?_
     refine (AllReadyH.cons (o := { dst := none, op := Op.store 25 (Operand.tmp 12) (Operand.tmp 72), type := 0, pos := "law.go:145", after := #[{ on := 7, ground := Ground.data }, { on := 5, ground := Ground.data }, { on := 3, ground := Ground.chain }, { on := 0, ground := Ground.phase }, { on := 1, ground := Ground.phase }, { on := 2, ground := Ground.phase }, { on := 3, ground := Ground.phase }, { on := 4, ground := Ground.phase }, { on := 5, ground := Ground.phase }, { on := 6, ground := Ground.textOnly Departure.lateStores }, { on := 7, ground := Ground.phase }], guard := none }) rfl (fun K hK => ?_) AllReadyH.nil)
     go_simp
     have r0 := BA.cell 0 rfl
     have r1 := BA.cell 1 rfl
     have f0 := BA.frozen 0
     have f1 := BA.frozen 1
     have BS := boxA_s1 (boxA_s0 BA (.slice x5 1 y5)) (.slice b3 m d3)
     have kS := Below.set2 kT nA (.slice x5 1 y5) (.slice b3 m d3)
     have jS := HC.out kS
     have HVS : Hid (ArV 1 (Fr v.heap.size ((wT.setCell ⟨wE.heap.size, 0, none⟩ (.slice x5 1 y5)).setCell ⟨wE.heap.size, 1, none⟩ (.slice b3 m d3)).heap.size) ((wT.setCell ⟨wE.heap.size, 0, none⟩ (.slice x5 1 y5)).setCell ⟨wE.heap.size, 1, none⟩ (.slice b3 m d3)) (.slice x5 1 y5) (.slice b3 m d3) U) := ArV.imp (fun q hq => ⟨by have := hq.1; omega, by rw [set1_size, set1_size]; exact hq.2⟩) (fun q hq => by rw [set1_other (by show ¬ wE.heap.size = q; have := hq.1; omega), set1_other (by show ¬ wE.heap.size = q; have := hq.1; omega)]) 1 1 _ _ _ (Nat.le_refl _) HV.out
     go_simp
     refine hK.out _ _ (jS) (fun _ => ?_)
     clear hK K
     refine wpAnyH_take (i := 9) (oi := { dst := some 13, op := Op.assign (Operand.tmp 73), type := 28, pos := "law.go:145", after := #[{ on := 6, ground := Ground.data }, { on := 8, ground := Ground.chain }, { on := 0, ground := Ground.phase }, { on := 1, ground := Ground.phase }, { on := 2, ground := Ground.phase }, { on := 3, ground := Ground.phase }, { on := 4, ground := Ground.phase }, { on := 5, ground := Ground.phase }, { on := 6, ground := Ground.phase }, { on := 7, ground := Ground.phase }, { on := 8, ground := Ground.phase }], guard := none }) (v := .int .i64 0) rfl (by kernel_rfl) (by kernel_rfl) (by kernel_rfl) (fun _ _ _ h => hP _ _ _ _ _ h) (Or.inl ⟨by rfl, (by intro w hSw; (try dsimp only at hSw); go_simp)⟩) (by assumption) ?_
     simp only [Act.put, List.setIfInBounds_toArray, List.set_cons_zero, List.set_cons_succ]
     refine wpAnyH_done (by kernel_rfl) ?_ _
     exact hQ _ ds0 ea ec x5 y5 b3 d3 _ BS nA HVS kS
 · go_simp
   have kA : Below v.heap.size v (v.drew.alloc (.cells #[.slice none 0 0, .slice none 0 0] 25)) := d1.trans ((below_alloc v.drew (.cells #[.slice none 0 0, .slice none 0 0] 25)).mono d1.size)
   have jA := HC.out kA
   have BA : BoxA (v.drew.alloc (.cells #[.slice none 0 0, .slice none 0 0] 25)) v.heap.size 25 #[.slice none 0 0, .slice none 0 0] := boxA_new v.drew #[.slice none 0 0, .slice none 0 0] 25
   have nA : v.heap.size ≤ v.heap.size := d1.size
   go_simp
   refine hK.out _ _ (jA) (fun _ => ?_)
   clear hK K
   refine wpAnyH_ready (rs := [0]) (by kernel_rfl) (by simp) ?_
   refine (AllReadyH.cons (o := { dst := some 68, op := Op.call { callee := Callee.value (Operand.func 8), args := #[], argTypes := #[] }, type := 35, pos := "law.go:145", after := #[], guard := none }) rfl (fun K hK => ?_) AllReadyH.nil)
   go_simp
   refine (env_any _).mono ?_
   rintro e wE ⟨ds0, ea, ec, hd, rfl, ho, pE⟩
   have kE : Below v.heap.size v wE := kA.trans (pE.mono kA.size)
   have jE := HC.out kE
   have lBA := BA.lt
   replace BA := BA.below pE lBA
   clear lBA
   go_simp
   refine hK.out _ _ (jE) (fun _ => ?_)
   clear hK K
   refine wpAnyH_ready (rs := [3]) (by kernel_rfl) (by simp) ?_
   refine (AllReadyH.cons (o := { dst := some 71, op := Op.call { callee := Callee.value (Operand.func 7), args := #[Operand.tmp 68, Operand.const (Value.int IntKind.i32 9074), Operand.tmp 69, Operand.tmp 70], argTypes := #[35, 21, 25, 25] }, type := 29, pos := "law.go:145", after := #[{ on := 0, ground := Ground.data }, { on := 1, ground := Ground.data }, { on := 2, ground := Ground.data }, { on := 0, ground := Ground.chain }], guard := none }) rfl (fun K hK => ?_) AllReadyH.nil)
   go_simp
   have sC : v.heap.size ≤ wE.heap.size := kE.size
   have lBA := BA.lt
   refine (KT.out _ ds0 ea ec hd (ho.rd) kE).mono ?_
   rintro e wT ⟨⟨x5, y5, b3, d3, rfl, hv⟩, pT⟩
   have kT : Below v.heap.size v wT := kE.trans (pT.mono kE.size)
   have jT := HC.out kT
   have HV : Hid (ArV 1 (Fr wE.heap.size wT.heap.size) wT (.slice x5 1 y5) (.slice b3 m d3) U) := hv
   clear hv
   replace BA := BA.below pT lBA
   go_simp
   refine hK.out _ _ (jT) (fun _ => ?_)
   clear hK K
   refine wpAnyH_take (i := 4) (oi := { dst := some 67, op := Op.move (Operand.tmp 71), type := 29, pos := "law.go:145", after := #[{ on := 3, ground := Ground.data }], guard := none }) (v := .tuple #[.agg #[.slice x5 1 y5, .slice b3 m d3], .int .i64 0]) rfl (by kernel_rfl) (by kernel_rfl) (by kernel_rfl) (fun _ _ _ h => hP _ _ _ _ _ h) (Or.inl ⟨by rfl, (by intro w hSw; (try dsimp only at hSw); go_simp)⟩) (by assumption) ?_
   simp only [Act.put, List.setIfInBounds_toArray, List.set_cons_zero, List.set_cons_succ]
   refine wpAnyH_take (i := 5) (oi := { dst := some 72, op := Op.extract (Operand.tmp 67) 0, type := 25, pos := "law.go:145", after := #[{ on := 4, ground := Ground.data }], guard := none }) (v := .agg #[.slice x5 1 y5, .slice b3 m d3]) rfl (by kernel_rfl) (by kernel_rfl) (by kernel_rfl) (fun _ _ _ h => hP _ _ _ _ _ h) (Or.inl ⟨by rfl, (by intro w hSw; (try dsimp only at hSw); go_simp)⟩) (by assumption) ?_
   simp only [Act.put, List.setIfInBounds_toArray, List.set_cons_zero, List.set_cons_succ]
   refine wpAnyH_take (i := 6) (oi := { dst := some 73, op := Op.extract (Operand.tmp 67) 1, type := 28, pos := "law.go:145", after := #[{ on := 4, ground := Ground.data }, { on := 8, ground := Ground.gcOnly Departure.lateStores }], guard := none }) (v := .int .i64 0) rfl (by kernel_rfl) (by kernel_rfl) (by kernel_rfl) (fun _ _ _ h => hP _ _ _ _ _ h) (Or.inl ⟨by rfl, (by intro w hSw; (try dsimp only at hSw); go_simp)⟩) (by assumption) ?_
   simp only [Act.put, List.setIfInBounds_toArray, List.set_cons_zero, List.set_cons_succ]
   refine wpAnyH_ready (rs := [8]) (by kernel_rfl) (by simp) ?_
   refine (AllReadyH.cons (o := { dst := none, op := Op.store 25 (Operand.tmp 12) (Operand.tmp 72), type := 0, pos := "law.go:145", after := #[{ on := 7, ground := Ground.data }, { on := 5, ground := Ground.data }, { on := 3, ground := Ground.chain }, { on := 0, ground := Ground.phase }, { on := 1, ground := Ground.phase }, { on := 2, ground := Ground.phase }, { on := 3, ground := Ground.phase }, { on := 4, ground := Ground.phase }, { on := 5, ground := Ground.phase }, { on := 6, ground := Ground.textOnly Departure.lateStores }, { on := 7, ground := Ground.phase }], guard := none }) rfl (fun K hK => ?_) AllReadyH.nil)
   go_simp
   have r0 := BA.cell 0 rfl
   have r1 := BA.cell 1 rfl
   have f0 := BA.frozen 0
   have f1 := BA.frozen 1
   have BS := boxA_s1 (boxA_s0 BA (.slice x5 1 y5)) (.slice b3 m d3)
   have kS := Below.set2 kT nA (.slice x5 1 y5) (.slice b3 m d3)
   have jS := HC.out kS
   have HVS : Hid (ArV 1 (Fr v.heap.size ((wT.setCell ⟨v.heap.size, 0, none⟩ (.slice x5 1 y5)).setCell ⟨v.heap.size, 1, none⟩ (.slice b3 m d3)).heap.size) ((wT.setCell ⟨v.heap.size, 0, none⟩ (.slice x5 1 y5)).setCell ⟨v.heap.size, 1, none⟩ (.slice b3 m d3)) (.slice x5 1 y5) (.slice b3 m d3) U) := ArV.imp (fun q hq => ⟨by have := hq.1; omega, by rw [set1_size, set1_size]; exact hq.2⟩) (fun q hq => by rw [set1_other (by show ¬ v.heap.size = q; have := hq.1; omega), set1_other (by show ¬ v.heap.size = q; have := hq.1; omega)]) 1 1 _ _ _ (Nat.le_refl _) HV.out
   go_simp
   refine hK.out _ _ (jS) (fun _ => ?_)
   clear hK K
   refine wpAnyH_take (i := 9) (oi := { dst := some 13, op := Op.assign (Operand.tmp 73), type := 28, pos := "law.go:145", after := #[{ on := 6, ground := Ground.data }, { on := 8, ground := Ground.chain }, { on := 0, ground := Ground.phase }, { on := 1, ground := Ground.phase }, { on := 2, ground := Ground.phase }, { on := 3, ground := Ground.phase }, { on := 4, ground := Ground.phase }, { on := 5, ground := Ground.phase }, { on := 6, ground := Ground.phase }, { on := 7, ground := Ground.phase }, { on := 8, ground := Ground.phase }], guard := none }) (v := .int .i64 0) rfl (by kernel_rfl) (by kernel_rfl) (by kernel_rfl) (fun _ _ _ h => hP _ _ _ _ _ h) (Or.inl ⟨by rfl, (by intro w hSw; (try dsimp only at hSw); go_simp)⟩) (by assumption) ?_
   simp only [Act.put, List.setIfInBounds_toArray, List.set_cons_zero, List.set_cons_succ]
   refine wpAnyH_done (by kernel_rfl) ?_ _
   exact hQ _ ds0 ea ec x5 y5 b3 d3 _ BS nA HVS kS
end
section
variable {v : World} {x1 x2 : Option Addr} {n1 y1 n2 y2 ka m : Nat} {U : Tr}
set_option maxRecDepth 100000 in
set_option maxHeartbeats 16000000 in
theorem logic_11 {Q : Exit → Act → World → Prop} {t0 t1 t2 t3 t4 t5 t6 t7 t9 t10 t11 t12 t13 t14 t15 t16 t17 t18 t19 t20 t21 t22 t23 t24 t25 t26 t27 t28 t29 t30 t31 t32 t33 t34 t35 t36 t37 t38 t39 t40 t41 t42 t43 t44 t45 t46 t47 t48 t49 t50 t51 t52 t53 t54 t55 t56 t57 t58 t59 t60 t61 t62 t63 t64 t65 t66 t67 t68 t69 t70 t71 t72 t73 t74 t75 t76 t77 t78 t79 t80 t81 t82 t83 t84 t85 t86 t87 t88 t89 t90 t91 t92 t93 t94 t95 t96 t97 t98 t99 t100 t101 t102 t103 t104 t105 t106 t107 t108 t109 t110 t111 t112 t113 t114 t115 t116 t117 t118 t119 t120 t121 t122 t123 t124 t125 t126 t127 t128 t129 t130 t131 t132 t133 t134 t135 t136 t137 t138 t139 t140 t141 t142 t143 t144 t145 t146 t147 t148 : Value} (HC : Hid (∀ {w' : World}, Below v.heap.size v w' → w'.cell? ⟨ka, 0, none⟩ = some (.slice x1 n1 y1) ∧ w'.cell? ⟨ka, 1, none⟩ = some (.slice x2 n2 y2)))
    (KT : Hid (∀ u (ds0 : List Int) ea ec, Hid (ds0 = [(1 : Int)]) → Rd u.heap.size u (.slice ea ds0.length ec) ds0 → Below v.heap.size v u → Calls Tryz.prog 11 #[.agg #[.int .i64 1, .bool false, .slice none 0 0, .slice ea ds0.length ec, .int .i64 0], .int .i32 126, .agg #[.slice x1 n1 y1, .slice x2 n2 y2]] u fun e w' => (∃ x5 y5 b3 d3, e = .returned (.tuple #[.agg #[.slice x5 1 y5, .slice b3 m d3], .int .i64 0]) ∧ ArV 1 (Fr u.heap.size w'.heap.size) w' (.slice x5 1 y5) (.slice b3 m d3) U) ∧ Below u.heap.size u w'))
    (hQ : ∀ A (ds0 : List Int) ea ec x5 y5 b3 d3 w', BoxA w' A 25 #[.slice x5 1 y5, .slice b3 m d3] → v.heap.size ≤ A → Hid (ArV 1 (Fr v.heap.size w'.heap.size) w' (.slice x5 1 y5) (.slice b3 m d3) U) → Below v.heap.size v w' → Q .normal { tmps := #[t0, t1, t2, t3, t4, t5, t6, t7, .pointer (some ⟨ka, 0, none⟩), t9, t10, t11, t12, t13, t14, t15, .pointer (some ⟨A, 0, none⟩), .int .i64 0, t18, t19, t20, t21, t22, t23, t24, t25, t26, t27, t28, t29, t30, t31, t32, t33, t34, t35, t36, t37, t38, t39, t40, t41, t42, t43, t44, t45, t46, t47, t48, t49, t50, t51, t52, t53, t54, t55, t56, t57, t58, t59, t60, t61, t62, t63, t64, t65, t66, t67, t68, t69, t70, t71, t72, t73, t74, t75, t76, t77, t78, t79, .tuple #[.agg #[.slice x5 1 y5, .slice b3 m d3], .int .i64 0], .agg #[.int .i64 1, .bool false, .slice none 0 0, .slice ea ds0.length ec, .int .i64 0], .agg #[.slice x1 n1 y1, .slice x2 n2 y2], .tuple #[.agg #[.slice x5 1 y5, .slice b3 m d3], .int .i64 0], .agg #[.slice x5 1 y5, .slice b3 m d3], .int .i64 0, t86, t87, t88, t89, t90, t91, t92, t93, t94, t95, t96, t97, t98, t99, t100, t101, t102, t103, t104, t105, t106, t107, t108, t109, t110, t111, t112, t113, t114, t115, t116, t117, t118, t119, t120, t121, t122, t123, t124, t125, t126, t127, t128, t129, t130, t131, t132, t133, t134, t135, t136, t137, t138, t139, t140, t141, t142, t143, t144, t145, t146, t147, t148], defers := [] } w') (hP : ∀ c a d x w, Q (.panic c) (Act.put a d x) w → Q (.panic c) a w) :
    (Code.region 11 #[{ dst := some 81, op := Op.call { callee := Callee.value (Operand.func 8), args := #[], argTypes := #[] }, type := 35, pos := "law.go:147", after := #[], guard := none }, { dst := some 82, op := Op.load 25 (Operand.tmp 8), type := 25, pos := "law.go:147", after := #[], guard := none }, { dst := some 83, op := Op.call { callee := Callee.value (Operand.func 11), args := #[Operand.tmp 81, Operand.const (Value.int IntKind.i32 126), Operand.tmp 82], argTypes := #[35, 21, 25] }, type := 29, pos := "law.go:147", after := #[{ on := 0, ground := Ground.data }, { on := 1, ground := Ground.data }, { on := 0, ground := Ground.chain }], guard := none }, { dst := some 80, op := Op.move (Operand.tmp 83), type := 29, pos := "law.go:147", after := #[{ on := 2, ground := Ground.data }], guard := none }, { dst := some 84, op := Op.extract (Operand.tmp 80) 0, type := 25, pos := "law.go:147", after := #[{ on := 3, ground := Ground.data }], guard := none }, { dst := some 85, op := Op.extract (Operand.tmp 80) 1, type := 28, pos := "law.go:147", after := #[{ on := 3, ground := Ground.data }, { on := 7, ground := Ground.gcOnly Departure.lateStores }], guard := none }, { dst := some 16, op := Op.alloc 25, type := 0, pos := "law.go:147", after := #[], guard := none }, { dst := none, op := Op.store 25 (Operand.tmp 16) (Operand.tmp 84), type := 0, pos := "law.go:147", after := #[{ on := 6, ground := Ground.data }, { on := 4, ground := Ground.data }, { on := 2, ground := Ground.chain }, { on := 0, ground := Ground.phase }, { on := 1, ground := Ground.phase }, { on := 2, ground := Ground.phase }, { on := 3, ground := Ground.phase }, { on := 4, ground := Ground.phase }, { on := 5, ground := Ground.textOnly Departure.lateStores }, { on := 6, ground := Ground.phase }], guard := none }, { dst := some 17, op := Op.assign (Operand.tmp 85), type := 28, pos := "law.go:147", after := #[{ on := 5, ground := Ground.data }, { on := 7, ground := Ground.chain }, { on := 0, ground := Ground.phase }, { on := 1, ground := Ground.phase }, { on := 2, ground := Ground.phase }, { on := 3, ground := Ground.phase }, { on := 4, ground := Ground.phase }, { on := 5, ground := Ground.phase }, { on := 6, ground := Ground.phase }, { on := 7, ground := Ground.phase }], guard := none }] true).wp Tryz.prog Q { tmps := #[t0, t1, t2, t3, t4, t5, t6, t7, .pointer (some ⟨ka, 0, none⟩), t9, t10, t11, t12, t13, t14, t15, t16, t17, t18, t19, t20, t21, t22, t23, t24, t25, t26, t27, t28, t29, t30, t31, t32, t33, t34, t35, t36, t37, t38, t39, t40, t41, t42, t43, t44, t45, t46, t47, t48, t49, t50, t51, t52, t53, t54, t55, t56, t57, t58, t59, t60, t61, t62, t63, t64, t65, t66, t67, t68, t69, t70, t71, t72, t73, t74, t75, t76, t77, t78, t79, t80, t81, t82, t83, t84, t85, t86, t87, t88, t89, t90, t91, t92, t93, t94, t95, t96, t97, t98, t99, t100, t101, t102, t103, t104, t105, t106, t107, t108, t109, t110, t111, t112, t113, t114, t115, t116, t117, t118, t119, t120, t121, t122, t123, t124, t125, t126, t127, t128, t129, t130, t131, t132, t133, t134, t135, t136, t137, t138, t139, t140, t141, t142, t143, t144, t145, t146, t147, t148], defers := [] } v := by
 have d1 : Below v.heap.size v v.drew := ⟨rfl, rfl, rfl, Nat.le_refl _, fun _ _ => rfl⟩
 have j0 := HC.out d1
 refine wp_region_held_drew (S := (fun w' => w'.cell? ⟨ka, 0, none⟩ = some (.slice x1 n1 y1) ∧ w'.cell? ⟨ka, 1, none⟩ = some (.slice x2 n2 y2))) (by kernel_rfl) j0 (fun hS => ?_)
 refine wpAnyH_take (i := 1) (oi := { dst := some 82, op := Op.load 25 (Operand.tmp 8), type := 25, pos := "law.go:147", after := #[], guard := none }) (v := .agg #[.slice x1 n1 y1, .slice x2 n2 y2]) rfl (by kernel_rfl) (by kernel_rfl) (by kernel_rfl) (fun _ _ _ h => hP _ _ _ _ _ h) (Or.inl ⟨by rfl, (by intro w hSw; (try dsimp only at hSw); go_simp)⟩) (by assumption) ?_
 simp only [Act.put, List.setIfInBounds_toArray, List.set_cons_zero, List.set_cons_succ]
 refine wpAnyH_ready (rs := [0, 6]) (by kernel_rfl) (by simp) ?_
 refine (AllReadyH.cons (o := { dst := some 81, op := Op.call { callee := Callee.value (Operand.func 8), args := #[], argTypes := #[] }, type := 35, pos := "law.go:147", after := #[], guard := none }) rfl (fun K hK => ?_) (AllReadyH.cons (o := { dst := some 16, op := Op.alloc 25, type := 0, pos := "law.go:147", after := #[], guard := none }) rfl (fun K hK => ?_) AllReadyH.nil))
 · go_simp
   refine (env_any _).mono ?_
   rintro e wE ⟨ds0, ea, ec, hd, rfl, ho, pE⟩
   have kE : Below v.heap.size v wE := d1.trans (pE.mono d1.size)
   have jE := HC.out kE
   go_simp
   refine hK.out _ _ (jE) (fun _ => ?_)
   clear hK K
   refine wpAnyH_ready (rs := [2, 6]) (by kernel_rfl) (by simp) ?_
   refine (AllReadyH.cons (o := { dst := some 83, op := Op.call { callee := Callee.value (Operand.func 11), args := #[Operand.tmp 81, Operand.const (Value.int IntKind.i32 126), Operand.tmp 82], argTypes := #[35, 21, 25] }, type := 29, pos := "law.go:147", after := #[{ on := 0, ground := Ground.data }, { on := 1, ground := Ground.data }, { on := 0, ground := Ground.chain }], guard := none }) rfl (fun K hK => ?_) (AllReadyH.cons (o := { dst := some 16, op := Op.alloc 25, type := 0, pos := "law.go:147", after := #[], guard := none }) rfl (fun K hK => ?_) AllReadyH.nil))
   · go_simp
     have sC : v.heap.size ≤ wE.heap.size := kE.size
     refine (KT.out _ ds0 ea ec hd (ho.rd) kE).mono ?_
     rintro e wT ⟨⟨x5, y5, b3, d3, rfl, hv⟩, pT⟩
     have kT : Below v.heap.size v wT := kE.trans (pT.mono kE.size)
     have jT := HC.out kT
     have HV : Hid (ArV 1 (Fr wE.heap.size wT.heap.size) wT (.slice x5 1 y5) (.slice b3 m d3) U) := hv
     clear hv
     go_simp
     refine hK.out _ _ (jT) (fun _ => ?_)
     clear hK K
     refine wpAnyH_take (i := 3) (oi := { dst := some 80, op := Op.move (Operand.tmp 83), type := 29, pos := "law.go:147", after := #[{ on := 2, ground := Ground.data }], guard := none }) (v := .tuple #[.agg #[.slice x5 1 y5, .slice b3 m d3], .int .i64 0]) rfl (by kernel_rfl) (by kernel_rfl) (by kernel_rfl) (fun _ _ _ h => hP _ _ _ _ _ h) (Or.inl ⟨by rfl, (by intro w hSw; (try dsimp only at hSw); go_simp)⟩) (by assumption) ?_
     simp only [Act.put, List.setIfInBounds_toArray, List.set_cons_zero, List.set_cons_succ]
     refine wpAnyH_take (i := 4) (oi := { dst := some 84, op := Op.extract (Operand.tmp 80) 0, type := 25, pos := "law.go:147", after := #[{ on := 3, ground := Ground.data }], guard := none }) (v := .agg #[.slice x5 1 y5, .slice b3 m d3]) rfl (by kernel_rfl) (by kernel_rfl) (by kernel_rfl) (fun _ _ _ h => hP _ _ _ _ _ h) (Or.inl ⟨by rfl, (by intro w hSw; (try dsimp only at hSw); go_simp)⟩) (by assumption) ?_
     simp only [Act.put, List.setIfInBounds_toArray, List.set_cons_zero, List.set_cons_succ]
     refine wpAnyH_take (i := 5) (oi := { dst := some 85, op := Op.extract (Operand.tmp 80) 1, type := 28, pos := "law.go:147", after := #[{ on := 3, ground := Ground.data }, { on := 7, ground := Ground.gcOnly Departure.lateStores }], guard := none }) (v := .int .i64 0) rfl (by kernel_rfl) (by kernel_rfl) (by kernel_rfl) (fun _ _ _ h => hP _ _ _ _ _ h) (Or.inl ⟨by rfl, (by intro w hSw; (try dsimp only at hSw); go_simp)⟩) (by assumption) ?_
     simp only [Act.put, List.setIfInBounds_toArray, List.set_cons_zero, List.set_cons_succ]
     refine wpAnyH_ready (rs := [6]) (by kernel_rfl) (by simp) ?_
     refine (AllReadyH.cons (o := { dst := some 16, op := Op.alloc 25, type := 0, pos := "law.go:147", after := #[], guard := none }) rfl (fun K hK => ?_) AllReadyH.nil)
     go_simp
     have kA : Below v.heap.size v (wT.alloc (.cells #[.slice none 0 0, .slice none 0 0] 25)) := kT.trans ((below_alloc wT (.cells #[.slice none 0 0, .slice none 0 0] 25)).mono kT.size)
     have jA := HC.out kA
     have BA : BoxA (wT.alloc (.cells #[.slice none 0 0, .slice none 0 0] 25)) wT.heap.size 25 #[.slice none 0 0, .slice none 0 0] := boxA_new wT #[.slice none 0 0, .slice none 0 0] 25
     have nA : v.heap.size ≤ wT.heap.size := kT.size
     go_simp
     refine hK.out _ _ (jA) (fun _ => ?_)
     clear hK K
     refine wpAnyH_ready (rs := [7]) (by kernel_rfl) (by simp) ?_
     refine (AllReadyH.cons (o := { dst := none, op := Op.store 25 (Operand.tmp 16) (Operand.tmp 84), type := 0, pos := "law.go:147", after := #[{ on := 6, ground := Ground.data }, { on := 4, ground := Ground.data }, { on := 2, ground := Ground.chain }, { on := 0, ground := Ground.phase }, { on := 1, ground := Ground.phase }, { on := 2, ground := Ground.phase }, { on := 3, ground := Ground.phase }, { on := 4, ground := Ground.phase }, { on := 5, ground := Ground.textOnly Departure.lateStores }, { on := 6, ground := Ground.phase }], guard := none }) rfl (fun K hK => ?_) AllReadyH.nil)
     go_simp
     have r0 := BA.cell 0 rfl
     have r1 := BA.cell 1 rfl
     have f0 := BA.frozen 0
     have f1 := BA.frozen 1
     have BS := boxA_new wT #[.slice x5 1 y5, .slice b3 m d3] 25
     have kS : Below v.heap.size v (wT.alloc (.cells #[.slice x5 1 y5, .slice b3 m d3] 25)) := kT.trans ((below_alloc wT (.cells #[.slice x5 1 y5, .slice b3 m d3] 25)).mono kT.size)
     have jS := HC.out kS
     have HVS : Hid (ArV 1 (Fr v.heap.size (wT.alloc (.cells #[.slice x5 1 y5, .slice b3 m d3] 25)).heap.size) (wT.alloc (.cells #[.slice x5 1 y5, .slice b3 m d3] 25)) (.slice x5 1 y5) (.slice b3 m d3) U) := ArV.imp (fun q hq => ⟨by have := hq.1; omega, by rw [World.size_alloc]; have := hq.2; omega⟩) (fun q hq => (below_alloc wT (.cells #[.slice x5 1 y5, .slice b3 m d3] 25)).block q hq.2) 1 1 _ _ _ (Nat.le_refl _) HV.out
     go_simp
     refine hK.out _ _ (jS) (fun _ => ?_)
     clear hK K
     refine wpAnyH_take (i := 8) (oi := { dst := some 17, op := Op.assign (Operand.tmp 85), type := 28, pos := "law.go:147", after := #[{ on := 5, ground := Ground.data }, { on := 7, ground := Ground.chain }, { on := 0, ground := Ground.phase }, { on := 1, ground := Ground.phase }, { on := 2, ground := Ground.phase }, { on := 3, ground := Ground.phase }, { on := 4, ground := Ground.phase }, { on := 5, ground := Ground.phase }, { on := 6, ground := Ground.phase }, { on := 7, ground := Ground.phase }], guard := none }) (v := .int .i64 0) rfl (by kernel_rfl) (by kernel_rfl) (by kernel_rfl) (fun _ _ _ h => hP _ _ _ _ _ h) (Or.inl ⟨by rfl, (by intro w hSw; (try dsimp only at hSw); go_simp)⟩) (by assumption) ?_
     simp only [Act.put, List.setIfInBounds_toArray, List.set_cons_zero, List.set_cons_succ]
     refine wpAnyH_done (by kernel_rfl) ?_ _
     exact hQ _ ds0 ea ec x5 y5 b3 d3 _ BS nA HVS kS
   · go_simp
     have kA : Below v.heap.size v (wE.alloc (.cells #[.slice none 0 0, .slice none 0 0] 25)) := kE.trans ((below_alloc wE (.cells #[.slice none 0 0, .slice none 0 0] 25)).mono kE.size)
     have jA := HC.out kA
     have BA : BoxA (wE.alloc (.cells #[.slice none 0 0, .slice none 0 0] 25)) wE.heap.size 25 #[.slice none 0 0, .slice none 0 0] := boxA_new wE #[.slice none 0 0, .slice none 0 0] 25
     have nA : v.heap.size ≤ wE.heap.size := kE.size
     go_simp
     refine hK.out _ _ (jA) (fun _ => ?_)
     clear hK K
     refine wpAnyH_ready (rs := [2]) (by kernel_rfl) (by simp) ?_
     refine (AllReadyH.cons (o := { dst := some 83, op := Op.call { callee := Callee.value (Operand.func 11), args := #[Operand.tmp 81, Operand.const (Value.int IntKind.i32 126), Operand.tmp 82], argTypes := #[35, 21, 25] }, type := 29, pos := "law.go:147", after := #[{ on := 0, ground := Ground.data }, { on := 1, ground := Ground.data }, { on := 0, ground := Ground.chain }], guard := none }) rfl (fun K hK => ?_) AllReadyH.nil)
     go_simp
     have sC : v.heap.size ≤ (wE.alloc (.cells #[.slice none 0 0, .slice none 0 0] 25)).heap.size := kA.size
     have lBA := BA.lt
     refine (KT.out _ ds0 ea ec hd ((ho.below (below_alloc wE (.cells #[.slice none 0 0, .slice none 0 0] 25)) (Nat.le_refl _)).rd) kA).mono ?_
     rintro e wT ⟨⟨x5, y5, b3, d3, rfl, hv⟩, pT⟩
     have kT : Below v.heap.size v wT := kA.trans (pT.mono kA.size)
     have jT := HC.out kT
     have HV : Hid (ArV 1 (Fr (wE.alloc (.cells #[.slice none 0 0, .slice none 0 0] 25)).heap.size wT.heap.size) wT (.slice x5 1 y5) (.slice b3 m d3) U) := hv
     clear hv
     replace BA := BA.below pT lBA
     go_simp
     refine hK.out _ _ (jT) (fun _ => ?_)
     clear hK K
     refine wpAnyH_take (i := 3) (oi := { dst := some 80, op := Op.move (Operand.tmp 83), type := 29, pos := "law.go:147", after := #[{ on := 2, ground := Ground.data }], guard := none }) (v := .tuple #[.agg #[.slice x5 1 y5, .slice b3 m d3], .int .i64 0]) rfl (by kernel_rfl) (by kernel_rfl) (by kernel_rfl) (fun _ _ _ h => hP _ _ _ _ _ h) (Or.inl ⟨by rfl, (by intro w hSw; (try dsimp only at hSw); go_simp)⟩) (by assumption) ?_
     simp only [Act.put, List.setIfInBounds_toArray, List.set_cons_zero, List.set_cons_succ]
     refine wpAnyH_take (i := 4) (oi := { dst := some 84, op := Op.extract (Operand.tmp 80) 0, type := 25, pos := "law.go:147", after := #[{ on := 3, ground := Ground.data }], guard := none }) (v := .agg #[.slice x5 1 y5, .slice b3 m d3]) rfl (by kernel_rfl) (by kernel_rfl) (by kernel_rfl) (fun _ _ _ h => hP _ _ _ _ _ h) (Or.inl ⟨by rfl, (by intro w hSw; (try dsimp only at hSw); go_simp)⟩) (by assumption) ?_
     simp only [Act.put, List.setIfInBounds_toArray, List.set_cons_zero, List.set_cons_succ]
     refine wpAnyH_take (i := 5) (oi := { dst := some 85, op := Op.extract (Operand.tmp 80) 1, type := 28, pos := "law.go:147", after := #[{ on := 3, ground := Ground.data }, { on := 7, ground := Ground.gcOnly Departure.lateStores }], guard := none }) (v := .int .i64 0) rfl (by kernel_rfl) (by kernel_rfl) (by kernel_rfl) (fun _ _ _ h => hP _ _ _ _ _ h) (Or.inl ⟨by rfl, (by intro w hSw; (try dsimp only at hSw); go_simp)⟩) (by assumption) ?_
     simp only [Act.put, List.setIfInBounds_toArray, List.set_cons_zero, List.set_cons_succ]
     refine wpAnyH_ready (rs := [7]) (by kernel_rfl) (by simp) ?_
     refine (AllReadyH.cons (o := { dst := none, op := Op.store 25 (Operand.tmp 16) (Operand.tmp 84), type := 0, pos := "law.go:147", after := #[{ on := 6, ground := Ground.data }, { on := 4, ground := Ground.data }, { on := 2, ground := Ground.chain }, { on := 0, ground := Ground.phase }, { on := 1, ground := Ground.phase }, { on := 2, ground := Ground.phase }, { on := 3, ground := Ground.phase }, { on := 4, ground := Ground.phase }, { on := 5, ground := Ground.textOnly Departure.lateStores }, { on := 6, ground := Ground.phase }], guard := none }) rfl (fun K hK => ?_) AllReadyH.nil)
     go_simp
     have r0 := BA.cell 0 rfl
     have r1 := BA.cell 1 rfl
     have f0 := BA.frozen 0
     have f1 := BA.frozen 1
     have BS := boxA_s1 (boxA_s0 BA (.slice x5 1 y5)) (.slice b3 m d3)
     have kS := Below.set2 kT nA (.slice x5 1 y5) (.slice b3 m d3)
     have jS := HC.out kS
     have HVS : Hid (ArV 1 (Fr v.heap.size ((wT.setCell ⟨wE.heap.size, 0, none⟩ (.slice x5 1 y5)).setCell ⟨wE.heap.size, 1, none⟩ (.slice b3 m d3)).heap.size) ((wT.setCell ⟨wE.heap.size, 0, none⟩ (.slice x5 1 y5)).setCell ⟨wE.heap.size, 1, none⟩ (.slice b3 m d3)) (.slice x5 1 y5) (.slice b3 m d3) U) := ArV.imp (fun q hq => ⟨by have := hq.1; omega, by rw [set1_size, set1_size]; exact hq.2⟩) (fun q hq => by rw [set1_other (by show ¬ wE.heap.size = q; have := hq.1; omega), set1_other (by show ¬ wE.heap.size = q; have := hq.1; omega)]) 1 1 _ _ _ (Nat.le_refl _) HV.out
     go_simp
     refine hK.out _ _ (jS) (fun _ => ?_)
     clear hK K
     refine wpAnyH_take (i := 8) (oi := { dst := some 17, op := Op.assign (Operand.tmp 85), type := 28, pos := "law.go:147", after := #[{ on := 5, ground := Ground.data }, { on := 7, ground := Ground.chain }, { on := 0, ground := Ground.phase }, { on := 1, ground := Ground.phase }, { on := 2, ground := Ground.phase }, { on := 3, ground := Ground.phase }, { on := 4, ground := Ground.phase }, { on := 5, ground := Ground.phase }, { on := 6, ground := Ground.phase }, { on := 7, ground := Ground.phase }], guard := none }) (v := .int .i64 0) rfl (by kernel_rfl) (by kernel_rfl) (by kernel_rfl) (fun _ _ _ h => hP _ _ _ _ _ h) (Or.inl ⟨by rfl, (by intro w hSw; (try dsimp only at hSw); go_simp)⟩) (by assumption) ?_
     simp only [Act.put, List.setIfInBounds_toArray, List.set_cons_zero, List.set_cons_succ]
     refine wpAnyH_done (by kernel_rfl) ?_ _
     exact hQ _ ds0 ea ec x5 y5 b3 d3 _ BS nA HVS kS
 · go_simp
   have kA : Below v.heap.size v (v.drew.alloc (.cells #[.slice none 0 0, .slice none 0 0] 25)) := d1.trans ((below_alloc v.drew (.cells #[.slice none 0 0, .slice none 0 0] 25)).mono d1.size)
   have jA := HC.out kA
   have BA : BoxA (v.drew.alloc (.cells #[.slice none 0 0, .slice none 0 0] 25)) v.heap.size 25 #[.slice none 0 0, .slice none 0 0] := boxA_new v.drew #[.slice none 0 0, .slice none 0 0] 25
   have nA : v.heap.size ≤ v.heap.size := d1.size
   go_simp
   refine hK.out _ _ (jA) (fun _ => ?_)
   clear hK K
   refine wpAnyH_ready (rs := [0]) (by kernel_rfl) (by simp) ?_
   refine (AllReadyH.cons (o := { dst := some 81, op := Op.call { callee := Callee.value (Operand.func 8), args := #[], argTypes := #[] }, type := 35, pos := "law.go:147", after := #[], guard := none }) rfl (fun K hK => ?_) AllReadyH.nil)
   go_simp
   refine (env_any _).mono ?_
   rintro e wE ⟨ds0, ea, ec, hd, rfl, ho, pE⟩
   have kE : Below v.heap.size v wE := kA.trans (pE.mono kA.size)
   have jE := HC.out kE
   have lBA := BA.lt
   replace BA := BA.below pE lBA
   clear lBA
   go_simp
   refine hK.out _ _ (jE) (fun _ => ?_)
   clear hK K
   refine wpAnyH_ready (rs := [2]) (by kernel_rfl) (by simp) ?_
   refine (AllReadyH.cons (o := { dst := some 83, op := Op.call { callee := Callee.value (Operand.func 11), args := #[Operand.tmp 81, Operand.const (Value.int IntKind.i32 126), Operand.tmp 82], argTypes := #[35, 21, 25] }, type := 29, pos := "law.go:147", after := #[{ on := 0, ground := Ground.data }, { on := 1, ground := Ground.data }, { on := 0, ground := Ground.chain }], guard := none }) rfl (fun K hK => ?_) AllReadyH.nil)
   go_simp
   have sC : v.heap.size ≤ wE.heap.size := kE.size
   have lBA := BA.lt
   refine (KT.out _ ds0 ea ec hd (ho.rd) kE).mono ?_
   rintro e wT ⟨⟨x5, y5, b3, d3, rfl, hv⟩, pT⟩
   have kT : Below v.heap.size v wT := kE.trans (pT.mono kE.size)
   have jT := HC.out kT
   have HV : Hid (ArV 1 (Fr wE.heap.size wT.heap.size) wT (.slice x5 1 y5) (.slice b3 m d3) U) := hv
   clear hv
   replace BA := BA.below pT lBA
   go_simp
   refine hK.out _ _ (jT) (fun _ => ?_)
   clear hK K
   refine wpAnyH_take (i := 3) (oi := { dst := some 80, op := Op.move (Operand.tmp 83), type := 29, pos := "law.go:147", after := #[{ on := 2, ground := Ground.data }], guard := none }) (v := .tuple #[.agg #[.slice x5 1 y5, .slice b3 m d3], .int .i64 0]) rfl (by kernel_rfl) (by kernel_rfl) (by kernel_rfl) (fun _ _ _ h => hP _ _ _ _ _ h) (Or.inl ⟨by rfl, (by intro w hSw; (try dsimp only at hSw); go_simp)⟩) (by assumption) ?_
   simp only [Act.put, List.setIfInBounds_toArray, List.set_cons_zero, List.set_cons_succ]
   refine wpAnyH_take (i := 4) (oi := { dst := some 84, op := Op.extract (Operand.tmp 80) 0, type := 25, pos := "law.go:147", after := #[{ on := 3, ground := Ground.data }], guard := none }) (v := .agg #[.slice x5 1 y5, .slice b3 m d3]) rfl (by kernel_rfl) (by kernel_rfl) (by kernel_rfl) (fun _ _ _ h => hP _ _ _ _ _ h) (Or.inl ⟨by rfl, (by intro w hSw; (try dsimp only at hSw); go_simp)⟩) (by assumption) ?_
   simp only [Act.put, List.setIfInBounds_toArray, List.set_cons_zero, List.set_cons_succ]
   refine wpAnyH_take (i := 5) (oi := { dst := some 85, op := Op.extract (Operand.tmp 80) 1, type := 28, pos := "law.go:147", after := #[{ on := 3, ground := Ground.data }, { on := 7, ground := Ground.gcOnly Departure.lateStores }], guard := none }) (v := .int .i64 0) rfl (by kernel_rfl) (by kernel_rfl) (by kernel_rfl) (fun _ _ _ h => hP _ _ _ _ _ h) (Or.inl ⟨by rfl, (by intro w hSw; (try dsimp only at hSw); go_simp)⟩) (by assumption) ?_
   simp only [Act.put, List.setIfInBounds_toArray, List.set_cons_zero, List.set_cons_succ]
   refine wpAnyH_ready (rs := [7]) (by kernel_rfl) (by simp) ?_
   refine (AllReadyH.cons (o := { dst := none, op := Op.store 25 (Operand.tmp 16) (Operand.tmp 84), type := 0, pos := "law.go:147", after := #[{ on := 6, ground := Ground.data }, { on := 4, ground := Ground.data }, { on := 2, ground := Ground.chain }, { on := 0, ground := Ground.phase }, { on := 1, ground := Ground.phase }, { on := 2, ground := Ground.phase }, { on := 3, ground := Ground.phase }, { on := 4, ground := Ground.phase }, { on := 5, ground := Ground.textOnly Departure.lateStores }, { on := 6, ground := Ground.phase }], guard := none }) rfl (fun K hK => ?_) AllReadyH.nil)
   go_simp
   have r0 := BA.cell 0 rfl
   have r1 := BA.cell 1 rfl
   have f0 := BA.frozen 0
   have f1 := BA.frozen 1
   have BS := boxA_s1 (boxA_s0 BA (.slice x5 1 y5)) (.slice b3 m d3)
   have kS := Below.set2 kT nA (.slice x5 1 y5) (.slice b3 m d3)
   have jS := HC.out kS
   have HVS : Hid (ArV 1 (Fr v.heap.size ((wT.setCell ⟨v.heap.size, 0, none⟩ (.slice x5 1 y5)).setCell ⟨v.heap.size, 1, none⟩ (.slice b3 m d3)).heap.size) ((wT.setCell ⟨v.heap.size, 0, none⟩ (.slice x5 1 y5)).setCell ⟨v.heap.size, 1, none⟩ (.slice b3 m d3)) (.slice x5 1 y5) (.slice b3 m d3) U) := ArV.imp (fun q hq => ⟨by have := hq.1; omega, by rw [set1_size, set1_size]; exact hq.2⟩) (fun q hq => by rw [set1_other (by show ¬ v.heap.size = q; have := hq.1; omega), set1_other (by show ¬ v.heap.size = q; have := hq.1; omega)]) 1 1 _ _ _ (Nat.le_refl _) HV.out
   go_simp
   refine hK.out _ _ (jS) (fun _ => ?_)
   clear hK K
   refine wpAnyH_take (i := 8) (oi := { dst := some 17, op := Op.assign (Operand.tmp 85), type := 28, pos := "law.go:147", after := #[{ on := 5, ground := Ground.data }, { on := 7, ground := Ground.chain }, { on := 0, ground := Ground.phase }, { on := 1, ground := Ground.phase }, { on := 2, ground := Ground.phase }, { on := 3, ground := Ground.phase }, { on := 4, ground := Ground.phase }, { on := 5, ground := Ground.phase }, { on := 6, ground := Ground.phase }, { on := 7, ground := Ground.phase }], guard := none }) (v := .int .i64 0) rfl (by kernel_rfl) (by kernel_rfl) (by kernel_rfl) (fun _ _ _ h => hP _ _ _ _ _ h) (Or.inl ⟨by rfl, (by intro w hSw; (try dsimp only at hSw); go_simp)⟩) (by assumption) ?_
   simp only [Act.put, List.setIfInBounds_toArray, List.set_cons_zero, List.set_cons_succ]
   refine wpAnyH_done (by kernel_rfl) ?_ _
   exact hQ _ ds0 ea ec x5 y5 b3 d3 _ BS nA HVS kS
end
section
variable {v : World} {x1 x2 : Option Addr} {n1 y1 n2 y2 ka m : Nat} {U : Tr}
set_option maxRecDepth 100000 in
set_option maxHeartbeats 16000000 in
theorem logic_12 {Q : Exit → Act → World → Prop} {t0 t1 t2 t3 t4 t5 t6 t7 t8 t10 t11 t12 t13 t14 t15 t16 t17 t18 t19 t20 t21 t22 t23 t24 t25 t26 t27 t28 t29 t30 t31 t32 t33 t34 t35 t36 t37 t38 t39 t40 t41 t42 t43 t44 t45 t46 t47 t48 t49 t50 t51 t52 t53 t54 t55 t56 t57 t58 t59 t60 t61 t62 t63 t64 t65 t66 t67 t68 t69 t70 t71 t72 t73 t74 t75 t76 t77 t78 t79 t80 t81 t82 t83 t84 t85 t86 t87 t88 t89 t90 t91 t92 t93 t94 t95 t96 t97 t98 t99 t100 t101 t102 t103 t104 t105 t106 t107 t108 t109 t110 t111 t112 t113 t114 t115 t116 t117 t118 t119 t120 t121 t122 t123 t124 t125 t126 t127 t128 t129 t130 t131 t132 t133 t134 t135 t136 t137 t138 t139 t140 t141 t142 t143 t144 t145 t146 t147 t148 : Value} (HC : Hid (∀ {w' : World}, Below v.heap.size v w' → w'.cell? ⟨ka, 0, none⟩ = some (.slice x1 n1 y1) ∧ w'.cell? ⟨ka, 1, none⟩ = some (.slice x2 n2 y2)))
    (KT : Hid (∀ u (ds0 : List Int) ea ec, Hid (ds0 = [(1 : Int)]) → Rd u.heap.size u (.slice ea ds0.length ec) ds0 → Below v.heap.size v u → Calls Tryz.prog 11 #[.agg #[.int .i64 1, .bool false, .slice none 0 0, .slice ea ds0.length ec, .int .i64 0], .int .i32 126, .agg #[.slice x1 n1 y1, .slice x2 n2 y2]] u fun e w' => (∃ x5 y5 b3 d3, e = .returned (.tuple #[.agg #[.slice x5 1 y5, .slice b3 m d3], .int .i64 0]) ∧ ArV 1 (Fr u.heap.size w'.heap.size) w' (.slice x5 1 y5) (.slice b3 m d3) U) ∧ Below u.heap.size u w'))
    (hQ : ∀ A (ds0 : List Int) ea ec x5 y5 b3 d3 w', BoxA w' A 25 #[.slice x5 1 y5, .slice b3 m d3] → v.heap.size ≤ A → Hid (ArV 1 (Fr v.heap.size w'.heap.size) w' (.slice x5 1 y5) (.slice b3 m d3) U) → Below v.heap.size v w' → Q .normal { tmps := #[t0, t1, t2, t3, t4, t5, t6, t7, t8, .pointer (some ⟨ka, 0, none⟩), t10, t11, t12, t13, t14, t15, t16, t17, .pointer (some ⟨A, 0, none⟩), .int .i64 0, t20, t21, t22, t23, t24, t25, t26, t27, t28, t29, t30, t31, t32, t33, t34, t35, t36, t37, t38, t39, t40, t41, t42, t43, t44, t45, t46, t47, t48, t49, t50, t51, t52, t53, t54, t55, t56, t57, t58, t59, t60, t61, t62, t63, t64, t65, t66, t67, t68, t69, t70, t71, t72, t73, t74, t75, t76, t77, t78, t79, t80, t81, t82, t83, t84, t85, .tuple #[.agg #[.slice x5 1 y5, .slice b3 m d3], .int .i64 0], .agg #[.int .i64 1, .bool false, .slice none 0 0, .slice ea ds0.length ec, .int .i64 0], .agg #[.slice x1 n1 y1, .slice x2 n2 y2], .tuple #[.agg #[.slice x5 1 y5, .slice b3 m d3], .int .i64 0], .agg #[.slice x5 1 y5, .slice b3 m d3], .int .i64 0, t92, t93, t94, t95, t96, t97, t98, t99, t100, t101, t102, t103, t104, t105, t106, t107, t108, t109, t110, t111, t112, t113, t114, t115, t116, t117, t118, t119, t120, t121, t122, t123, t124, t125, t126, t127, t128, t129, t130, t131, t132, t133, t134, t135, t136, t137, t138, t139, t140, t141, t142, t143, t144, t145, t146, t147, t148], defers := [] } w') (hP : ∀ c a d x w, Q (.panic c) (Act.put a d x) w → Q (.panic c) a w) :
    (Code.region 12 #[{ dst := some 87, op := Op.call { callee := Callee.value (Operand.func 8), args := #[], argTypes := #[] }, type := 35, pos := "law.go:148", after := #[], guard := none }, { dst := some 88, op := Op.load 25 (Operand.tmp 9), type := 25, pos := "law.go:148", after := #[], guard := none }, { dst := some 89, op := Op.call { callee := Callee.value (Operand.func 11), args := #[Operand.tmp 87, Operand.const (Value.int IntKind.i32 126), Operand.tmp 88], argTypes := #[35, 21, 25] }, type := 29, pos := "law.go:148", after := #[{ on := 0, ground := Ground.data }, { on := 1, ground := Ground.data }, { on := 0, ground := Ground.chain }], guard := none }, { dst := some 86, op := Op.move (Operand.tmp 89), type := 29, pos := "law.go:148", after := #[{ on := 2, ground := Ground.data }], guard := none }, { dst := some 90, op := Op.extract (Operand.tmp 86) 0, type := 25, pos := "law.go:148", after := #[{ on := 3, ground := Ground.data }], guard := none }, { dst := some 91, op := Op.extract (Operand.tmp 86) 1, type := 28, pos := "law.go:148", after := #[{ on := 3, ground := Ground.data }, { on := 7, ground := Ground.gcOnly Departure.lateStores }], guard := none }, { dst := some 18, op := Op.alloc 25, type := 0, pos := "law.go:148", after := #[], guard := none }, { dst := none, op := Op.store 25 (Operand.tmp 18) (Operand.tmp 90), type := 0, pos := "law.go:148", after := #[{ on := 6, ground := Ground.data }, { on := 4, ground := Ground.data }, { on := 2, ground := Ground.chain }, { on := 0, ground := Ground.phase }, { on := 1, ground := Ground.phase }, { on := 2, ground := Ground.phase }, { on := 3, ground := Ground.phase }, { on := 4, ground := Ground.phase }, { on := 5, ground := Ground.textOnly Departure.lateStores }, { on := 6, ground := Ground.phase }], guard := none }, { dst := some 19, op := Op.assign (Operand.tmp 91), type := 28, pos := "law.go:148", after := #[{ on := 5, ground := Ground.data }, { on := 7, ground := Ground.chain }, { on := 0, ground := Ground.phase }, { on := 1, ground := Ground.phase }, { on := 2, ground := Ground.phase }, { on := 3, ground := Ground.phase }, { on := 4, ground := Ground.phase }, { on := 5, ground := Ground.phase }, { on := 6, ground := Ground.phase }, { on := 7, ground := Ground.phase }], guard := none }] true).wp Tryz.prog Q { tmps := #[t0, t1, t2, t3, t4, t5, t6, t7, t8, .pointer (some ⟨ka, 0, none⟩), t10, t11, t12, t13, t14, t15, t16, t17, t18, t19, t20, t21, t22, t23, t24, t25, t26, t27, t28, t29, t30, t31, t32, t33, t34, t35, t36, t37, t38, t39, t40, t41, t42, t43, t44, t45, t46, t47, t48, t49, t50, t51, t52, t53, t54, t55, t56, t57, t58, t59, t60, t61, t62, t63, t64, t65, t66, t67, t68, t69, t70, t71, t72, t73, t74, t75, t76, t77, t78, t79, t80, t81, t82, t83, t84, t85, t86, t87, t88, t89, t90, t91, t92, t93, t94, t95, t96, t97, t98, t99, t100, t101, t102, t103, t104, t105, t106, t107, t108, t109, t110, t111, t112, t113, t114, t115, t116, t117, t118, t119, t120, t121, t122, t123, t124, t125, t126, t127, t128, t129, t130, t131, t132, t133, t134, t135, t136, t137, t138, t139, t140, t141, t142, t143, t144, t145, t146, t147, t148], defers := [] } v := by
 have d1 : Below v.heap.size v v.drew := ⟨rfl, rfl, rfl, Nat.le_refl _, fun _ _ => rfl⟩
 have j0 := HC.out d1
 refine wp_region_held_drew (S := (fun w' => w'.cell? ⟨ka, 0, none⟩ = some (.slice x1 n1 y1) ∧ w'.cell? ⟨ka, 1, none⟩ = some (.slice x2 n2 y2))) (by kernel_rfl) j0 (fun hS => ?_)
 refine wpAnyH_take (i := 1) (oi := { dst := some 88, op := Op.load 25 (Operand.tmp 9), type := 25, pos := "law.go:148", after := #[], guard := none }) (v := .agg #[.slice x1 n1 y1, .slice x2 n2 y2]) rfl (by kernel_rfl) (by kernel_rfl) (by kernel_rfl) (fun _ _ _ h => hP _ _ _ _ _ h) (Or.inl ⟨by rfl, (by intro w hSw; (try dsimp only at hSw); go_simp)⟩) (by assumption) ?_
 simp only [Act.put, List.setIfInBounds_toArray, List.set_cons_zero, List.set_cons_succ]
 refine wpAnyH_ready (rs := [0, 6]) (by kernel_rfl) (by simp) ?_
 refine (AllReadyH.cons (o := { dst := some 87, op := Op.call { callee := Callee.value (Operand.func 8), args := #[], argTypes := #[] }, type := 35, pos := "law.go:148", after := #[], guard := none }) rfl (fun K hK => ?_) (AllReadyH.cons (o := { dst := some 18, op := Op.alloc 25, type := 0, pos := "law.go:148", after := #[], guard := none }) rfl (fun K hK => ?_) AllReadyH.nil))
 · go_simp
   refine (env_any _).mono ?_
   rintro e wE ⟨ds0, ea, ec, hd, rfl, ho, pE⟩
   have kE : Below v.heap.size v wE := d1.trans (pE.mono d1.size)
   have jE := HC.out kE
   go_simp
   refine hK.out _ _ (jE) (fun _ => ?_)
   clear hK K
   refine wpAnyH_ready (rs := [2, 6]) (by kernel_rfl) (by simp) ?_
   refine (AllReadyH.cons (o := { dst := some 89, op := Op.call { callee := Callee.value (Operand.func 11), args := #[Operand.tmp 87, Operand.const (Value.int IntKind.i32 126), Operand.tmp 88], argTypes := #[35, 21, 25] }, type := 29, pos := "law.go:148", after := #[{ on := 0, ground := Ground.data }, { on := 1, ground := Ground.data }, { on := 0, ground := Ground.chain }], guard := none }) rfl (fun K hK => ?_) (AllReadyH.cons (o := { dst := some 18, op := Op.alloc 25, type := 0, pos := "law.go:148", after := #[], guard := none }) rfl (fun K hK => ?_) AllReadyH.nil))
   · go_simp
     have sC : v.heap.size ≤ wE.heap.size := kE.size
     refine (KT.out _ ds0 ea ec hd (ho.rd) kE).mono ?_
     rintro e wT ⟨⟨x5, y5, b3, d3, rfl, hv⟩, pT⟩
     have kT : Below v.heap.size v wT := kE.trans (pT.mono kE.size)
     have jT := HC.out kT
     have HV : Hid (ArV 1 (Fr wE.heap.size wT.heap.size) wT (.slice x5 1 y5) (.slice b3 m d3) U) := hv
     clear hv
     go_simp
     refine hK.out _ _ (jT) (fun _ => ?_)
     clear hK K
     refine wpAnyH_take (i := 3) (oi := { dst := some 86, op := Op.move (Operand.tmp 89), type := 29, pos := "law.go:148", after := #[{ on := 2, ground := Ground.data }], guard := none }) (v := .tuple #[.agg #[.slice x5 1 y5, .slice b3 m d3], .int .i64 0]) rfl (by kernel_rfl) (by kernel_rfl) (by kernel_rfl) (fun _ _ _ h => hP _ _ _ _ _ h) (Or.inl ⟨by rfl, (by intro w hSw; (try dsimp only at hSw); go_simp)⟩) (by assumption) ?_
     simp only [Act.put, List.setIfInBounds_toArray, List.set_cons_zero, List.set_cons_succ]
     refine wpAnyH_take (i := 4) (oi := { dst := some 90, op := Op.extract (Operand.tmp 86) 0, type := 25, pos := "law.go:148", after := #[{ on := 3, ground := Ground.data }], guard := none }) (v := .agg #[.slice x5 1 y5, .slice b3 m d3]) rfl (by kernel_rfl) (by kernel_rfl) (by kernel_rfl) (fun _ _ _ h => hP _ _ _ _ _ h) (Or.inl ⟨by rfl, (by intro w hSw; (try dsimp only at hSw); go_simp)⟩) (by assumption) ?_
     simp only [Act.put, List.setIfInBounds_toArray, List.set_cons_zero, List.set_cons_succ]
     refine wpAnyH_take (i := 5) (oi := { dst := some 91, op := Op.extract (Operand.tmp 86) 1, type := 28, pos := "law.go:148", after := #[{ on := 3, ground := Ground.data }, { on := 7, ground := Ground.gcOnly Departure.lateStores }], guard := none }) (v := .int .i64 0) rfl (by kernel_rfl) (by kernel_rfl) (by kernel_rfl) (fun _ _ _ h => hP _ _ _ _ _ h) (Or.inl ⟨by rfl, (by intro w hSw; (try dsimp only at hSw); go_simp)⟩) (by assumption) ?_
     simp only [Act.put, List.setIfInBounds_toArray, List.set_cons_zero, List.set_cons_succ]
     refine wpAnyH_ready (rs := [6]) (by kernel_rfl) (by simp) ?_
     refine (AllReadyH.cons (o := { dst := some 18, op := Op.alloc 25, type := 0, pos := "law.go:148", after := #[], guard := none }) rfl (fun K hK => ?_) AllReadyH.nil)
     go_simp
     have kA : Below v.heap.size v (wT.alloc (.cells #[.slice none 0 0, .slice none 0 0] 25)) := kT.trans ((below_alloc wT (.cells #[.slice none 0 0, .slice none 0 0] 25)).mono kT.size)
     have jA := HC.out kA
     have BA : BoxA (wT.alloc (.cells #[.slice none 0 0, .slice none 0 0] 25)) wT.heap.size 25 #[.slice none 0 0, .slice none 0 0] := boxA_new wT #[.slice none 0 0, .slice none 0 0] 25
     have nA : v.heap.size ≤ wT.heap.size := kT.size
     go_simp
     refine hK.out _ _ (jA) (fun _ => ?_)
     clear hK K
     refine wpAnyH_ready (rs := [7]) (by kernel_rfl) (by simp) ?_
     refine (AllReadyH.cons (o := { dst := none, op := Op.store 25 (Operand.tmp 18) (Operand.tmp 90), type := 0, pos := "law.go:148", after := #[{ on := 6, ground := Ground.data }, { on := 4, ground := Ground.data }, { on := 2, ground := Ground.chain }, { on := 0, ground := Ground.phase }, { on := 1, ground := Ground.phase }, { on := 2, ground := Ground.phase }, { on := 3, ground := Ground.phase }, { on := 4, ground := Ground.phase }, { on := 5, ground := Ground.textOnly Departure.lateStores }, { on := 6, ground := Ground.phase }], guard := none }) rfl (fun K hK => ?_) AllReadyH.nil)
     go_simp
     have r0 := BA.cell 0 rfl
     have r1 := BA.cell 1 rfl
     have f0 := BA.frozen 0
     have f1 := BA.frozen 1
     have BS := boxA_new wT #[.slice x5 1 y5, .slice b3 m d3] 25
     have kS : Below v.heap.size v (wT.alloc (.cells #[.slice x5 1 y5, .slice b3 m d3] 25)) := kT.trans ((below_alloc wT (.cells #[.slice x5 1 y5, .slice b3 m d3] 25)).mono kT.size)
     have jS := HC.out kS
     have HVS : Hid (ArV 1 (Fr v.heap.size (wT.alloc (.cells #[.slice x5 1 y5, .slice b3 m d3] 25)).heap.size) (wT.alloc (.cells #[.slice x5 1 y5, .slice b3 m d3] 25)) (.slice x5 1 y5) (.slice b3 m d3) U) := ArV.imp (fun q hq => ⟨by have := hq.1; omega, by rw [World.size_alloc]; have := hq.2; omega⟩) (fun q hq => (below_alloc wT (.cells #[.slice x5 1 y5, .slice b3 m d3] 25)).block q hq.2) 1 1 _ _ _ (Nat.le_refl _) HV.out
     go_simp
     refine hK.out _ _ (jS) (fun _ => ?_)
     clear hK K
     refine wpAnyH_take (i := 8) (oi := { dst := some 19, op := Op.assign (Operand.tmp 91), type := 28, pos := "law.go:148", after := #[{ on := 5, ground := Ground.data }, { on := 7, ground := Ground.chain }, { on := 0, ground := Ground.phase }, { on := 1, ground := Ground.phase }, { on := 2, ground := Ground.phase }, { on := 3, ground := Ground.phase }, { on := 4, ground := Ground.phase }, { on := 5, ground := Ground.phase }, { on := 6, ground := Ground.phase }, { on := 7, ground := Ground.phase }], guard := none }) (v := .int .i64 0) rfl (by kernel_rfl) (by kernel_rfl) (by kernel_rfl) (fun _ _ _ h => hP _ _ _ _ _ h) (Or.inl ⟨by rfl, (by intro w hSw; (try dsimp only at hSw); go_simp)⟩) (by assumption) ?_
     simp only [Act.put, List.setIfInBounds_toArray, List.set_cons_zero, List.set_cons_succ]
     refine wpAnyH_done (by kernel_rfl) ?_ _
     exact hQ _ ds0 ea ec x5 y5 b3 d3 _ BS nA HVS kS
   · go_simp
     have kA : Below v.heap.size v (wE.alloc (.cells #[.slice none 0 0, .slice none 0 0] 25)) := kE.trans ((below_alloc wE (.cells #[.slice none 0 0, .slice none 0 0] 25)).mono kE.size)
     have jA := HC.out kA
     have BA : BoxA (wE.alloc (.cells #[.slice none 0 0, .slice none 0 0] 25)) wE.heap.size 25 #[.slice none 0 0, .slice none 0 0] := boxA_new wE #[.slice none 0 0, .slice none 0 0] 25
     have nA : v.heap.size ≤ wE.heap.size := kE.size
     go_simp
     refine hK.out _ _ (jA) (fun _ => ?_)
     clear hK K
     refine wpAnyH_ready (rs := [2]) (by kernel_rfl) (by simp) ?_
     refine (AllReadyH.cons (o := { dst := some 89, op := Op.call { callee := Callee.value (Operand.func 11), args := #[Operand.tmp 87, Operand.const (Value.int IntKind.i32 126), Operand.tmp 88], argTypes := #[35, 21, 25] }, type := 29, pos := "law.go:148", after := #[{ on := 0, ground := Ground.data }, { on := 1, ground := Ground.data }, { on := 0, ground := Ground.chain }], guard := none }) rfl (fun K hK => ?_) AllReadyH.nil)
     go_simp
     have sC : v.heap.size ≤ (wE.alloc (.cells #[.slice none 0 0, .slice none 0 0] 25)).heap.size := kA.size
     have lBA := BA.lt
     refine (KT.out _ ds0 ea ec hd ((ho.below (below_alloc wE (.cells #[.slice none 0 0, .slice none 0 0] 25)) (Nat.le_refl _)).rd) kA).mono ?_
     rintro e wT ⟨⟨x5, y5, b3, d3, rfl, hv⟩, pT⟩
     have kT : Below v.heap.size v wT := kA.trans (pT.mono kA.size)
     have jT := HC.out kT
     have HV : Hid (ArV 1 (Fr (wE.alloc (.cells #[.slice none 0 0, .slice none 0 0] 25)).heap.size wT.heap.size) wT (.slice x5 1 y5) (.slice b3 m d3) U) := hv
     clear hv
     replace BA := BA.below pT lBA
     go_simp
     refine hK.out _ _ (jT) (fun _ => ?_)
     clear hK K
     refine wpAnyH_take (i := 3) (oi := { dst := some 86, op := Op.move (Operand.tmp 89), type := 29, pos := "law.go:148", after := #[{ on := 2, ground := Ground.data }], guard := none }) (v := .tuple #[.agg #[.slice x5 1 y5, .slice b3 m d3], .int .i64 0]) rfl (by kernel_rfl) (by kernel_rfl) (by kernel_rfl) (fun _ _ _ h => hP _ _ _ _ _ h) (Or.inl ⟨by rfl, (by intro w hSw; (try dsimp only at hSw); go_simp)⟩) (by assumption) ?_
     simp only [Act.put, List.setIfInBounds_toArray, List.set_cons_zero, List.set_cons_succ]
     refine wpAnyH_take (i := 4) (oi := { dst := some 90, op := Op.extract (Operand.tmp 86) 0, type := 25, pos := "law.go:148", after := #[{ on := 3, ground := Ground.data }], guard := none }) (v := .agg #[.slice x5 1 y5, .slice b3 m d3]) rfl (by kernel_rfl) (by kernel_rfl) (by kernel_rfl) (fun _ _ _ h => hP _ _ _ _ _ h) (Or.inl ⟨by rfl, (by intro w hSw; (try dsimp only at hSw); go_simp)⟩) (by assumption) ?_
     simp only [Act.put, List.setIfInBounds_toArray, List.set_cons_zero, List.set_cons_succ]
     refine wpAnyH_take (i := 5) (oi := { dst := some 91, op := Op.extract (Operand.tmp 86) 1, type := 28, pos := "law.go:148", after := #[{ on := 3, ground := Ground.data }, { on := 7, ground := Ground.gcOnly Departure.lateStores }], guard := none }) (v := .int .i64 0) rfl (by kernel_rfl) (by kernel_rfl) (by kernel_rfl) (fun _ _ _ h => hP _ _ _ _ _ h) (Or.inl ⟨by rfl, (by intro w hSw; (try dsimp only at hSw); go_simp)⟩) (by assumption) ?_
     simp only [Act.put, List.setIfInBounds_toArray, List.set_cons_zero, List.set_cons_succ]
     refine wpAnyH_ready (rs := [7]) (by kernel_rfl) (by simp) ?_
     refine (AllReadyH.cons (o := { dst := none, op := Op.store 25 (Operand.tmp 18) (Operand.tmp 90), type := 0, pos := "law.go:148", after := #[{ on := 6, ground := Ground.data }, { on := 4, ground := Ground.data }, { on := 2, ground := Ground.chain }, { on := 0, ground := Ground.phase }, { on := 1, ground := Ground.phase }, { on := 2, ground := Ground.phase }, { on := 3, ground := Ground.phase }, { on := 4, ground := Ground.phase }, { on := 5, ground := Ground.textOnly Departure.lateStores }, { on := 6, ground := Ground.phase }], guard := none }) rfl (fun K hK => ?_) AllReadyH.nil)
     go_simp
     have r0 := BA.cell 0 rfl
     have r1 := BA.cell 1 rfl
     have f0 := BA.frozen 0
     have f1 := BA.frozen 1
     have BS := boxA_s1 (boxA_s0 BA (.slice x5 1 y5)) (.slice b3 m d3)
     have kS := Below.set2 kT nA (.slice x5 1 y5) (.slice b3 m d3)
     have jS := HC.out kS
     have HVS : Hid (ArV 1 (Fr v.heap.size ((wT.setCell ⟨wE.heap.size, 0, none⟩ (.slice x5 1 y5)).setCell ⟨wE.heap.size, 1, none⟩ (.slice b3 m d3)).heap.size) ((wT.setCell ⟨wE.heap.size, 0, none⟩ (.slice x5 1 y5)).setCell ⟨wE.heap.size, 1, none⟩ (.slice b3 m d3)) (.slice x5 1 y5) (.slice b3 m d3) U) := ArV.imp (fun q hq => ⟨by have := hq.1; omega, by rw [set1_size, set1_size]; exact hq.2⟩) (fun q hq => by rw [set1_other (by show ¬ wE.heap.size = q; have := hq.1; omega), set1_other (by show ¬ wE.heap.size = q; have := hq.1; omega)]) 1 1 _ _ _ (Nat.le_refl _) HV.out
     go_simp
     refine hK.out _ _ (jS) (fun _ => ?_)
     clear hK K
     refine wpAnyH_take (i := 8) (oi := { dst := some 19, op := Op.assign (Operand.tmp 91), type := 28, pos := "law.go:148", after := #[{ on := 5, ground := Ground.data }, { on := 7, ground := Ground.chain }, { on := 0, ground := Ground.phase }, { on := 1, ground := Ground.phase }, { on := 2, ground := Ground.phase }, { on := 3, ground := Ground.phase }, { on := 4, ground := Ground.phase }, { on := 5, ground := Ground.phase }, { on := 6, ground := Ground.phase }, { on := 7, ground := Ground.phase }], guard := none }) (v := .int .i64 0) rfl (by kernel_rfl) (by kernel_rfl) (by kernel_rfl) (fun _ _ _ h => hP _ _ _ _ _ h) (Or.inl ⟨by rfl, (by intro w hSw; (try dsimp only at hSw); go_simp)⟩) (by assumption) ?_
     simp only [Act.put, List.setIfInBounds_toArray, List.set_cons_zero, List.set_cons_succ]
     refine wpAnyH_done (by kernel_rfl) ?_ _
     exact hQ _ ds0 ea ec x5 y5 b3 d3 _ BS nA HVS kS
 · go_simp
   have kA : Below v.heap.size v (v.drew.alloc (.cells #[.slice none 0 0, .slice none 0 0] 25)) := d1.trans ((below_alloc v.drew (.cells #[.slice none 0 0, .slice none 0 0] 25)).mono d1.size)
   have jA := HC.out kA
   have BA : BoxA (v.drew.alloc (.cells #[.slice none 0 0, .slice none 0 0] 25)) v.heap.size 25 #[.slice none 0 0, .slice none 0 0] := boxA_new v.drew #[.slice none 0 0, .slice none 0 0] 25
   have nA : v.heap.size ≤ v.heap.size := d1.size
   go_simp
   refine hK.out _ _ (jA) (fun _ => ?_)
   clear hK K
   refine wpAnyH_ready (rs := [0]) (by kernel_rfl) (by simp) ?_
   refine (AllReadyH.cons (o := { dst := some 87, op := Op.call { callee := Callee.value (Operand.func 8), args := #[], argTypes := #[] }, type := 35, pos := "law.go:148", after := #[], guard := none }) rfl (fun K hK => ?_) AllReadyH.nil)
   go_simp
   refine (env_any _).mono ?_
   rintro e wE ⟨ds0, ea, ec, hd, rfl, ho, pE⟩
   have kE : Below v.heap.size v wE := kA.trans (pE.mono kA.size)
   have jE := HC.out kE
   have lBA := BA.lt
   replace BA := BA.below pE lBA
   clear lBA
   go_simp
   refine hK.out _ _ (jE) (fun _ => ?_)
   clear hK K
   refine wpAnyH_ready (rs := [2]) (by kernel_rfl) (by simp) ?_
   refine (AllReadyH.cons (o := { dst := some 89, op := Op.call { callee := Callee.value (Operand.func 11), args := #[Operand.tmp 87, Operand.const (Value.int IntKind.i32 126), Operand.tmp 88], argTypes := #[35, 21, 25] }, type := 29, pos := "law.go:148", after := #[{ on := 0, ground := Ground.data }, { on := 1, ground := Ground.data }, { on := 0, ground := Ground.chain }], guard := none }) rfl (fun K hK => ?_) AllReadyH.nil)
   go_simp
   have sC : v.heap.size ≤ wE.heap.size := kE.size
   have lBA := BA.lt
   refine (KT.out _ ds0 ea ec hd (ho.rd) kE).mono ?_
   rintro e wT ⟨⟨x5, y5, b3, d3, rfl, hv⟩, pT⟩
   have kT : Below v.heap.size v wT := kE.trans (pT.mono kE.size)
   have jT := HC.out kT
   have HV : Hid (ArV 1 (Fr wE.heap.size wT.heap.size) wT (.slice x5 1 y5) (.slice b3 m d3) U) := hv
   clear hv
   replace BA := BA.below pT lBA
   go_simp
   refine hK.out _ _ (jT) (fun _ => ?_)
   clear hK K
   refine wpAnyH_take (i := 3) (oi := { dst := some 86, op := Op.move (Operand.tmp 89), type := 29, pos := "law.go:148", after := #[{ on := 2, ground := Ground.data }], guard := none }) (v := .tuple #[.agg #[.slice x5 1 y5, .slice b3 m d3], .int .i64 0]) rfl (by kernel_rfl) (by kernel_rfl) (by kernel_rfl) (fun _ _ _ h => hP _ _ _ _ _ h) (Or.inl ⟨by rfl, (by intro w hSw; (try dsimp only at hSw); go_simp)⟩) (by assumption) ?_
   simp only [Act.put, List.setIfInBounds_toArray, List.set_cons_zero, List.set_cons_succ]
   refine wpAnyH_take (i := 4) (oi := { dst := some 90, op := Op.extract (Operand.tmp 86) 0, type := 25, pos := "law.go:148", after := #[{ on := 3, ground := Ground.data }], guard := none }) (v := .agg #[.slice x5 1 y5, .slice b3 m d3]) rfl (by kernel_rfl) (by kernel_rfl) (by kernel_rfl) (fun _ _ _ h => hP _ _ _ _ _ h) (Or.inl ⟨by rfl, (by intro w hSw; (try dsimp only at hSw); go_simp)⟩) (by assumption) ?_
   simp only [Act.put, List.setIfInBounds_toArray, List.set_cons_zero, List.set_cons_succ]
   refine wpAnyH_take (i := 5) (oi := { dst := some 91, op := Op.extract (Operand.tmp 86) 1, type := 28, pos := "law.go:148", after := #[{ on := 3, ground := Ground.data }, { on := 7, ground := Ground.gcOnly Departure.lateStores }], guard := none }) (v := .int .i64 0) rfl (by kernel_rfl) (by kernel_rfl) (by kernel_rfl) (fun _ _ _ h => hP _ _ _ _ _ h) (Or.inl ⟨by rfl, (by intro w hSw; (try dsimp only at hSw); go_simp)⟩) (by assumption) ?_
   simp only [Act.put, List.setIfInBounds_toArray, List.set_cons_zero, List.set_cons_succ]
   refine wpAnyH_ready (rs := [7]) (by kernel_rfl) (by simp) ?_
   refine (AllReadyH.cons (o := { dst := none, op := Op.store 25 (Operand.tmp 18) (Operand.tmp 90), type := 0, pos := "law.go:148", after := #[{ on := 6, ground := Ground.data }, { on := 4, ground := Ground.data }, { on := 2, ground := Ground.chain }, { on := 0, ground := Ground.phase }, { on := 1, ground := Ground.phase }, { on := 2, ground := Ground.phase }, { on := 3, ground := Ground.phase }, { on := 4, ground := Ground.phase }, { on := 5, ground := Ground.textOnly Departure.lateStores }, { on := 6, ground := Ground.phase }], guard := none }) rfl (fun K hK => ?_) AllReadyH.nil)
   go_simp
   have r0 := BA.cell 0 rfl
   have r1 := BA.cell 1 rfl
   have f0 := BA.frozen 0
   have f1 := BA.frozen 1
   have BS := boxA_s1 (boxA_s0 BA (.slice x5 1 y5)) (.slice b3 m d3)
   have kS := Below.set2 kT nA (.slice x5 1 y5) (.slice b3 m d3)
   have jS := HC.out kS
   have HVS : Hid (ArV 1 (Fr v.heap.size ((wT.setCell ⟨v.heap.size, 0, none⟩ (.slice x5 1 y5)).setCell ⟨v.heap.size, 1, none⟩ (.slice b3 m d3)).heap.size) ((wT.setCell ⟨v.heap.size, 0, none⟩ (.slice x5 1 y5)).setCell ⟨v.heap.size, 1, none⟩ (.slice b3 m d3)) (.slice x5 1 y5) (.slice b3 m d3) U) := ArV.imp (fun q hq => ⟨by have := hq.1; omega, by rw [set1_size, set1_size]; exact hq.2⟩) (fun q hq => by rw [set1_other (by show ¬ v.heap.size = q; have := hq.1; omega), set1_other (by show ¬ v.heap.size = q; have := hq.1; omega)]) 1 1 _ _ _ (Nat.le_refl _) HV.out
   go_simp
   refine hK.out _ _ (jS) (fun _ => ?_)
   clear hK K
   refine wpAnyH_take (i := 8) (oi := { dst := some 19, op := Op.assign (Operand.tmp 91), type := 28, pos := "law.go:148", after := #[{ on := 5, ground := Ground.data }, { on := 7, ground := Ground.chain }, { on := 0, ground := Ground.phase }, { on := 1, ground := Ground.phase }, { on := 2, ground := Ground.phase }, { on := 3, ground := Ground.phase }, { on := 4, ground := Ground.phase }, { on := 5, ground := Ground.phase }, { on := 6, ground := Ground.phase }, { on := 7, ground := Ground.phase }], guard := none }) (v := .int .i64 0) rfl (by kernel_rfl) (by kernel_rfl) (by kernel_rfl) (fun _ _ _ h => hP _ _ _ _ _ h) (Or.inl ⟨by rfl, (by intro w hSw; (try dsimp only at hSw); go_simp)⟩) (by assumption) ?_
   simp only [Act.put, List.setIfInBounds_toArray, List.set_cons_zero, List.set_cons_succ]
   refine wpAnyH_done (by kernel_rfl) ?_ _
   exact hQ _ ds0 ea ec x5 y5 b3 d3 _ BS nA HVS kS
end
end Go.Proofs.YtmijanocljmaeaaGreat

/- ScalarLogic's drawn regions, 3. -/
namespace Go.Proofs.YtmijanocljmaeaaGreat
set_option linter.unusedVariables false
set_option linter.unusedSimpArgs false
open Go.RowKit

section
variable {v : World} {x1 x2 : Option Addr} {n1 y1 n2 y2 ka m : Nat} {x3 x4 : Option Addr} {n3 y3 n4 y4 kb : Nat} {U : Tr}
set_option maxRecDepth 100000 in
set_option maxHeartbeats 16000000 in
theorem logic_13 {Q : Exit → Act → World → Prop} {t0 t1 t2 t3 t4 t5 t6 t7 t8 t9 t10 t11 t12 t13 t14 t15 t17 t19 t20 t21 t22 t23 t24 t25 t26 t27 t28 t29 t30 t31 t32 t33 t34 t35 t36 t37 t38 t39 t40 t41 t42 t43 t44 t45 t46 t47 t48 t49 t50 t51 t52 t53 t54 t55 t56 t57 t58 t59 t60 t61 t62 t63 t64 t65 t66 t67 t68 t69 t70 t71 t72 t73 t74 t75 t76 t77 t78 t79 t80 t81 t82 t83 t84 t85 t86 t87 t88 t89 t90 t91 t92 t93 t94 t95 t96 t97 t98 t99 t100 t101 t102 t103 t104 t105 t106 t107 t108 t109 t110 t111 t112 t113 t114 t115 t116 t117 t118 t119 t120 t121 t122 t123 t124 t125 t126 t127 t128 t129 t130 t131 t132 t133 t134 t135 t136 t137 t138 t139 t140 t141 t142 t143 t144 t145 t146 t147 t148 : Value} (HC : Hid (∀ {w' : World}, Below v.heap.size v w' → w'.cell? ⟨ka, 0, none⟩ = some (.slice x1 n1 y1) ∧ w'.cell? ⟨ka, 1, none⟩ = some (.slice x2 n2 y2) ∧ w'.cell? ⟨kb, 0, none⟩ = some (.slice x3 n3 y3) ∧ w'.cell? ⟨kb, 1, none⟩ = some (.slice x4 n4 y4)))
    (KT : Hid (∀ u (ds0 : List Int) ea ec, Hid (ds0 = [(1 : Int)]) → Rd u.heap.size u (.slice ea ds0.length ec) ds0 → Below v.heap.size v u → Calls Tryz.prog 7 #[.agg #[.int .i64 1, .bool false, .slice none 0 0, .slice ea ds0.length ec, .int .i64 0], .int .i32 8744, .agg #[.slice x1 n1 y1, .slice x2 n2 y2], .agg #[.slice x3 n3 y3, .slice x4 n4 y4]] u fun e w' => (∃ x5 y5 b3 d3, e = .returned (.tuple #[.agg #[.slice x5 1 y5, .slice b3 m d3], .int .i64 0]) ∧ ArV 1 (Fr u.heap.size w'.heap.size) w' (.slice x5 1 y5) (.slice b3 m d3) U) ∧ Below u.heap.size u w'))
    (hQ : ∀ A (ds0 : List Int) ea ec x5 y5 b3 d3 w', BoxA w' A 25 #[.slice x5 1 y5, .slice b3 m d3] → v.heap.size ≤ A → Hid (ArV 1 (Fr v.heap.size w'.heap.size) w' (.slice x5 1 y5) (.slice b3 m d3) U) → Below v.heap.size v w' → Q .normal { tmps := #[t0, t1, t2, t3, t4, t5, t6, t7, t8, t9, t10, t11, t12, t13, t14, t15, .pointer (some ⟨ka, 0, none⟩), t17, .pointer (some ⟨kb, 0, none⟩), t19, .pointer (some ⟨A, 0, none⟩), .int .i64 0, t22, t23, t24, t25, t26, t27, t28, t29, t30, t31, t32, t33, t34, t35, t36, t37, t38, t39, t40, t41, t42, t43, t44, t45, t46, t47, t48, t49, t50, t51, t52, t53, t54, t55, t56, t57, t58, t59, t60, t61, t62, t63, t64, t65, t66, t67, t68, t69, t70, t71, t72, t73, t74, t75, t76, t77, t78, t79, t80, t81, t82, t83, t84, t85, t86, t87, t88, t89, t90, t91, .tuple #[.agg #[.slice x5 1 y5, .slice b3 m d3], .int .i64 0], .agg #[.int .i64 1, .bool false, .slice none 0 0, .slice ea ds0.length ec, .int .i64 0], .agg #[.slice x1 n1 y1, .slice x2 n2 y2], .agg #[.slice x3 n3 y3, .slice x4 n4 y4], .tuple #[.agg #[.slice x5 1 y5, .slice b3 m d3], .int .i64 0], .agg #[.slice x5 1 y5, .slice b3 m d3], .int .i64 0, t99, t100, t101, t102, t103, t104, t105, t106, t107, t108, t109, t110, t111, t112, t113, t114, t115, t116, t117, t118, t119, t120, t121, t122, t123, t124, t125, t126, t127, t128, t129, t130, t131, t132, t133, t134, t135, t136, t137, t138, t139, t140, t141, t142, t143, t144, t145, t146, t147, t148], defers := [] } w') (hP : ∀ c a d x w, Q (.panic c) (Act.put a d x) w → Q (.panic c) a w) :
    (Code.region 13 #[{ dst := some 93, op := Op.call { callee := Callee.value (Operand.func 8), args := #[], argTypes := #[] }, type := 35, pos := "law.go:149", after := #[], guard := none }, { dst := some 94, op := Op.load 25 (Operand.tmp 16), type := 25, pos := "law.go:149", after := #[], guard := none }, { dst := some 95, op := Op.load 25 (Operand.tmp 18), type := 25, pos := "law.go:149", after := #[], guard := none }, { dst := some 96, op := Op.call { callee := Callee.value (Operand.func 7), args := #[Operand.tmp 93, Operand.const (Value.int IntKind.i32 8744), Operand.tmp 94, Operand.tmp 95], argTypes := #[35, 21, 25, 25] }, type := 29, pos := "law.go:149", after := #[{ on := 0, ground := Ground.data }, { on := 1, ground := Ground.data }, { on := 2, ground := Ground.data }, { on := 0, ground := Ground.chain }], guard := none }, { dst := some 92, op := Op.move (Operand.tmp 96), type := 29, pos := "law.go:149", after := #[{ on := 3, ground := Ground.data }], guard := none }, { dst := some 97, op := Op.extract (Operand.tmp 92) 0, type := 25, pos := "law.go:149", after := #[{ on := 4, ground := Ground.data }], guard := none }, { dst := some 98, op := Op.extract (Operand.tmp 92) 1, type := 28, pos := "law.go:149", after := #[{ on := 4, ground := Ground.data }, { on := 8, ground := Ground.gcOnly Departure.lateStores }], guard := none }, { dst := some 20, op := Op.alloc 25, type := 0, pos := "law.go:149", after := #[], guard := none }, { dst := none, op := Op.store 25 (Operand.tmp 20) (Operand.tmp 97), type := 0, pos := "law.go:149", after := #[{ on := 7, ground := Ground.data }, { on := 5, ground := Ground.data }, { on := 3, ground := Ground.chain }, { on := 0, ground := Ground.phase }, { on := 1, ground := Ground.phase }, { on := 2, ground := Ground.phase }, { on := 3, ground := Ground.phase }, { on := 4, ground := Ground.phase }, { on := 5, ground := Ground.phase }, { on := 6, ground := Ground.textOnly Departure.lateStores }, { on := 7, ground := Ground.phase }], guard := none }, { dst := some 21, op := Op.assign (Operand.tmp 98), type := 28, pos := "law.go:149", after := #[{ on := 6, ground := Ground.data }, { on := 8, ground := Ground.chain }, { on := 0, ground := Ground.phase }, { on := 1, ground := Ground.phase }, { on := 2, ground := Ground.phase }, { on := 3, ground := Ground.phase }, { on := 4, ground := Ground.phase }, { on := 5, ground := Ground.phase }, { on := 6, ground := Ground.phase }, { on := 7, ground := Ground.phase }, { on := 8, ground := Ground.phase }], guard := none }] true).wp Tryz.prog Q { tmps := #[t0, t1, t2, t3, t4, t5, t6, t7, t8, t9, t10, t11, t12, t13, t14, t15, .pointer (some ⟨ka, 0, none⟩), t17, .pointer (some ⟨kb, 0, none⟩), t19, t20, t21, t22, t23, t24, t25, t26, t27, t28, t29, t30, t31, t32, t33, t34, t35, t36, t37, t38, t39, t40, t41, t42, t43, t44, t45, t46, t47, t48, t49, t50, t51, t52, t53, t54, t55, t56, t57, t58, t59, t60, t61, t62, t63, t64, t65, t66, t67, t68, t69, t70, t71, t72, t73, t74, t75, t76, t77, t78, t79, t80, t81, t82, t83, t84, t85, t86, t87, t88, t89, t90, t91, t92, t93, t94, t95, t96, t97, t98, t99, t100, t101, t102, t103, t104, t105, t106, t107, t108, t109, t110, t111, t112, t113, t114, t115, t116, t117, t118, t119, t120, t121, t122, t123, t124, t125, t126, t127, t128, t129, t130, t131, t132, t133, t134, t135, t136, t137, t138, t139, t140, t141, t142, t143, t144, t145, t146, t147, t148], defers := [] } v := by
 have d1 : Below v.heap.size v v.drew := ⟨rfl, rfl, rfl, Nat.le_refl _, fun _ _ => rfl⟩
 have j0 := HC.out d1
 refine wp_region_held_drew (S := (fun w' => w'.cell? ⟨ka, 0, none⟩ = some (.slice x1 n1 y1) ∧ w'.cell? ⟨ka, 1, none⟩ = some (.slice x2 n2 y2) ∧ w'.cell? ⟨kb, 0, none⟩ = some (.slice x3 n3 y3) ∧ w'.cell? ⟨kb, 1, none⟩ = some (.slice x4 n4 y4))) (by kernel_rfl) j0 (fun hS => ?_)
 refine wpAnyH_take (i := 1) (oi := { dst := some 94, op := Op.load 25 (Operand.tmp 16), type := 25, pos := "law.go:149", after := #[], guard := none }) (v := .agg #[.slice x1 n1 y1, .slice x2 n2 y2]) rfl (by kernel_rfl) (by kernel_rfl) (by kernel_rfl) (fun _ _ _ h => hP _ _ _ _ _ h) (Or.inl ⟨by rfl, (by intro w hSw; (try dsimp only at hSw); go_simp)⟩) (by assumption) ?_
 simp only [Act.put, List.setIfInBounds_toArray, List.set_cons_zero, List.set_cons_succ]
 refine wpAnyH_take (i := 2) (oi := { dst := some 95, op := Op.load 25 (Operand.tmp 18), type := 25, pos := "law.go:149", after := #[], guard := none }) (v := .agg #[.slice x3 n3 y3, .slice x4 n4 y4]) rfl (by kernel_rfl) (by kernel_rfl) (by kernel_rfl) (fun _ _ _ h => hP _ _ _ _ _ h) (Or.inl ⟨by rfl, (by intro w hSw; (try dsimp only at hSw); go_simp)⟩) (by assumption) ?_
 simp only [Act.put, List.setIfInBounds_toArray, List.set_cons_zero, List.set_cons_succ]
 refine wpAnyH_ready (rs := [0, 7]) (by kernel_rfl) (by simp) ?_
 refine (AllReadyH.cons (o := { dst := some 93, op := Op.call { callee := Callee.value (Operand.func 8), args := #[], argTypes := #[] }, type := 35, pos := "law.go:149", after := #[], guard := none }) rfl (fun K hK => ?_) (AllReadyH.cons (o := { dst := some 20, op := Op.alloc 25, type := 0, pos := "law.go:149", after := #[], guard := none }) rfl (fun K hK => ?_) AllReadyH.nil))
 · go_simp
   refine (env_any _).mono ?_
   rintro e wE ⟨ds0, ea, ec, hd, rfl, ho, pE⟩
   have kE : Below v.heap.size v wE := d1.trans (pE.mono d1.size)
   have jE := HC.out kE
   go_simp
   refine hK.out _ _ (jE) (fun _ => ?_)
   clear hK K
   refine wpAnyH_ready (rs := [3, 7]) (by kernel_rfl) (by simp) ?_
   refine (AllReadyH.cons (o := { dst := some 96, op := Op.call { callee := Callee.value (Operand.func 7), args := #[Operand.tmp 93, Operand.const (Value.int IntKind.i32 8744), Operand.tmp 94, Operand.tmp 95], argTypes := #[35, 21, 25, 25] }, type := 29, pos := "law.go:149", after := #[{ on := 0, ground := Ground.data }, { on := 1, ground := Ground.data }, { on := 2, ground := Ground.data }, { on := 0, ground := Ground.chain }], guard := none }) rfl (fun K hK => ?_) (AllReadyH.cons (o := { dst := some 20, op := Op.alloc 25, type := 0, pos := "law.go:149", after := #[], guard := none }) rfl (fun K hK => ?_) AllReadyH.nil))
   · go_simp
     have sC : v.heap.size ≤ wE.heap.size := kE.size
     refine (KT.out _ ds0 ea ec hd (ho.rd) kE).mono ?_
     rintro e wT ⟨⟨x5, y5, b3, d3, rfl, hv⟩, pT⟩
     have kT : Below v.heap.size v wT := kE.trans (pT.mono kE.size)
     have jT := HC.out kT
     have HV : Hid (ArV 1 (Fr wE.heap.size wT.heap.size) wT (.slice x5 1 y5) (.slice b3 m d3) U) := hv
     clear hv
     go_simp
     refine hK.out _ _ (jT) (fun _ => ?_)
     clear hK K
     refine wpAnyH_take (i := 4) (oi := { dst := some 92, op := Op.move (Operand.tmp 96), type := 29, pos := "law.go:149", after := #[{ on := 3, ground := Ground.data }], guard := none }) (v := .tuple #[.agg #[.slice x5 1 y5, .slice b3 m d3], .int .i64 0]) rfl (by kernel_rfl) (by kernel_rfl) (by kernel_rfl) (fun _ _ _ h => hP _ _ _ _ _ h) (Or.inl ⟨by rfl, (by intro w hSw; (try dsimp only at hSw); go_simp)⟩) (by assumption) ?_
     simp only [Act.put, List.setIfInBounds_toArray, List.set_cons_zero, List.set_cons_succ]
     refine wpAnyH_take (i := 5) (oi := { dst := some 97, op := Op.extract (Operand.tmp 92) 0, type := 25, pos := "law.go:149", after := #[{ on := 4, ground := Ground.data }], guard := none }) (v := .agg #[.slice x5 1 y5, .slice b3 m d3]) rfl (by kernel_rfl) (by kernel_rfl) (by kernel_rfl) (fun _ _ _ h => hP _ _ _ _ _ h) (Or.inl ⟨by rfl, (by intro w hSw; (try dsimp only at hSw); go_simp)⟩) (by assumption) ?_
     simp only [Act.put, List.setIfInBounds_toArray, List.set_cons_zero, List.set_cons_succ]
     refine wpAnyH_take (i := 6) (oi := { dst := some 98, op := Op.extract (Operand.tmp 92) 1, type := 28, pos := "law.go:149", after := #[{ on := 4, ground := Ground.data }, { on := 8, ground := Ground.gcOnly Departure.lateStores }], guard := none }) (v := .int .i64 0) rfl (by kernel_rfl) (by kernel_rfl) (by kernel_rfl) (fun _ _ _ h => hP _ _ _ _ _ h) (Or.inl ⟨by rfl, (by intro w hSw; (try dsimp only at hSw); go_simp)⟩) (by assumption) ?_
     simp only [Act.put, List.setIfInBounds_toArray, List.set_cons_zero, List.set_cons_succ]
     refine wpAnyH_ready (rs := [7]) (by kernel_rfl) (by simp) ?_
     refine (AllReadyH.cons (o := { dst := some 20, op := Op.alloc 25, type := 0, pos := "law.go:149", after := #[], guard := none }) rfl (fun K hK => ?_) AllReadyH.nil)
     go_simp
     have kA : Below v.heap.size v (wT.alloc (.cells #[.slice none 0 0, .slice none 0 0] 25)) := kT.trans ((below_alloc wT (.cells #[.slice none 0 0, .slice none 0 0] 25)).mono kT.size)
     have jA := HC.out kA
     have BA : BoxA (wT.alloc (.cells #[.slice none 0 0, .slice none 0 0] 25)) wT.heap.size 25 #[.slice none 0 0, .slice none 0 0] := boxA_new wT #[.slice none 0 0, .slice none 0 0] 25
     have nA : v.heap.size ≤ wT.heap.size := kT.size
     go_simp
     refine hK.out _ _ (jA) (fun _ => ?_)
     clear hK K
     refine wpAnyH_ready (rs := [8]) (by kernel_rfl) (by simp) ?_
     refine (AllReadyH.cons (o := { dst := none, op := Op.store 25 (Operand.tmp 20) (Operand.tmp 97), type := 0, pos := "law.go:149", after := #[{ on := 7, ground := Ground.data }, { on := 5, ground := Ground.data }, { on := 3, ground := Ground.chain }, { on := 0, ground := Ground.phase }, { on := 1, ground := Ground.phase }, { on := 2, ground := Ground.phase }, { on := 3, ground := Ground.phase }, { on := 4, ground := Ground.phase }, { on := 5, ground := Ground.phase }, { on := 6, ground := Ground.textOnly Departure.lateStores }, { on := 7, ground := Ground.phase }], guard := none }) rfl (fun K hK => ?_) AllReadyH.nil)
     go_simp
     have r0 := BA.cell 0 rfl
     have r1 := BA.cell 1 rfl
     have f0 := BA.frozen 0
     have f1 := BA.frozen 1
     have BS := boxA_new wT #[.slice x5 1 y5, .slice b3 m d3] 25
     have kS : Below v.heap.size v (wT.alloc (.cells #[.slice x5 1 y5, .slice b3 m d3] 25)) := kT.trans ((below_alloc wT (.cells #[.slice x5 1 y5, .slice b3 m d3] 25)).mono kT.size)
     have jS := HC.out kS
     have HVS : Hid (ArV 1 (Fr v.heap.size (wT.alloc (.cells #[.slice x5 1 y5, .slice b3 m d3] 25)).heap.size) (wT.alloc (.cells #[.slice x5 1 y5, .slice b3 m d3] 25)) (.slice x5 1 y5) (.slice b3 m d3) U) := ArV.imp (fun q hq => ⟨by have := hq.1; omega, by rw [World.size_alloc]; have := hq.2; omega⟩) (fun q hq => (below_alloc wT (.cells #[.slice x5 1 y5, .slice b3 m d3] 25)).block q hq.2) 1 1 _ _ _ (Nat.le_refl _) HV.out
     go_simp
     refine hK.out _ _ (jS) (fun _ => ?_)
     clear hK K
     refine wpAnyH_take (i := 9) (oi := { dst := some 21, op := Op.assign (Operand.tmp 98), type := 28, pos := "law.go:149", after := #[{ on := 6, ground := Ground.data }, { on := 8, ground := Ground.chain }, { on := 0, ground := Ground.phase }, { on := 1, ground := Ground.phase }, { on := 2, ground := Ground.phase }, { on := 3, ground := Ground.phase }, { on := 4, ground := Ground.phase }, { on := 5, ground := Ground.phase }, { on := 6, ground := Ground.phase }, { on := 7, ground := Ground.phase }, { on := 8, ground := Ground.phase }], guard := none }) (v := .int .i64 0) rfl (by kernel_rfl) (by kernel_rfl) (by kernel_rfl) (fun _ _ _ h => hP _ _ _ _ _ h) (Or.inl ⟨by rfl, (by intro w hSw; (try dsimp only at hSw); go_simp)⟩) (by assumption) ?_
     simp only [Act.put, List.setIfInBounds_toArray, List.set_cons_zero, List.set_cons_succ]
     refine wpAnyH_done (by kernel_rfl) ?_ _
     exact hQ _ ds0 ea ec x5 y5 b3 d3 _ BS nA HVS kS
   · go_simp
     have kA : Below v.heap.size v (wE.alloc (.cells #[.slice none 0 0, .slice none 0 0] 25)) := kE.trans ((below_alloc wE (.cells #[.slice none 0 0, .slice none 0 0] 25)).mono kE.size)
     have jA := HC.out kA
     have BA : BoxA (wE.alloc (.cells #[.slice none 0 0, .slice none 0 0] 25)) wE.heap.size 25 #[.slice none 0 0, .slice none 0 0] := boxA_new wE #[.slice none 0 0, .slice none 0 0] 25
     have nA : v.heap.size ≤ wE.heap.size := kE.size
     go_simp
     refine hK.out _ _ (jA) (fun _ => ?_)
     clear hK K
     refine wpAnyH_ready (rs := [3]) (by kernel_rfl) (by simp) ?_
     refine (AllReadyH.cons (o := { dst := some 96, op := Op.call { callee := Callee.value (Operand.func 7), args := #[Operand.tmp 93, Operand.const (Value.int IntKind.i32 8744), Operand.tmp 94, Operand.tmp 95], argTypes := #[35, 21, 25, 25] }, type := 29, pos := "law.go:149", after := #[{ on := 0, ground := Ground.data }, { on := 1, ground := Ground.data }, { on := 2, ground := Ground.data }, { on := 0, ground := Ground.chain }], guard := none }) rfl (fun K hK => ?_) AllReadyH.nil)
     go_simp
     have sC : v.heap.size ≤ (wE.alloc (.cells #[.slice none 0 0, .slice none 0 0] 25)).heap.size := kA.size
     have lBA := BA.lt
     refine (KT.out _ ds0 ea ec hd ((ho.below (below_alloc wE (.cells #[.slice none 0 0, .slice none 0 0] 25)) (Nat.le_refl _)).rd) kA).mono ?_
     rintro e wT ⟨⟨x5, y5, b3, d3, rfl, hv⟩, pT⟩
     have kT : Below v.heap.size v wT := kA.trans (pT.mono kA.size)
     have jT := HC.out kT
     have HV : Hid (ArV 1 (Fr (wE.alloc (.cells #[.slice none 0 0, .slice none 0 0] 25)).heap.size wT.heap.size) wT (.slice x5 1 y5) (.slice b3 m d3) U) := hv
     clear hv
     replace BA := BA.below pT lBA
     go_simp
     refine hK.out _ _ (jT) (fun _ => ?_)
     clear hK K
     refine wpAnyH_take (i := 4) (oi := { dst := some 92, op := Op.move (Operand.tmp 96), type := 29, pos := "law.go:149", after := #[{ on := 3, ground := Ground.data }], guard := none }) (v := .tuple #[.agg #[.slice x5 1 y5, .slice b3 m d3], .int .i64 0]) rfl (by kernel_rfl) (by kernel_rfl) (by kernel_rfl) (fun _ _ _ h => hP _ _ _ _ _ h) (Or.inl ⟨by rfl, (by intro w hSw; (try dsimp only at hSw); go_simp)⟩) (by assumption) ?_
     simp only [Act.put, List.setIfInBounds_toArray, List.set_cons_zero, List.set_cons_succ]
     refine wpAnyH_take (i := 5) (oi := { dst := some 97, op := Op.extract (Operand.tmp 92) 0, type := 25, pos := "law.go:149", after := #[{ on := 4, ground := Ground.data }], guard := none }) (v := .agg #[.slice x5 1 y5, .slice b3 m d3]) rfl (by kernel_rfl) (by kernel_rfl) (by kernel_rfl) (fun _ _ _ h => hP _ _ _ _ _ h) (Or.inl ⟨by rfl, (by intro w hSw; (try dsimp only at hSw); go_simp)⟩) (by assumption) ?_
     simp only [Act.put, List.setIfInBounds_toArray, List.set_cons_zero, List.set_cons_succ]
     refine wpAnyH_take (i := 6) (oi := { dst := some 98, op := Op.extract (Operand.tmp 92) 1, type := 28, pos := "law.go:149", after := #[{ on := 4, ground := Ground.data }, { on := 8, ground := Ground.gcOnly Departure.lateStores }], guard := none }) (v := .int .i64 0) rfl (by kernel_rfl) (by kernel_rfl) (by kernel_rfl) (fun _ _ _ h => hP _ _ _ _ _ h) (Or.inl ⟨by rfl, (by intro w hSw; (try dsimp only at hSw); go_simp)⟩) (by assumption) ?_
     simp only [Act.put, List.setIfInBounds_toArray, List.set_cons_zero, List.set_cons_succ]
     refine wpAnyH_ready (rs := [8]) (by kernel_rfl) (by simp) ?_
     refine (AllReadyH.cons (o := { dst := none, op := Op.store 25 (Operand.tmp 20) (Operand.tmp 97), type := 0, pos := "law.go:149", after := #[{ on := 7, ground := Ground.data }, { on := 5, ground := Ground.data }, { on := 3, ground := Ground.chain }, { on := 0, ground := Ground.phase }, { on := 1, ground := Ground.phase }, { on := 2, ground := Ground.phase }, { on := 3, ground := Ground.phase }, { on := 4, ground := Ground.phase }, { on := 5, ground := Ground.phase }, { on := 6, ground := Ground.textOnly Departure.lateStores }, { on := 7, ground := Ground.phase }], guard := none }) rfl (fun K hK => ?_) AllReadyH.nil)
     go_simp
     have r0 := BA.cell 0 rfl
     have r1 := BA.cell 1 rfl
     have f0 := BA.frozen 0
     have f1 := BA.frozen 1
     have BS := boxA_s1 (boxA_s0 BA (.slice x5 1 y5)) (.slice b3 m d3)
     have kS := Below.set2 kT nA (.slice x5 1 y5) (.slice b3 m d3)
     have jS := HC.out kS
     have HVS : Hid (ArV 1 (Fr v.heap.size ((wT.setCell ⟨wE.heap.size, 0, none⟩ (.slice x5 1 y5)).setCell ⟨wE.heap.size, 1, none⟩ (.slice b3 m d3)).heap.size) ((wT.setCell ⟨wE.heap.size, 0, none⟩ (.slice x5 1 y5)).setCell ⟨wE.heap.size, 1, none⟩ (.slice b3 m d3)) (.slice x5 1 y5) (.slice b3 m d3) U) := ArV.imp (fun q hq => ⟨by have := hq.1; omega, by rw [set1_size, set1_size]; exact hq.2⟩) (fun q hq => by rw [set1_other (by show ¬ wE.heap.size = q; have := hq.1; omega), set1_other (by show ¬ wE.heap.size = q; have := hq.1; omega)]) 1 1 _ _ _ (Nat.le_refl _) HV.out
     go_simp
     refine hK.out _ _ (jS) (fun _ => ?_)
     clear hK K
     refine wpAnyH_take (i := 9) (oi := { dst := some 21, op := Op.assign (Operand.tmp 98), type := 28, pos := "law.go:149", after := #[{ on := 6, ground := Ground.data }, { on := 8, ground := Ground.chain }, { on := 0, ground := Ground.phase }, { on := 1, ground := Ground.phase }, { on := 2, ground := Ground.phase }, { on := 3, ground := Ground.phase }, { on := 4, ground := Ground.phase }, { on := 5, ground := Ground.phase }, { on := 6, ground := Ground.phase }, { on := 7, ground := Ground.phase }, { on := 8, ground := Ground.phase }], guard := none }) (v := .int .i64 0) rfl (by kernel_rfl) (by kernel_rfl) (by kernel_rfl) (fun _ _ _ h => hP _ _ _ _ _ h) (Or.inl ⟨by rfl, (by intro w hSw; (try dsimp only at hSw); go_simp)⟩) (by assumption) ?_
     simp only [Act.put, List.setIfInBounds_toArray, List.set_cons_zero, List.set_cons_succ]
     refine wpAnyH_done (by kernel_rfl) ?_ _
     exact hQ _ ds0 ea ec x5 y5 b3 d3 _ BS nA HVS kS
 · go_simp
   have kA : Below v.heap.size v (v.drew.alloc (.cells #[.slice none 0 0, .slice none 0 0] 25)) := d1.trans ((below_alloc v.drew (.cells #[.slice none 0 0, .slice none 0 0] 25)).mono d1.size)
   have jA := HC.out kA
   have BA : BoxA (v.drew.alloc (.cells #[.slice none 0 0, .slice none 0 0] 25)) v.heap.size 25 #[.slice none 0 0, .slice none 0 0] := boxA_new v.drew #[.slice none 0 0, .slice none 0 0] 25
   have nA : v.heap.size ≤ v.heap.size := d1.size
   go_simp
   refine hK.out _ _ (jA) (fun _ => ?_)
   clear hK K
   refine wpAnyH_ready (rs := [0]) (by kernel_rfl) (by simp) ?_
   refine (AllReadyH.cons (o := { dst := some 93, op := Op.call { callee := Callee.value (Operand.func 8), args := #[], argTypes := #[] }, type := 35, pos := "law.go:149", after := #[], guard := none }) rfl (fun K hK => ?_) AllReadyH.nil)
   go_simp
   refine (env_any _).mono ?_
   rintro e wE ⟨ds0, ea, ec, hd, rfl, ho, pE⟩
   have kE : Below v.heap.size v wE := kA.trans (pE.mono kA.size)
   have jE := HC.out kE
   have lBA := BA.lt
   replace BA := BA.below pE lBA
   clear lBA
   go_simp
   refine hK.out _ _ (jE) (fun _ => ?_)
   clear hK K
   refine wpAnyH_ready (rs := [3]) (by kernel_rfl) (by simp) ?_
   refine (AllReadyH.cons (o := { dst := some 96, op := Op.call { callee := Callee.value (Operand.func 7), args := #[Operand.tmp 93, Operand.const (Value.int IntKind.i32 8744), Operand.tmp 94, Operand.tmp 95], argTypes := #[35, 21, 25, 25] }, type := 29, pos := "law.go:149", after := #[{ on := 0, ground := Ground.data }, { on := 1, ground := Ground.data }, { on := 2, ground := Ground.data }, { on := 0, ground := Ground.chain }], guard := none }) rfl (fun K hK => ?_) AllReadyH.nil)
   go_simp
   have sC : v.heap.size ≤ wE.heap.size := kE.size
   have lBA := BA.lt
   refine (KT.out _ ds0 ea ec hd (ho.rd) kE).mono ?_
   rintro e wT ⟨⟨x5, y5, b3, d3, rfl, hv⟩, pT⟩
   have kT : Below v.heap.size v wT := kE.trans (pT.mono kE.size)
   have jT := HC.out kT
   have HV : Hid (ArV 1 (Fr wE.heap.size wT.heap.size) wT (.slice x5 1 y5) (.slice b3 m d3) U) := hv
   clear hv
   replace BA := BA.below pT lBA
   go_simp
   refine hK.out _ _ (jT) (fun _ => ?_)
   clear hK K
   refine wpAnyH_take (i := 4) (oi := { dst := some 92, op := Op.move (Operand.tmp 96), type := 29, pos := "law.go:149", after := #[{ on := 3, ground := Ground.data }], guard := none }) (v := .tuple #[.agg #[.slice x5 1 y5, .slice b3 m d3], .int .i64 0]) rfl (by kernel_rfl) (by kernel_rfl) (by kernel_rfl) (fun _ _ _ h => hP _ _ _ _ _ h) (Or.inl ⟨by rfl, (by intro w hSw; (try dsimp only at hSw); go_simp)⟩) (by assumption) ?_
   simp only [Act.put, List.setIfInBounds_toArray, List.set_cons_zero, List.set_cons_succ]
   refine wpAnyH_take (i := 5) (oi := { dst := some 97, op := Op.extract (Operand.tmp 92) 0, type := 25, pos := "law.go:149", after := #[{ on := 4, ground := Ground.data }], guard := none }) (v := .agg #[.slice x5 1 y5, .slice b3 m d3]) rfl (by kernel_rfl) (by kernel_rfl) (by kernel_rfl) (fun _ _ _ h => hP _ _ _ _ _ h) (Or.inl ⟨by rfl, (by intro w hSw; (try dsimp only at hSw); go_simp)⟩) (by assumption) ?_
   simp only [Act.put, List.setIfInBounds_toArray, List.set_cons_zero, List.set_cons_succ]
   refine wpAnyH_take (i := 6) (oi := { dst := some 98, op := Op.extract (Operand.tmp 92) 1, type := 28, pos := "law.go:149", after := #[{ on := 4, ground := Ground.data }, { on := 8, ground := Ground.gcOnly Departure.lateStores }], guard := none }) (v := .int .i64 0) rfl (by kernel_rfl) (by kernel_rfl) (by kernel_rfl) (fun _ _ _ h => hP _ _ _ _ _ h) (Or.inl ⟨by rfl, (by intro w hSw; (try dsimp only at hSw); go_simp)⟩) (by assumption) ?_
   simp only [Act.put, List.setIfInBounds_toArray, List.set_cons_zero, List.set_cons_succ]
   refine wpAnyH_ready (rs := [8]) (by kernel_rfl) (by simp) ?_
   refine (AllReadyH.cons (o := { dst := none, op := Op.store 25 (Operand.tmp 20) (Operand.tmp 97), type := 0, pos := "law.go:149", after := #[{ on := 7, ground := Ground.data }, { on := 5, ground := Ground.data }, { on := 3, ground := Ground.chain }, { on := 0, ground := Ground.phase }, { on := 1, ground := Ground.phase }, { on := 2, ground := Ground.phase }, { on := 3, ground := Ground.phase }, { on := 4, ground := Ground.phase }, { on := 5, ground := Ground.phase }, { on := 6, ground := Ground.textOnly Departure.lateStores }, { on := 7, ground := Ground.phase }], guard := none }) rfl (fun K hK => ?_) AllReadyH.nil)
   go_simp
   have r0 := BA.cell 0 rfl
   have r1 := BA.cell 1 rfl
   have f0 := BA.frozen 0
   have f1 := BA.frozen 1
   have BS := boxA_s1 (boxA_s0 BA (.slice x5 1 y5)) (.slice b3 m d3)
   have kS := Below.set2 kT nA (.slice x5 1 y5) (.slice b3 m d3)
   have jS := HC.out kS
   have HVS : Hid (ArV 1 (Fr v.heap.size ((wT.setCell ⟨v.heap.size, 0, none⟩ (.slice x5 1 y5)).setCell ⟨v.heap.size, 1, none⟩ (.slice b3 m d3)).heap.size) ((wT.setCell ⟨v.heap.size, 0, none⟩ (.slice x5 1 y5)).setCell ⟨v.heap.size, 1, none⟩ (.slice b3 m d3)) (.slice x5 1 y5) (.slice b3 m d3) U) := ArV.imp (fun q hq => ⟨by have := hq.1; omega, by rw [set1_size, set1_size]; exact hq.2⟩) (fun q hq => by rw [set1_other (by show ¬ v.heap.size = q; have := hq.1; omega), set1_other (by show ¬ v.heap.size = q; have := hq.1; omega)]) 1 1 _ _ _ (Nat.le_refl _) HV.out
   go_simp
   refine hK.out _ _ (jS) (fun _ => ?_)
   clear hK K
   refine wpAnyH_take (i := 9) (oi := { dst := some 21, op := Op.assign (Operand.tmp 98), type := 28, pos := "law.go:149", after := #[{ on := 6, ground := Ground.data }, { on := 8, ground := Ground.chain }, { on := 0, ground := Ground.phase }, { on := 1, ground := Ground.phase }, { on := 2, ground := Ground.phase }, { on := 3, ground := Ground.phase }, { on := 4, ground := Ground.phase }, { on := 5, ground := Ground.phase }, { on := 6, ground := Ground.phase }, { on := 7, ground := Ground.phase }, { on := 8, ground := Ground.phase }], guard := none }) (v := .int .i64 0) rfl (by kernel_rfl) (by kernel_rfl) (by kernel_rfl) (fun _ _ _ h => hP _ _ _ _ _ h) (Or.inl ⟨by rfl, (by intro w hSw; (try dsimp only at hSw); go_simp)⟩) (by assumption) ?_
   simp only [Act.put, List.setIfInBounds_toArray, List.set_cons_zero, List.set_cons_succ]
   refine wpAnyH_done (by kernel_rfl) ?_ _
   exact hQ _ ds0 ea ec x5 y5 b3 d3 _ BS nA HVS kS
end
section
variable {v : World} {x1 x2 : Option Addr} {n1 y1 n2 y2 ka m : Nat} {U : Tr}
set_option maxRecDepth 100000 in
set_option maxHeartbeats 16000000 in
theorem logic_14 {Q : Exit → Act → World → Prop} {t0 t1 t2 t3 t4 t5 t6 t7 t8 t9 t10 t11 t12 t13 t14 t15 t17 t18 t19 t20 t21 t22 t23 t24 t25 t26 t27 t28 t29 t30 t31 t32 t33 t34 t35 t36 t37 t38 t39 t40 t41 t42 t43 t44 t45 t46 t47 t48 t49 t50 t51 t52 t53 t54 t55 t56 t57 t58 t59 t60 t61 t62 t63 t64 t65 t66 t67 t68 t69 t70 t71 t72 t73 t74 t75 t76 t77 t78 t79 t80 t81 t82 t83 t84 t85 t86 t87 t88 t89 t90 t91 t92 t93 t94 t95 t96 t97 t98 t99 t100 t101 t102 t103 t104 t105 t106 t107 t108 t109 t110 t111 t112 t113 t114 t115 t116 t117 t118 t119 t120 t121 t122 t123 t124 t125 t126 t127 t128 t129 t130 t131 t132 t133 t134 t135 t136 t137 t138 t139 t140 t141 t142 t143 t144 t145 t146 t147 t148 : Value} (HC : Hid (∀ {w' : World}, Below v.heap.size v w' → w'.cell? ⟨ka, 0, none⟩ = some (.slice x1 n1 y1) ∧ w'.cell? ⟨ka, 1, none⟩ = some (.slice x2 n2 y2)))
    (KT : Hid (∀ u (ds0 : List Int) ea ec, Hid (ds0 = [(1 : Int)]) → Rd u.heap.size u (.slice ea ds0.length ec) ds0 → Below v.heap.size v u → Calls Tryz.prog 11 #[.agg #[.int .i64 1, .bool false, .slice none 0 0, .slice ea ds0.length ec, .int .i64 0], .int .i32 126, .agg #[.slice x1 n1 y1, .slice x2 n2 y2]] u fun e w' => (∃ x5 y5 b3 d3, e = .returned (.tuple #[.agg #[.slice x5 1 y5, .slice b3 m d3], .int .i64 0]) ∧ ArV 1 (Fr u.heap.size w'.heap.size) w' (.slice x5 1 y5) (.slice b3 m d3) U) ∧ Below u.heap.size u w'))
    (hQ : ∀ A (ds0 : List Int) ea ec x5 y5 b3 d3 w', BoxA w' A 25 #[.slice x5 1 y5, .slice b3 m d3] → v.heap.size ≤ A → Hid (ArV 1 (Fr v.heap.size w'.heap.size) w' (.slice x5 1 y5) (.slice b3 m d3) U) → Below v.heap.size v w' → Q .normal { tmps := #[t0, t1, t2, t3, t4, t5, t6, t7, t8, t9, t10, t11, t12, t13, t14, t15, .pointer (some ⟨ka, 0, none⟩), t17, t18, t19, t20, t21, .pointer (some ⟨A, 0, none⟩), .int .i64 0, t24, t25, t26, t27, t28, t29, t30, t31, t32, t33, t34, t35, t36, t37, t38, t39, t40, t41, t42, t43, t44, t45, t46, t47, t48, t49, t50, t51, t52, t53, t54, t55, t56, t57, t58, t59, t60, t61, t62, t63, t64, t65, t66, t67, t68, t69, t70, t71, t72, t73, t74, t75, t76, t77, t78, t79, t80, t81, t82, t83, t84, t85, t86, t87, t88, t89, t90, t91, t92, t93, t94, t95, t96, t97, t98, .tuple #[.agg #[.slice x5 1 y5, .slice b3 m d3], .int .i64 0], .agg #[.int .i64 1, .bool false, .slice none 0 0, .slice ea ds0.length ec, .int .i64 0], .agg #[.slice x1 n1 y1, .slice x2 n2 y2], .tuple #[.agg #[.slice x5 1 y5, .slice b3 m d3], .int .i64 0], .agg #[.slice x5 1 y5, .slice b3 m d3], .int .i64 0, t105, t106, t107, t108, t109, t110, t111, t112, t113, t114, t115, t116, t117, t118, t119, t120, t121, t122, t123, t124, t125, t126, t127, t128, t129, t130, t131, t132, t133, t134, t135, t136, t137, t138, t139, t140, t141, t142, t143, t144, t145, t146, t147, t148], defers := [] } w') (hP : ∀ c a d x w, Q (.panic c) (Act.put a d x) w → Q (.panic c) a w) :
    (Code.region 14 #[{ dst := some 100, op := Op.call { callee := Callee.value (Operand.func 8), args := #[], argTypes := #[] }, type := 35, pos := "law.go:150", after := #[], guard := none }, { dst := some 101, op := Op.load 25 (Operand.tmp 16), type := 25, pos := "law.go:150", after := #[], guard := none }, { dst := some 102, op := Op.call { callee := Callee.value (Operand.func 11), args := #[Operand.tmp 100, Operand.const (Value.int IntKind.i32 126), Operand.tmp 101], argTypes := #[35, 21, 25] }, type := 29, pos := "law.go:150", after := #[{ on := 0, ground := Ground.data }, { on := 1, ground := Ground.data }, { on := 0, ground := Ground.chain }], guard := none }, { dst := some 99, op := Op.move (Operand.tmp 102), type := 29, pos := "law.go:150", after := #[{ on := 2, ground := Ground.data }], guard := none }, { dst := some 103, op := Op.extract (Operand.tmp 99) 0, type := 25, pos := "law.go:150", after := #[{ on := 3, ground := Ground.data }], guard := none }, { dst := some 104, op := Op.extract (Operand.tmp 99) 1, type := 28, pos := "law.go:150", after := #[{ on := 3, ground := Ground.data }, { on := 7, ground := Ground.gcOnly Departure.lateStores }], guard := none }, { dst := some 22, op := Op.alloc 25, type := 0, pos := "law.go:150", after := #[], guard := none }, { dst := none, op := Op.store 25 (Operand.tmp 22) (Operand.tmp 103), type := 0, pos := "law.go:150", after := #[{ on := 6, ground := Ground.data }, { on := 4, ground := Ground.data }, { on := 2, ground := Ground.chain }, { on := 0, ground := Ground.phase }, { on := 1, ground := Ground.phase }, { on := 2, ground := Ground.phase }, { on := 3, ground := Ground.phase }, { on := 4, ground := Ground.phase }, { on := 5, ground := Ground.textOnly Departure.lateStores }, { on := 6, ground := Ground.phase }], guard := none }, { dst := some 23, op := Op.assign (Operand.tmp 104), type := 28, pos := "law.go:150", after := #[{ on := 5, ground := Ground.data }, { on := 7, ground := Ground.chain }, { on := 0, ground := Ground.phase }, { on := 1, ground := Ground.phase }, { on := 2, ground := Ground.phase }, { on := 3, ground := Ground.phase }, { on := 4, ground := Ground.phase }, { on := 5, ground := Ground.phase }, { on := 6, ground := Ground.phase }, { on := 7, ground := Ground.phase }], guard := none }] true).wp Tryz.prog Q { tmps := #[t0, t1, t2, t3, t4, t5, t6, t7, t8, t9, t10, t11, t12, t13, t14, t15, .pointer (some ⟨ka, 0, none⟩), t17, t18, t19, t20, t21, t22, t23, t24, t25, t26, t27, t28, t29, t30, t31, t32, t33, t34, t35, t36, t37, t38, t39, t40, t41, t42, t43, t44, t45, t46, t47, t48, t49, t50, t51, t52, t53, t54, t55, t56, t57, t58, t59, t60, t61, t62, t63, t64, t65, t66, t67, t68, t69, t70, t71, t72, t73, t74, t75, t76, t77, t78, t79, t80, t81, t82, t83, t84, t85, t86, t87, t88, t89, t90, t91, t92, t93, t94, t95, t96, t97, t98, t99, t100, t101, t102, t103, t104, t105, t106, t107, t108, t109, t110, t111, t112, t113, t114, t115, t116, t117, t118, t119, t120, t121, t122, t123, t124, t125, t126, t127, t128, t129, t130, t131, t132, t133, t134, t135, t136, t137, t138, t139, t140, t141, t142, t143, t144, t145, t146, t147, t148], defers := [] } v := by
 have d1 : Below v.heap.size v v.drew := ⟨rfl, rfl, rfl, Nat.le_refl _, fun _ _ => rfl⟩
 have j0 := HC.out d1
 refine wp_region_held_drew (S := (fun w' => w'.cell? ⟨ka, 0, none⟩ = some (.slice x1 n1 y1) ∧ w'.cell? ⟨ka, 1, none⟩ = some (.slice x2 n2 y2))) (by kernel_rfl) j0 (fun hS => ?_)
 refine wpAnyH_take (i := 1) (oi := { dst := some 101, op := Op.load 25 (Operand.tmp 16), type := 25, pos := "law.go:150", after := #[], guard := none }) (v := .agg #[.slice x1 n1 y1, .slice x2 n2 y2]) rfl (by kernel_rfl) (by kernel_rfl) (by kernel_rfl) (fun _ _ _ h => hP _ _ _ _ _ h) (Or.inl ⟨by rfl, (by intro w hSw; (try dsimp only at hSw); go_simp)⟩) (by assumption) ?_
 simp only [Act.put, List.setIfInBounds_toArray, List.set_cons_zero, List.set_cons_succ]
 refine wpAnyH_ready (rs := [0, 6]) (by kernel_rfl) (by simp) ?_
 refine (AllReadyH.cons (o := { dst := some 100, op := Op.call { callee := Callee.value (Operand.func 8), args := #[], argTypes := #[] }, type := 35, pos := "law.go:150", after := #[], guard := none }) rfl (fun K hK => ?_) (AllReadyH.cons (o := { dst := some 22, op := Op.alloc 25, type := 0, pos := "law.go:150", after := #[], guard := none }) rfl (fun K hK => ?_) AllReadyH.nil))
 · go_simp
   refine (env_any _).mono ?_
   rintro e wE ⟨ds0, ea, ec, hd, rfl, ho, pE⟩
   have kE : Below v.heap.size v wE := d1.trans (pE.mono d1.size)
   have jE := HC.out kE
   go_simp
   refine hK.out _ _ (jE) (fun _ => ?_)
   clear hK K
   refine wpAnyH_ready (rs := [2, 6]) (by kernel_rfl) (by simp) ?_
   refine (AllReadyH.cons (o := { dst := some 102, op := Op.call { callee := Callee.value (Operand.func 11), args := #[Operand.tmp 100, Operand.const (Value.int IntKind.i32 126), Operand.tmp 101], argTypes := #[35, 21, 25] }, type := 29, pos := "law.go:150", after := #[{ on := 0, ground := Ground.data }, { on := 1, ground := Ground.data }, { on := 0, ground := Ground.chain }], guard := none }) rfl (fun K hK => ?_) (AllReadyH.cons (o := { dst := some 22, op := Op.alloc 25, type := 0, pos := "law.go:150", after := #[], guard := none }) rfl (fun K hK => ?_) AllReadyH.nil))
   · go_simp
     have sC : v.heap.size ≤ wE.heap.size := kE.size
     refine (KT.out _ ds0 ea ec hd (ho.rd) kE).mono ?_
     rintro e wT ⟨⟨x5, y5, b3, d3, rfl, hv⟩, pT⟩
     have kT : Below v.heap.size v wT := kE.trans (pT.mono kE.size)
     have jT := HC.out kT
     have HV : Hid (ArV 1 (Fr wE.heap.size wT.heap.size) wT (.slice x5 1 y5) (.slice b3 m d3) U) := hv
     clear hv
     go_simp
     refine hK.out _ _ (jT) (fun _ => ?_)
     clear hK K
     refine wpAnyH_take (i := 3) (oi := { dst := some 99, op := Op.move (Operand.tmp 102), type := 29, pos := "law.go:150", after := #[{ on := 2, ground := Ground.data }], guard := none }) (v := .tuple #[.agg #[.slice x5 1 y5, .slice b3 m d3], .int .i64 0]) rfl (by kernel_rfl) (by kernel_rfl) (by kernel_rfl) (fun _ _ _ h => hP _ _ _ _ _ h) (Or.inl ⟨by rfl, (by intro w hSw; (try dsimp only at hSw); go_simp)⟩) (by assumption) ?_
     simp only [Act.put, List.setIfInBounds_toArray, List.set_cons_zero, List.set_cons_succ]
     refine wpAnyH_take (i := 4) (oi := { dst := some 103, op := Op.extract (Operand.tmp 99) 0, type := 25, pos := "law.go:150", after := #[{ on := 3, ground := Ground.data }], guard := none }) (v := .agg #[.slice x5 1 y5, .slice b3 m d3]) rfl (by kernel_rfl) (by kernel_rfl) (by kernel_rfl) (fun _ _ _ h => hP _ _ _ _ _ h) (Or.inl ⟨by rfl, (by intro w hSw; (try dsimp only at hSw); go_simp)⟩) (by assumption) ?_
     simp only [Act.put, List.setIfInBounds_toArray, List.set_cons_zero, List.set_cons_succ]
     refine wpAnyH_take (i := 5) (oi := { dst := some 104, op := Op.extract (Operand.tmp 99) 1, type := 28, pos := "law.go:150", after := #[{ on := 3, ground := Ground.data }, { on := 7, ground := Ground.gcOnly Departure.lateStores }], guard := none }) (v := .int .i64 0) rfl (by kernel_rfl) (by kernel_rfl) (by kernel_rfl) (fun _ _ _ h => hP _ _ _ _ _ h) (Or.inl ⟨by rfl, (by intro w hSw; (try dsimp only at hSw); go_simp)⟩) (by assumption) ?_
     simp only [Act.put, List.setIfInBounds_toArray, List.set_cons_zero, List.set_cons_succ]
     refine wpAnyH_ready (rs := [6]) (by kernel_rfl) (by simp) ?_
     refine (AllReadyH.cons (o := { dst := some 22, op := Op.alloc 25, type := 0, pos := "law.go:150", after := #[], guard := none }) rfl (fun K hK => ?_) AllReadyH.nil)
     go_simp
     have kA : Below v.heap.size v (wT.alloc (.cells #[.slice none 0 0, .slice none 0 0] 25)) := kT.trans ((below_alloc wT (.cells #[.slice none 0 0, .slice none 0 0] 25)).mono kT.size)
     have jA := HC.out kA
     have BA : BoxA (wT.alloc (.cells #[.slice none 0 0, .slice none 0 0] 25)) wT.heap.size 25 #[.slice none 0 0, .slice none 0 0] := boxA_new wT #[.slice none 0 0, .slice none 0 0] 25
     have nA : v.heap.size ≤ wT.heap.size := kT.size
     go_simp
     refine hK.out _ _ (jA) (fun _ => ?_)
     clear hK K
     refine wpAnyH_ready (rs := [7]) (by kernel_rfl) (by simp) ?_
     refine (AllReadyH.cons (o := { dst := none, op := Op.store 25 (Operand.tmp 22) (Operand.tmp 103), type := 0, pos := "law.go:150", after := #[{ on := 6, ground := Ground.data }, { on := 4, ground := Ground.data }, { on := 2, ground := Ground.chain }, { on := 0, ground := Ground.phase }, { on := 1, ground := Ground.phase }, { on := 2, ground := Ground.phase }, { on := 3, ground := Ground.phase }, { on := 4, ground := Ground.phase }, { on := 5, ground := Ground.textOnly Departure.lateStores }, { on := 6, ground := Ground.phase }], guard := none }) rfl (fun K hK => ?_) AllReadyH.nil)
     go_simp
     have r0 := BA.cell 0 rfl
     have r1 := BA.cell 1 rfl
     have f0 := BA.frozen 0
     have f1 := BA.frozen 1
     have BS := boxA_new wT #[.slice x5 1 y5, .slice b3 m d3] 25
     have kS : Below v.heap.size v (wT.alloc (.cells #[.slice x5 1 y5, .slice b3 m d3] 25)) := kT.trans ((below_alloc wT (.cells #[.slice x5 1 y5, .slice b3 m d3] 25)).mono kT.size)
     have jS := HC.out kS
     have HVS : Hid (ArV 1 (Fr v.heap.size (wT.alloc (.cells #[.slice x5 1 y5, .slice b3 m d3] 25)).heap.size) (wT.alloc (.cells #[.slice x5 1 y5, .slice b3 m d3] 25)) (.slice x5 1 y5) (.slice b3 m d3) U) := ArV.imp (fun q hq => ⟨by have := hq.1; omega, by rw [World.size_alloc]; have := hq.2; omega⟩) (fun q hq => (below_alloc wT (.cells #[.slice x5 1 y5, .slice b3 m d3] 25)).block q hq.2) 1 1 _ _ _ (Nat.le_refl _) HV.out
     go_simp
     refine hK.out _ _ (jS) (fun _ => ?_)
     clear hK K
     refine wpAnyH_take (i := 8) (oi := { dst := some 23, op := Op.assign (Operand.tmp 104), type := 28, pos := "law.go:150", after := #[{ on := 5, ground := Ground.data }, { on := 7, ground := Ground.chain }, { on := 0, ground := Ground.phase }, { on := 1, ground := Ground.phase }, { on := 2, ground := Ground.phase }, { on := 3, ground := Ground.phase }, { on := 4, ground := Ground.phase }, { on := 5, ground := Ground.phase }, { on := 6, ground := Ground.phase }, { on := 7, ground := Ground.phase }], guard := none }) (v := .int .i64 0) rfl (by kernel_rfl) (by kernel_rfl) (by kernel_rfl) (fun _ _ _ h => hP _ _ _ _ _ h) (Or.inl ⟨by rfl, (by intro w hSw; (try dsimp only at hSw); go_simp)⟩) (by assumption) ?_
     simp only [Act.put, List.setIfInBounds_toArray, List.set_cons_zero, List.set_cons_succ]
     refine wpAnyH_done (by kernel_rfl) ?_ _
     exact hQ _ ds0 ea ec x5 y5 b3 d3 _ BS nA HVS kS
   · go_simp
     have kA : Below v.heap.size v (wE.alloc (.cells #[.slice none 0 0, .slice none 0 0] 25)) := kE.trans ((below_alloc wE (.cells #[.slice none 0 0, .slice none 0 0] 25)).mono kE.size)
     have jA := HC.out kA
     have BA : BoxA (wE.alloc (.cells #[.slice none 0 0, .slice none 0 0] 25)) wE.heap.size 25 #[.slice none 0 0, .slice none 0 0] := boxA_new wE #[.slice none 0 0, .slice none 0 0] 25
     have nA : v.heap.size ≤ wE.heap.size := kE.size
     go_simp
     refine hK.out _ _ (jA) (fun _ => ?_)
     clear hK K
     refine wpAnyH_ready (rs := [2]) (by kernel_rfl) (by simp) ?_
     refine (AllReadyH.cons (o := { dst := some 102, op := Op.call { callee := Callee.value (Operand.func 11), args := #[Operand.tmp 100, Operand.const (Value.int IntKind.i32 126), Operand.tmp 101], argTypes := #[35, 21, 25] }, type := 29, pos := "law.go:150", after := #[{ on := 0, ground := Ground.data }, { on := 1, ground := Ground.data }, { on := 0, ground := Ground.chain }], guard := none }) rfl (fun K hK => ?_) AllReadyH.nil)
     go_simp
     have sC : v.heap.size ≤ (wE.alloc (.cells #[.slice none 0 0, .slice none 0 0] 25)).heap.size := kA.size
     have lBA := BA.lt
     refine (KT.out _ ds0 ea ec hd ((ho.below (below_alloc wE (.cells #[.slice none 0 0, .slice none 0 0] 25)) (Nat.le_refl _)).rd) kA).mono ?_
     rintro e wT ⟨⟨x5, y5, b3, d3, rfl, hv⟩, pT⟩
     have kT : Below v.heap.size v wT := kA.trans (pT.mono kA.size)
     have jT := HC.out kT
     have HV : Hid (ArV 1 (Fr (wE.alloc (.cells #[.slice none 0 0, .slice none 0 0] 25)).heap.size wT.heap.size) wT (.slice x5 1 y5) (.slice b3 m d3) U) := hv
     clear hv
     replace BA := BA.below pT lBA
     go_simp
     refine hK.out _ _ (jT) (fun _ => ?_)
     clear hK K
     refine wpAnyH_take (i := 3) (oi := { dst := some 99, op := Op.move (Operand.tmp 102), type := 29, pos := "law.go:150", after := #[{ on := 2, ground := Ground.data }], guard := none }) (v := .tuple #[.agg #[.slice x5 1 y5, .slice b3 m d3], .int .i64 0]) rfl (by kernel_rfl) (by kernel_rfl) (by kernel_rfl) (fun _ _ _ h => hP _ _ _ _ _ h) (Or.inl ⟨by rfl, (by intro w hSw; (try dsimp only at hSw); go_simp)⟩) (by assumption) ?_
     simp only [Act.put, List.setIfInBounds_toArray, List.set_cons_zero, List.set_cons_succ]
     refine wpAnyH_take (i := 4) (oi := { dst := some 103, op := Op.extract (Operand.tmp 99) 0, type := 25, pos := "law.go:150", after := #[{ on := 3, ground := Ground.data }], guard := none }) (v := .agg #[.slice x5 1 y5, .slice b3 m d3]) rfl (by kernel_rfl) (by kernel_rfl) (by kernel_rfl) (fun _ _ _ h => hP _ _ _ _ _ h) (Or.inl ⟨by rfl, (by intro w hSw; (try dsimp only at hSw); go_simp)⟩) (by assumption) ?_
     simp only [Act.put, List.setIfInBounds_toArray, List.set_cons_zero, List.set_cons_succ]
     refine wpAnyH_take (i := 5) (oi := { dst := some 104, op := Op.extract (Operand.tmp 99) 1, type := 28, pos := "law.go:150", after := #[{ on := 3, ground := Ground.data }, { on := 7, ground := Ground.gcOnly Departure.lateStores }], guard := none }) (v := .int .i64 0) rfl (by kernel_rfl) (by kernel_rfl) (by kernel_rfl) (fun _ _ _ h => hP _ _ _ _ _ h) (Or.inl ⟨by rfl, (by intro w hSw; (try dsimp only at hSw); go_simp)⟩) (by assumption) ?_
     simp only [Act.put, List.setIfInBounds_toArray, List.set_cons_zero, List.set_cons_succ]
     refine wpAnyH_ready (rs := [7]) (by kernel_rfl) (by simp) ?_
     refine (AllReadyH.cons (o := { dst := none, op := Op.store 25 (Operand.tmp 22) (Operand.tmp 103), type := 0, pos := "law.go:150", after := #[{ on := 6, ground := Ground.data }, { on := 4, ground := Ground.data }, { on := 2, ground := Ground.chain }, { on := 0, ground := Ground.phase }, { on := 1, ground := Ground.phase }, { on := 2, ground := Ground.phase }, { on := 3, ground := Ground.phase }, { on := 4, ground := Ground.phase }, { on := 5, ground := Ground.textOnly Departure.lateStores }, { on := 6, ground := Ground.phase }], guard := none }) rfl (fun K hK => ?_) AllReadyH.nil)
     go_simp
     have r0 := BA.cell 0 rfl
     have r1 := BA.cell 1 rfl
     have f0 := BA.frozen 0
     have f1 := BA.frozen 1
     have BS := boxA_s1 (boxA_s0 BA (.slice x5 1 y5)) (.slice b3 m d3)
     have kS := Below.set2 kT nA (.slice x5 1 y5) (.slice b3 m d3)
     have jS := HC.out kS
     have HVS : Hid (ArV 1 (Fr v.heap.size ((wT.setCell ⟨wE.heap.size, 0, none⟩ (.slice x5 1 y5)).setCell ⟨wE.heap.size, 1, none⟩ (.slice b3 m d3)).heap.size) ((wT.setCell ⟨wE.heap.size, 0, none⟩ (.slice x5 1 y5)).setCell ⟨wE.heap.size, 1, none⟩ (.slice b3 m d3)) (.slice x5 1 y5) (.slice b3 m d3) U) := ArV.imp (fun q hq => ⟨by have := hq.1; omega, by rw [set1_size, set1_size]; exact hq.2⟩) (fun q hq => by rw [set1_other (by show ¬ wE.heap.size = q; have := hq.1; omega), set1_other (by show ¬ wE.heap.size = q; have := hq.1; omega)]) 1 1 _ _ _ (Nat.le_refl _) HV.out
     go_simp
     refine hK.out _ _ (jS) (fun _ => ?_)
     clear hK K
     refine wpAnyH_take (i := 8) (oi := { dst := some 23, op := Op.assign (Operand.tmp 104), type := 28, pos := "law.go:150", after := #[{ on := 5, ground := Ground.data }, { on := 7, ground := Ground.chain }, { on := 0, ground := Ground.phase }, { on := 1, ground := Ground.phase }, { on := 2, ground := Ground.phase }, { on := 3, ground := Ground.phase }, { on := 4, ground := Ground.phase }, { on := 5, ground := Ground.phase }, { on := 6, ground := Ground.phase }, { on := 7, ground := Ground.phase }], guard := none }) (v := .int .i64 0) rfl (by kernel_rfl) (by kernel_rfl) (by kernel_rfl) (fun _ _ _ h => hP _ _ _ _ _ h) (Or.inl ⟨by rfl, (by intro w hSw; (try dsimp only at hSw); go_simp)⟩) (by assumption) ?_
     simp only [Act.put, List.setIfInBounds_toArray, List.set_cons_zero, List.set_cons_succ]
     refine wpAnyH_done (by kernel_rfl) ?_ _
     exact hQ _ ds0 ea ec x5 y5 b3 d3 _ BS nA HVS kS
 · go_simp
   have kA : Below v.heap.size v (v.drew.alloc (.cells #[.slice none 0 0, .slice none 0 0] 25)) := d1.trans ((below_alloc v.drew (.cells #[.slice none 0 0, .slice none 0 0] 25)).mono d1.size)
   have jA := HC.out kA
   have BA : BoxA (v.drew.alloc (.cells #[.slice none 0 0, .slice none 0 0] 25)) v.heap.size 25 #[.slice none 0 0, .slice none 0 0] := boxA_new v.drew #[.slice none 0 0, .slice none 0 0] 25
   have nA : v.heap.size ≤ v.heap.size := d1.size
   go_simp
   refine hK.out _ _ (jA) (fun _ => ?_)
   clear hK K
   refine wpAnyH_ready (rs := [0]) (by kernel_rfl) (by simp) ?_
   refine (AllReadyH.cons (o := { dst := some 100, op := Op.call { callee := Callee.value (Operand.func 8), args := #[], argTypes := #[] }, type := 35, pos := "law.go:150", after := #[], guard := none }) rfl (fun K hK => ?_) AllReadyH.nil)
   go_simp
   refine (env_any _).mono ?_
   rintro e wE ⟨ds0, ea, ec, hd, rfl, ho, pE⟩
   have kE : Below v.heap.size v wE := kA.trans (pE.mono kA.size)
   have jE := HC.out kE
   have lBA := BA.lt
   replace BA := BA.below pE lBA
   clear lBA
   go_simp
   refine hK.out _ _ (jE) (fun _ => ?_)
   clear hK K
   refine wpAnyH_ready (rs := [2]) (by kernel_rfl) (by simp) ?_
   refine (AllReadyH.cons (o := { dst := some 102, op := Op.call { callee := Callee.value (Operand.func 11), args := #[Operand.tmp 100, Operand.const (Value.int IntKind.i32 126), Operand.tmp 101], argTypes := #[35, 21, 25] }, type := 29, pos := "law.go:150", after := #[{ on := 0, ground := Ground.data }, { on := 1, ground := Ground.data }, { on := 0, ground := Ground.chain }], guard := none }) rfl (fun K hK => ?_) AllReadyH.nil)
   go_simp
   have sC : v.heap.size ≤ wE.heap.size := kE.size
   have lBA := BA.lt
   refine (KT.out _ ds0 ea ec hd (ho.rd) kE).mono ?_
   rintro e wT ⟨⟨x5, y5, b3, d3, rfl, hv⟩, pT⟩
   have kT : Below v.heap.size v wT := kE.trans (pT.mono kE.size)
   have jT := HC.out kT
   have HV : Hid (ArV 1 (Fr wE.heap.size wT.heap.size) wT (.slice x5 1 y5) (.slice b3 m d3) U) := hv
   clear hv
   replace BA := BA.below pT lBA
   go_simp
   refine hK.out _ _ (jT) (fun _ => ?_)
   clear hK K
   refine wpAnyH_take (i := 3) (oi := { dst := some 99, op := Op.move (Operand.tmp 102), type := 29, pos := "law.go:150", after := #[{ on := 2, ground := Ground.data }], guard := none }) (v := .tuple #[.agg #[.slice x5 1 y5, .slice b3 m d3], .int .i64 0]) rfl (by kernel_rfl) (by kernel_rfl) (by kernel_rfl) (fun _ _ _ h => hP _ _ _ _ _ h) (Or.inl ⟨by rfl, (by intro w hSw; (try dsimp only at hSw); go_simp)⟩) (by assumption) ?_
   simp only [Act.put, List.setIfInBounds_toArray, List.set_cons_zero, List.set_cons_succ]
   refine wpAnyH_take (i := 4) (oi := { dst := some 103, op := Op.extract (Operand.tmp 99) 0, type := 25, pos := "law.go:150", after := #[{ on := 3, ground := Ground.data }], guard := none }) (v := .agg #[.slice x5 1 y5, .slice b3 m d3]) rfl (by kernel_rfl) (by kernel_rfl) (by kernel_rfl) (fun _ _ _ h => hP _ _ _ _ _ h) (Or.inl ⟨by rfl, (by intro w hSw; (try dsimp only at hSw); go_simp)⟩) (by assumption) ?_
   simp only [Act.put, List.setIfInBounds_toArray, List.set_cons_zero, List.set_cons_succ]
   refine wpAnyH_take (i := 5) (oi := { dst := some 104, op := Op.extract (Operand.tmp 99) 1, type := 28, pos := "law.go:150", after := #[{ on := 3, ground := Ground.data }, { on := 7, ground := Ground.gcOnly Departure.lateStores }], guard := none }) (v := .int .i64 0) rfl (by kernel_rfl) (by kernel_rfl) (by kernel_rfl) (fun _ _ _ h => hP _ _ _ _ _ h) (Or.inl ⟨by rfl, (by intro w hSw; (try dsimp only at hSw); go_simp)⟩) (by assumption) ?_
   simp only [Act.put, List.setIfInBounds_toArray, List.set_cons_zero, List.set_cons_succ]
   refine wpAnyH_ready (rs := [7]) (by kernel_rfl) (by simp) ?_
   refine (AllReadyH.cons (o := { dst := none, op := Op.store 25 (Operand.tmp 22) (Operand.tmp 103), type := 0, pos := "law.go:150", after := #[{ on := 6, ground := Ground.data }, { on := 4, ground := Ground.data }, { on := 2, ground := Ground.chain }, { on := 0, ground := Ground.phase }, { on := 1, ground := Ground.phase }, { on := 2, ground := Ground.phase }, { on := 3, ground := Ground.phase }, { on := 4, ground := Ground.phase }, { on := 5, ground := Ground.textOnly Departure.lateStores }, { on := 6, ground := Ground.phase }], guard := none }) rfl (fun K hK => ?_) AllReadyH.nil)
   go_simp
   have r0 := BA.cell 0 rfl
   have r1 := BA.cell 1 rfl
   have f0 := BA.frozen 0
   have f1 := BA.frozen 1
   have BS := boxA_s1 (boxA_s0 BA (.slice x5 1 y5)) (.slice b3 m d3)
   have kS := Below.set2 kT nA (.slice x5 1 y5) (.slice b3 m d3)
   have jS := HC.out kS
   have HVS : Hid (ArV 1 (Fr v.heap.size ((wT.setCell ⟨v.heap.size, 0, none⟩ (.slice x5 1 y5)).setCell ⟨v.heap.size, 1, none⟩ (.slice b3 m d3)).heap.size) ((wT.setCell ⟨v.heap.size, 0, none⟩ (.slice x5 1 y5)).setCell ⟨v.heap.size, 1, none⟩ (.slice b3 m d3)) (.slice x5 1 y5) (.slice b3 m d3) U) := ArV.imp (fun q hq => ⟨by have := hq.1; omega, by rw [set1_size, set1_size]; exact hq.2⟩) (fun q hq => by rw [set1_other (by show ¬ v.heap.size = q; have := hq.1; omega), set1_other (by show ¬ v.heap.size = q; have := hq.1; omega)]) 1 1 _ _ _ (Nat.le_refl _) HV.out
   go_simp
   refine hK.out _ _ (jS) (fun _ => ?_)
   clear hK K
   refine wpAnyH_take (i := 8) (oi := { dst := some 23, op := Op.assign (Operand.tmp 104), type := 28, pos := "law.go:150", after := #[{ on := 5, ground := Ground.data }, { on := 7, ground := Ground.chain }, { on := 0, ground := Ground.phase }, { on := 1, ground := Ground.phase }, { on := 2, ground := Ground.phase }, { on := 3, ground := Ground.phase }, { on := 4, ground := Ground.phase }, { on := 5, ground := Ground.phase }, { on := 6, ground := Ground.phase }, { on := 7, ground := Ground.phase }], guard := none }) (v := .int .i64 0) rfl (by kernel_rfl) (by kernel_rfl) (by kernel_rfl) (fun _ _ _ h => hP _ _ _ _ _ h) (Or.inl ⟨by rfl, (by intro w hSw; (try dsimp only at hSw); go_simp)⟩) (by assumption) ?_
   simp only [Act.put, List.setIfInBounds_toArray, List.set_cons_zero, List.set_cons_succ]
   refine wpAnyH_done (by kernel_rfl) ?_ _
   exact hQ _ ds0 ea ec x5 y5 b3 d3 _ BS nA HVS kS
end
end Go.Proofs.YtmijanocljmaeaaGreat
