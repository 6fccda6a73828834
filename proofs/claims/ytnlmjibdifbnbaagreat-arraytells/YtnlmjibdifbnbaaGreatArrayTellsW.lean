/- ArrayTells: what simple arrays say as numbers and texts, and which are the same. -/
import Derived.Test.YtnlmjibdifbnbaaGreatKG
import Derived.Test.YtnlmjibdifbnbaaGreatKE
import Derived.Test.YtnlmjibdifbnbaaGreatKF
import Derived.Test.YtnlmjibdifbnbaaGreatK13
namespace Go.Proofs.YtnlmjibdifbnbaaGreat
set_option linter.unusedVariables false
set_option linter.unusedSimpArgs false
open Go.RowKit

theorem bool_same {P : Prop} {β β' : Bool} (h : Hid (β = true ↔ P)) (h' : Hid (β' = true ↔ P)) : β' = β := by
  have h1 := h.out
  have h2 := h'.out
  cases β <;> cases β'
  · rfl
  · exact absurd (h1.2 (h2.1 rfl)) (by decide)
  · exact absurd (h2.2 (h1.1 rfl)) (by decide)
  · rfl
theorem none_parts {t : Tr} (h : noneB t = true) : t.b = false ∧ t.ns = [] ∧ t.ds = [] := by
  unfold noneB at h
  simp only [Bool.and_eq_true, Bool.not_eq_true', decide_eq_true_eq] at h
  exact ⟨h.1.1, List.eq_nil_of_length_eq_zero h.1.2, List.eq_nil_of_length_eq_zero h.2⟩
theorem eqI_R {E E' : Tr → Tr → Prop} {M M' : Tr → Option (Int × Int)} (hE : ∀ a b, (M a).isSome = true → (M' b).isSome = true → (E a b ↔ E' a b)) {t s : Tr} (ht : (measI M t).isSome = true) (hs : (measI M' s).isSome = true) : eqI E t s ↔ eqRI E' t s := by
  unfold eqI eqRI
  rcases measI_cases ht with ⟨h1, h2, h3, h4⟩ | ⟨h1, h2, h3, h4⟩ | ⟨h1, h2, h3, h4, h5, h6⟩ <;> rcases measI_cases hs with ⟨k1, k2, k3, k4⟩ | ⟨k1, k2, k3, k4⟩ | ⟨k1, k2, k3, k4, k5, k6⟩
  · refine ⟨fun h => ⟨h.1, by rw [h3, k3], h.2.2.2 h1, by omega, fun j hj => by omega⟩, fun h => ⟨h.1, fun e => absurd (h1.symm.trans e) (by decide), fun e => absurd (h1.symm.trans e) (by decide), fun _ => h.2.2.1⟩⟩
  · exact ⟨fun h => absurd (h1.symm.trans (h.1.trans k1)) (by decide), fun h => absurd (h1.symm.trans (h.1.trans k1)) (by decide)⟩
  · exact ⟨fun h => absurd (h1.symm.trans (h.1.trans k1)) (by decide), fun h => absurd (h1.symm.trans (h.1.trans k1)) (by decide)⟩
  · exact ⟨fun h => absurd (h1.symm.trans (h.1.trans k1)) (by decide), fun h => absurd (h1.symm.trans (h.1.trans k1)) (by decide)⟩
  · obtain ⟨a1, a2, a3⟩ := none_parts h3
    obtain ⟨b1, b2, b3⟩ := none_parts k3
    refine ⟨fun h => ⟨h.1, h.2.2.1 h1, ⟨by rw [a1, b1], by rw [a2, b2], by rw [a3, b3]⟩, by omega, fun j hj => by omega⟩, fun h => ⟨h.1, fun e => absurd (h1.symm.trans e) (by decide), fun _ => h.2.1, fun e => absurd (h1.symm.trans e) (by decide)⟩⟩
  · exact ⟨fun h => absurd (h1.symm.trans (h.1.trans k1)) (by decide), fun h => absurd (h1.symm.trans (h.1.trans k1)) (by decide)⟩
  · exact ⟨fun h => absurd (h1.symm.trans (h.1.trans k1)) (by decide), fun h => absurd (h1.symm.trans (h.1.trans k1)) (by decide)⟩
  · exact ⟨fun h => absurd (h1.symm.trans (h.1.trans k1)) (by decide), fun h => absurd (h1.symm.trans (h.1.trans k1)) (by decide)⟩
  · obtain ⟨a1, a2, a3⟩ := none_parts h2
    obtain ⟨b1, b2, b3⟩ := none_parts k2
    have e := hE _ _ h6 k6
    refine ⟨fun h => ⟨h.1, by rw [h3, k3], ⟨by rw [a1, b1], by rw [a2, b2], by rw [a3, b3]⟩, by omega, fun j hj => ?_⟩, fun h => ⟨h.1, fun _ => e.2 (h.2.2.2.2 0 (by omega)), fun e => absurd (h1.symm.trans e) (by decide), fun e => absurd (h1.symm.trans e) (by decide)⟩⟩
    obtain rfl : j = 0 := by omega
    exact e.1 (h.2.1 h1)
/-- Of right arrays both ask the same. -/
theorem eqF_R : ∀ (f L L' : Nat) (t s : Tr), (measF L t).isSome = true → (measF L' s).isSome = true → (eqF f t s ↔ eqR f t s)
  | 0, _, _, _, _, _, _ => ⟨fun _ => trivial, fun _ => trivial⟩
  | f + 1, L, L', t, s, ht, hs => by
    obtain ⟨L1, rfl, _, _, _, _, m⟩ := measF_some ht
    obtain ⟨L2, rfl, _, _, _, _, m'⟩ := measF_some hs
    have hi : ∀ j, j < t.kids.length → j < s.kids.length → (eqI (eqF f) (t.kids.getD j tr0) (s.kids.getD j tr0) ↔ eqRI (eqR f) (t.kids.getD j tr0) (s.kids.getD j tr0)) := fun j h1 h2 => eqI_R (fun a b ha hb => eqF_R f L1 L2 a b ha hb) (m _ (getD_memI h1)) (m' _ (getD_memI h2))
    constructor
    · rintro ⟨h1, h2, h3⟩
      exact ⟨by rw [h1], h2, fun j _ => by rw [h1], fun j hj => (hi j hj (by omega)).1 (h3 j hj)⟩
    · rintro ⟨h1, h2, h3, h4⟩
      refine ⟨List.ext_getElem h1 fun i a b => ?_, h2, fun j hj => (hi j hj (by omega)).2 (h4 j hj)⟩
      have := h3 i a
      simpa [List.getD, a, b] using this
theorem eqI_symm {E : Tr → Tr → Prop} (hE : ∀ a b, E a b → E b a) {t s : Tr} (h : eqI E t s) : eqI E s t :=
  ⟨h.1.symm, fun e => hE _ _ (h.2.1 (h.1.trans e)), fun e => (h.2.2.1 (h.1.trans e)).symm, fun e => by
    obtain ⟨a, b, c⟩ := h.2.2.2 (h.1.trans e)
    exact ⟨a.symm, b.symm, c.symm⟩⟩
theorem eqF_symm : ∀ (f : Nat) (t s : Tr), eqF f t s → eqF f s t
  | 0, _, _, _ => trivial
  | f + 1, t, s, h => ⟨h.1.symm, h.2.1.symm, fun j hj => eqI_symm (fun a b => eqF_symm f a b) (h.2.2 j (by have := h.2.1; omega))⟩
theorem eqF_refl : ∀ (f : Nat) (t : Tr), eqF f t t
  | 0, _ => trivial
  | f + 1, t => ⟨rfl, rfl, fun j _ => ⟨rfl, fun _ => eqF_refl f _, fun _ => rfl, fun _ => ⟨rfl, rfl, rfl⟩⟩⟩
theorem IntOf.unique {t : Tr} {n m : Int} {ok fine : Bool} (h : IntOf t n ok) (k : IntOf t m fine) : m = n ∧ fine = ok := by
  rcases h with ⟨h1, h⟩ | ⟨h1, rfl, rfl⟩ <;> rcases k with ⟨k1, k⟩ | ⟨k1, rfl, rfl⟩
  · exact h.unique k
  · exact absurd h1 k1
  · exact absurd k1 h1
  · exact ⟨rfl, rfl⟩
/-- A call that tells whether P is so, from any world behind u. -/
def KAns (u : World) (fn : FuncId) (args : Array Value) (P : Prop) : Prop := Hid (∀ w', Below u.heap.size u w' → Calls Tryz.prog fn args w' fun e w'' => AnsB e P ∧ Below w'.heap.size w' w'')
set_option maxRecDepth 100000 in
set_option maxHeartbeats 16000000 in
theorem tells_first {u : World} {P : Prop} {ba bb ln cl ck : Nat} {al ak : Option Addr} {n : Int} {ok one three : Bool} {T : ByteArray} {x1 : Option Addr} {n1 y1 : Nat} {x2 : Option Addr} {n2 y2 : Nat} {x3 : Option Addr} {n3 y3 : Nat} {x4 : Option Addr} {n4 y4 : Nat} {Q : Exit → Act → World → Prop} {t0 t1 t4 t17 t18 t19 t20 t21 t22 t23 t24 t25 t26 t27 t28 t29 t30 t31 t32 t33 t34 t35 t36 t37 t38 t39 t40 t41 t42 t43 t44 t45 t46 t47 t48 t49 t50 t51 t52 t53 t54 t55 t56 t57 t58 t59 t60 t61 t62 t63 t64 t65 t66 t67 t68 t69 t70 t71 t72 t73 t74 t75 t76 t77 t78 t79 t80 t81 t82 t83 t84 t85 t86 t87 t88 t89 t90 t91 t92 t93 t94 t95 t96 t97 t98 t99 t100 t101 t102 t103 t104 t105 t106 t107 t108 t109 t110 t111 t112 t113 t114 t115 t116 t117 t118 t119 t120 : Value}
    (HC : Hid (∀ {w' : World}, Below u.heap.size u w' → (w'.cell? ⟨ba, 0, none⟩ = some (.slice x1 n1 y1) ∧ w'.cell? ⟨ba, 1, none⟩ = some (.slice x2 n2 y2) ∧ w'.cell? ⟨bb, 0, none⟩ = some (.slice x3 n3 y3) ∧ w'.cell? ⟨bb, 1, none⟩ = some (.slice x4 n4 y4)))) (HLv : Hid LiveOK) (KM : KAns u 11 #[.agg #[.slice x1 n1 y1, .slice x2 n2 y2], .agg #[.slice x3 n3 y3, .slice x4 n4 y4]] P) (KN : KAns u 12 #[.agg #[.slice x1 n1 y1, .slice x2 n2 y2], .agg #[.slice x3 n3 y3, .slice x4 n4 y4]] P)
    (hQ : ∀ β w', Below u.heap.size u w' → Q .normal { tmps := #[t0, t1, .pointer (some ⟨ba, 0, none⟩), .pointer (some ⟨bb, 0, none⟩), t4, .int .i64 n, .bool ok, .int .i64 n, .bool ok, .slice al ln cl, .bool one, .slice ak ln ck, .bool one, .string T, .bool three, .string T, .bool three, t17, t18, t19, t20, t21, t22, t23, t24, t25, t26, t27, t28, t29, t30, t31, t32, t33, t34, t35, t36, t37, t38, t39, t40, t41, t42, t43, t44, t45, t46, t47, .bool true, .bool false, .bool false, .int .i64 n, .int .i64 n, .bool false, .bool false, .bool false, .bool ok, .bool ok, .bool false, .bool false, .bool false, .bool one, .bool one, .bool false, .bool false, .bool false, .slice al ln cl, .int .i64 (ln : Int), .slice ak ln ck, .int .i64 (ln : Int), .bool false, .bool false, .bool false, .string T, .string T, .bool false, .bool false, .bool false, .bool three, .bool three, .bool false, .bool false, .bool false, .agg #[.slice x1 n1 y1, .slice x2 n2 y2], .agg #[.slice x3 n3 y3, .slice x4 n4 y4], .bool β, .agg #[.slice x1 n1 y1, .slice x2 n2 y2], .agg #[.slice x3 n3 y3, .slice x4 n4 y4], .bool β, .bool false, .bool false, t91, t92, t93, t94, t95, t96, t97, t98, t99, t100, t101, t102, t103, t104, t105, t106, t107, t108, t109, t110, t111, t112, t113, t114, t115, t116, t117, t118, t119, t120], defers := [] } w') (hP : ∀ c a d v w, Q (.panic c) (Act.put a d v) w → Q (.panic c) a w) :
    (Code.region 7 #[{ dst := some 48, op := Op.call { callee := Callee.value (Operand.func 10), args := #[], argTypes := #[] }, type := 4, pos := "law.go:108", after := #[], guard := none }, { dst := some 49, op := Op.unOp UnOp.not 4 (Operand.tmp 48), type := 4, pos := "law.go:108", after := #[{ on := 0, ground := Ground.data }], guard := none }, { dst := some 50, op := Op.move (Operand.tmp 49), type := 4, pos := "law.go:108", after := #[{ on := 1, ground := Ground.data }, { on := 0, ground := Ground.chain }], guard := none }, { dst := some 51, op := Op.move (Operand.tmp 5), type := 3, pos := "law.go:108", after := #[{ on := 2, ground := Ground.guard }], guard := some (2, false) }, { dst := some 52, op := Op.move (Operand.tmp 7), type := 3, pos := "law.go:108", after := #[{ on := 2, ground := Ground.guard }], guard := some (2, false) }, { dst := some 53, op := Op.binOp BinOp.neq 3 (Operand.tmp 51) (Operand.tmp 52) 3, type := 4, pos := "law.go:108", after := #[{ on := 3, ground := Ground.data }, { on := 4, ground := Ground.data }, { on := 2, ground := Ground.guard }], guard := some (2, false) }, { dst := some 54, op := Op.pick (Operand.tmp 50) (Operand.const (Value.bool true)) (Operand.tmp 53), type := 4, pos := "law.go:108", after := #[{ on := 2, ground := Ground.data }, { on := 5, ground := Ground.data }], guard := none }, { dst := some 55, op := Op.move (Operand.tmp 54), type := 4, pos := "law.go:108", after := #[{ on := 6, ground := Ground.data }, { on := 2, ground := Ground.chain }], guard := none }, { dst := some 56, op := Op.move (Operand.tmp 6), type := 4, pos := "law.go:108", after := #[{ on := 7, ground := Ground.guard }], guard := some (7, false) }, { dst := some 57, op := Op.move (Operand.tmp 8), type := 4, pos := "law.go:108", after := #[{ on := 7, ground := Ground.guard }], guard := some (7, false) }, { dst := some 58, op := Op.binOp BinOp.neq 4 (Operand.tmp 56) (Operand.tmp 57) 4, type := 4, pos := "law.go:108", after := #[{ on := 8, ground := Ground.data }, { on := 9, ground := Ground.data }, { on := 7, ground := Ground.guard }], guard := some (7, false) }, { dst := some 59, op := Op.pick (Operand.tmp 55) (Operand.const (Value.bool true)) (Operand.tmp 58), type := 4, pos := "law.go:108", after := #[{ on := 7, ground := Ground.data }, { on := 10, ground := Ground.data }], guard := none }, { dst := some 60, op := Op.move (Operand.tmp 59), type := 4, pos := "law.go:108", after := #[{ on := 11, ground := Ground.data }, { on := 7, ground := Ground.chain }], guard := none }, { dst := some 61, op := Op.move (Operand.tmp 10), type := 4, pos := "law.go:108", after := #[{ on := 12, ground := Ground.guard }], guard := some (12, false) }, { dst := some 62, op := Op.move (Operand.tmp 12), type := 4, pos := "law.go:108", after := #[{ on := 12, ground := Ground.guard }], guard := some (12, false) }, { dst := some 63, op := Op.binOp BinOp.neq 4 (Operand.tmp 61) (Operand.tmp 62) 4, type := 4, pos := "law.go:108", after := #[{ on := 13, ground := Ground.data }, { on := 14, ground := Ground.data }, { on := 12, ground := Ground.guard }], guard := some (12, false) }, { dst := some 64, op := Op.pick (Operand.tmp 60) (Operand.const (Value.bool true)) (Operand.tmp 63), type := 4, pos := "law.go:108", after := #[{ on := 12, ground := Ground.data }, { on := 15, ground := Ground.data }], guard := none }, { dst := some 65, op := Op.move (Operand.tmp 64), type := 4, pos := "law.go:108", after := #[{ on := 16, ground := Ground.data }, { on := 12, ground := Ground.chain }], guard := none }, { dst := some 66, op := Op.move (Operand.tmp 9), type := 22, pos := "law.go:108", after := #[{ on := 17, ground := Ground.guard }], guard := some (17, false) }, { dst := some 67, op := Op.call { callee := Callee.builtin Builtin.len, args := #[Operand.tmp 66], argTypes := #[22] }, type := 3, pos := "law.go:108", after := #[{ on := 18, ground := Ground.data }, { on := 17, ground := Ground.guard }], guard := some (17, false) }, { dst := some 68, op := Op.move (Operand.tmp 11), type := 22, pos := "law.go:108", after := #[{ on := 17, ground := Ground.guard }], guard := some (17, false) }, { dst := some 69, op := Op.call { callee := Callee.builtin Builtin.len, args := #[Operand.tmp 68], argTypes := #[22] }, type := 3, pos := "law.go:108", after := #[{ on := 20, ground := Ground.data }, { on := 17, ground := Ground.guard }], guard := some (17, false) }, { dst := some 70, op := Op.binOp BinOp.neq 3 (Operand.tmp 67) (Operand.tmp 69) 3, type := 4, pos := "law.go:108", after := #[{ on := 19, ground := Ground.data }, { on := 21, ground := Ground.data }, { on := 17, ground := Ground.guard }], guard := some (17, false) }, { dst := some 71, op := Op.pick (Operand.tmp 65) (Operand.const (Value.bool true)) (Operand.tmp 70), type := 4, pos := "law.go:108", after := #[{ on := 17, ground := Ground.data }, { on := 22, ground := Ground.data }], guard := none }, { dst := some 72, op := Op.move (Operand.tmp 71), type := 4, pos := "law.go:108", after := #[{ on := 23, ground := Ground.data }, { on := 17, ground := Ground.chain }], guard := none }, { dst := some 73, op := Op.move (Operand.tmp 13), type := 9, pos := "law.go:108", after := #[{ on := 24, ground := Ground.guard }], guard := some (24, false) }, { dst := some 74, op := Op.move (Operand.tmp 15), type := 9, pos := "law.go:108", after := #[{ on := 24, ground := Ground.guard }], guard := some (24, false) }, { dst := some 75, op := Op.binOp BinOp.neq 9 (Operand.tmp 73) (Operand.tmp 74) 9, type := 4, pos := "law.go:108", after := #[{ on := 25, ground := Ground.data }, { on := 26, ground := Ground.data }, { on := 24, ground := Ground.guard }], guard := some (24, false) }, { dst := some 76, op := Op.pick (Operand.tmp 72) (Operand.const (Value.bool true)) (Operand.tmp 75), type := 4, pos := "law.go:108", after := #[{ on := 24, ground := Ground.data }, { on := 27, ground := Ground.data }], guard := none }, { dst := some 77, op := Op.move (Operand.tmp 76), type := 4, pos := "law.go:108", after := #[{ on := 28, ground := Ground.data }, { on := 24, ground := Ground.chain }], guard := none }, { dst := some 78, op := Op.move (Operand.tmp 14), type := 4, pos := "law.go:108", after := #[{ on := 29, ground := Ground.guard }], guard := some (29, false) }, { dst := some 79, op := Op.move (Operand.tmp 16), type := 4, pos := "law.go:108", after := #[{ on := 29, ground := Ground.guard }], guard := some (29, false) }, { dst := some 80, op := Op.binOp BinOp.neq 4 (Operand.tmp 78) (Operand.tmp 79) 4, type := 4, pos := "law.go:108", after := #[{ on := 30, ground := Ground.data }, { on := 31, ground := Ground.data }, { on := 29, ground := Ground.guard }], guard := some (29, false) }, { dst := some 81, op := Op.pick (Operand.tmp 77) (Operand.const (Value.bool true)) (Operand.tmp 80), type := 4, pos := "law.go:108", after := #[{ on := 29, ground := Ground.data }, { on := 32, ground := Ground.data }], guard := none }, { dst := some 82, op := Op.move (Operand.tmp 81), type := 4, pos := "law.go:108", after := #[{ on := 33, ground := Ground.data }, { on := 29, ground := Ground.chain }], guard := none }, { dst := some 83, op := Op.load 25 (Operand.tmp 2), type := 25, pos := "law.go:108", after := #[{ on := 34, ground := Ground.guard }], guard := some (34, false) }, { dst := some 84, op := Op.load 25 (Operand.tmp 3), type := 25, pos := "law.go:108", after := #[{ on := 34, ground := Ground.guard }], guard := some (34, false) }, { dst := some 85, op := Op.call { callee := Callee.value (Operand.func 11), args := #[Operand.tmp 83, Operand.tmp 84], argTypes := #[25, 25] }, type := 4, pos := "law.go:108", after := #[{ on := 35, ground := Ground.data }, { on := 36, ground := Ground.data }, { on := 34, ground := Ground.chain }, { on := 34, ground := Ground.guard }], guard := some (34, false) }, { dst := some 86, op := Op.load 25 (Operand.tmp 2), type := 25, pos := "law.go:108", after := #[{ on := 34, ground := Ground.guard }], guard := some (34, false) }, { dst := some 87, op := Op.load 25 (Operand.tmp 3), type := 25, pos := "law.go:108", after := #[{ on := 34, ground := Ground.guard }], guard := some (34, false) }, { dst := some 88, op := Op.call { callee := Callee.value (Operand.func 12), args := #[Operand.tmp 86, Operand.tmp 87], argTypes := #[25, 25] }, type := 4, pos := "law.go:108", after := #[{ on := 38, ground := Ground.data }, { on := 39, ground := Ground.data }, { on := 37, ground := Ground.chain }, { on := 34, ground := Ground.guard }], guard := some (34, false) }, { dst := some 89, op := Op.binOp BinOp.neq 4 (Operand.tmp 85) (Operand.tmp 88) 4, type := 4, pos := "law.go:108", after := #[{ on := 37, ground := Ground.data }, { on := 40, ground := Ground.data }, { on := 34, ground := Ground.guard }], guard := some (34, false) }, { dst := some 90, op := Op.pick (Operand.tmp 82) (Operand.const (Value.bool true)) (Operand.tmp 89), type := 4, pos := "law.go:108", after := #[{ on := 34, ground := Ground.data }, { on := 41, ground := Ground.data }], guard := none }] true).wp Tryz.prog Q { tmps := #[t0, t1, .pointer (some ⟨ba, 0, none⟩), .pointer (some ⟨bb, 0, none⟩), t4, .int .i64 n, .bool ok, .int .i64 n, .bool ok, .slice al ln cl, .bool one, .slice ak ln ck, .bool one, .string T, .bool three, .string T, .bool three, t17, t18, t19, t20, t21, t22, t23, t24, t25, t26, t27, t28, t29, t30, t31, t32, t33, t34, t35, t36, t37, t38, t39, t40, t41, t42, t43, t44, t45, t46, t47, t48, t49, t50, t51, t52, t53, t54, t55, t56, t57, t58, t59, t60, t61, t62, t63, t64, t65, t66, t67, t68, t69, t70, t71, t72, t73, t74, t75, t76, t77, t78, t79, t80, t81, t82, t83, t84, t85, t86, t87, t88, t89, t90, t91, t92, t93, t94, t95, t96, t97, t98, t99, t100, t101, t102, t103, t104, t105, t106, t107, t108, t109, t110, t111, t112, t113, t114, t115, t116, t117, t118, t119, t120], defers := [] } u := by
  have d0 : Below u.heap.size u u.drew := ⟨rfl, rfl, rfl, Nat.le_refl _, fun _ _ => rfl⟩
  have j0 := HC.out d0
  refine wp_region_held_drew (S := (fun w' => w'.cell? ⟨ba, 0, none⟩ = some (.slice x1 n1 y1) ∧ w'.cell? ⟨ba, 1, none⟩ = some (.slice x2 n2 y2) ∧ w'.cell? ⟨bb, 0, none⟩ = some (.slice x3 n3 y3) ∧ w'.cell? ⟨bb, 1, none⟩ = some (.slice x4 n4 y4))) (by kernel_rfl) j0 (fun hS => ?_)
  refine wpAnyH_ready (rs := [0]) (by kernel_rfl) (by simp) ?_
  refine AllReadyH.cons (o := { dst := some 48, op := Op.call { callee := Callee.value (Operand.func 10), args := #[], argTypes := #[] }, type := 4, pos := "law.go:108", after := #[], guard := none }) rfl (fun K hK => ?_) AllReadyH.nil
  go_simp
  refine (HLv.out _).mono ?_
  rintro e ww1 ⟨rfl, qq1⟩
  have kk1 : Below u.heap.size u ww1 := d0.trans (qq1.mono d0.size)
  have jj1 := HC.out kk1
  go_simp
  refine hK.out _ _ (jj1) (fun _ => ?_)
  clear hK K
  refine wpAnyH_take (i := 1) (oi := { dst := some 49, op := Op.unOp UnOp.not 4 (Operand.tmp 48), type := 4, pos := "law.go:108", after := #[{ on := 0, ground := Ground.data }], guard := none }) (v := .bool false) rfl (by kernel_rfl) (by kernel_rfl) (by kernel_rfl) (fun _ _ _ h => hP _ _ _ _ _ h) (Or.inl ⟨by rfl, (by intro w hSw; (try dsimp only at hSw); go_simp)⟩) (by assumption) ?_
  simp only [Act.put, List.setIfInBounds_toArray, List.set_cons_zero, List.set_cons_succ]
  refine wpAnyH_take (i := 2) (oi := { dst := some 50, op := Op.move (Operand.tmp 49), type := 4, pos := "law.go:108", after := #[{ on := 1, ground := Ground.data }, { on := 0, ground := Ground.chain }], guard := none }) (v := .bool false) rfl (by kernel_rfl) (by kernel_rfl) (by kernel_rfl) (fun _ _ _ h => hP _ _ _ _ _ h) (Or.inl ⟨by rfl, (by intro w hSw; (try dsimp only at hSw); go_simp)⟩) (by assumption) ?_
  simp only [Act.put, List.setIfInBounds_toArray, List.set_cons_zero, List.set_cons_succ]
  refine wpAnyH_take (i := 3) (oi := { dst := some 51, op := Op.move (Operand.tmp 5), type := 3, pos := "law.go:108", after := #[{ on := 2, ground := Ground.guard }], guard := some (2, false) }) (v := .int .i64 n) rfl (by kernel_rfl) (by kernel_rfl) (by kernel_rfl) (fun _ _ _ h => hP _ _ _ _ _ h) (Or.inl ⟨by rfl, (by intro w hSw; (try dsimp only at hSw); go_simp)⟩) (by assumption) ?_
  simp only [Act.put, List.setIfInBounds_toArray, List.set_cons_zero, List.set_cons_succ]
  refine wpAnyH_take (i := 4) (oi := { dst := some 52, op := Op.move (Operand.tmp 7), type := 3, pos := "law.go:108", after := #[{ on := 2, ground := Ground.guard }], guard := some (2, false) }) (v := .int .i64 n) rfl (by kernel_rfl) (by kernel_rfl) (by kernel_rfl) (fun _ _ _ h => hP _ _ _ _ _ h) (Or.inl ⟨by rfl, (by intro w hSw; (try dsimp only at hSw); go_simp)⟩) (by assumption) ?_
  simp only [Act.put, List.setIfInBounds_toArray, List.set_cons_zero, List.set_cons_succ]
  refine wpAnyH_take (i := 5) (oi := { dst := some 53, op := Op.binOp BinOp.neq 3 (Operand.tmp 51) (Operand.tmp 52) 3, type := 4, pos := "law.go:108", after := #[{ on := 3, ground := Ground.data }, { on := 4, ground := Ground.data }, { on := 2, ground := Ground.guard }], guard := some (2, false) }) (v := .bool false) rfl (by kernel_rfl) (by kernel_rfl) (by kernel_rfl) (fun _ _ _ h => hP _ _ _ _ _ h) (Or.inl ⟨by rfl, (by intro w hSw; (try dsimp only at hSw); go_simp)⟩) (by assumption) ?_
  simp only [Act.put, List.setIfInBounds_toArray, List.set_cons_zero, List.set_cons_succ]
  refine wpAnyH_take (i := 6) (oi := { dst := some 54, op := Op.pick (Operand.tmp 50) (Operand.const (Value.bool true)) (Operand.tmp 53), type := 4, pos := "law.go:108", after := #[{ on := 2, ground := Ground.data }, { on := 5, ground := Ground.data }], guard := none }) (v := .bool false) rfl (by kernel_rfl) (by kernel_rfl) (by kernel_rfl) (fun _ _ _ h => hP _ _ _ _ _ h) (Or.inl ⟨by rfl, (by intro w hSw; (try dsimp only at hSw); go_simp)⟩) (by assumption) ?_
  simp only [Act.put, List.setIfInBounds_toArray, List.set_cons_zero, List.set_cons_succ]
  refine wpAnyH_take (i := 7) (oi := { dst := some 55, op := Op.move (Operand.tmp 54), type := 4, pos := "law.go:108", after := #[{ on := 6, ground := Ground.data }, { on := 2, ground := Ground.chain }], guard := none }) (v := .bool false) rfl (by kernel_rfl) (by kernel_rfl) (by kernel_rfl) (fun _ _ _ h => hP _ _ _ _ _ h) (Or.inl ⟨by rfl, (by intro w hSw; (try dsimp only at hSw); go_simp)⟩) (by assumption) ?_
  simp only [Act.put, List.setIfInBounds_toArray, List.set_cons_zero, List.set_cons_succ]
  refine wpAnyH_take (i := 8) (oi := { dst := some 56, op := Op.move (Operand.tmp 6), type := 4, pos := "law.go:108", after := #[{ on := 7, ground := Ground.guard }], guard := some (7, false) }) (v := .bool ok) rfl (by kernel_rfl) (by kernel_rfl) (by kernel_rfl) (fun _ _ _ h => hP _ _ _ _ _ h) (Or.inl ⟨by rfl, (by intro w hSw; (try dsimp only at hSw); go_simp)⟩) (by assumption) ?_
  simp only [Act.put, List.setIfInBounds_toArray, List.set_cons_zero, List.set_cons_succ]
  refine wpAnyH_take (i := 9) (oi := { dst := some 57, op := Op.move (Operand.tmp 8), type := 4, pos := "law.go:108", after := #[{ on := 7, ground := Ground.guard }], guard := some (7, false) }) (v := .bool ok) rfl (by kernel_rfl) (by kernel_rfl) (by kernel_rfl) (fun _ _ _ h => hP _ _ _ _ _ h) (Or.inl ⟨by rfl, (by intro w hSw; (try dsimp only at hSw); go_simp)⟩) (by assumption) ?_
  simp only [Act.put, List.setIfInBounds_toArray, List.set_cons_zero, List.set_cons_succ]
  refine wpAnyH_take (i := 10) (oi := { dst := some 58, op := Op.binOp BinOp.neq 4 (Operand.tmp 56) (Operand.tmp 57) 4, type := 4, pos := "law.go:108", after := #[{ on := 8, ground := Ground.data }, { on := 9, ground := Ground.data }, { on := 7, ground := Ground.guard }], guard := some (7, false) }) (v := .bool false) rfl (by kernel_rfl) (by kernel_rfl) (by kernel_rfl) (fun _ _ _ h => hP _ _ _ _ _ h) (Or.inl ⟨by rfl, (by intro w hSw; (try dsimp only at hSw); go_simp)⟩) (by assumption) ?_
  simp only [Act.put, List.setIfInBounds_toArray, List.set_cons_zero, List.set_cons_succ]
  refine wpAnyH_take (i := 11) (oi := { dst := some 59, op := Op.pick (Operand.tmp 55) (Operand.const (Value.bool true)) (Operand.tmp 58), type := 4, pos := "law.go:108", after := #[{ on := 7, ground := Ground.data }, { on := 10, ground := Ground.data }], guard := none }) (v := .bool false) rfl (by kernel_rfl) (by kernel_rfl) (by kernel_rfl) (fun _ _ _ h => hP _ _ _ _ _ h) (Or.inl ⟨by rfl, (by intro w hSw; (try dsimp only at hSw); go_simp)⟩) (by assumption) ?_
  simp only [Act.put, List.setIfInBounds_toArray, List.set_cons_zero, List.set_cons_succ]
  refine wpAnyH_take (i := 12) (oi := { dst := some 60, op := Op.move (Operand.tmp 59), type := 4, pos := "law.go:108", after := #[{ on := 11, ground := Ground.data }, { on := 7, ground := Ground.chain }], guard := none }) (v := .bool false) rfl (by kernel_rfl) (by kernel_rfl) (by kernel_rfl) (fun _ _ _ h => hP _ _ _ _ _ h) (Or.inl ⟨by rfl, (by intro w hSw; (try dsimp only at hSw); go_simp)⟩) (by assumption) ?_
  simp only [Act.put, List.setIfInBounds_toArray, List.set_cons_zero, List.set_cons_succ]
  refine wpAnyH_take (i := 13) (oi := { dst := some 61, op := Op.move (Operand.tmp 10), type := 4, pos := "law.go:108", after := #[{ on := 12, ground := Ground.guard }], guard := some (12, false) }) (v := .bool one) rfl (by kernel_rfl) (by kernel_rfl) (by kernel_rfl) (fun _ _ _ h => hP _ _ _ _ _ h) (Or.inl ⟨by rfl, (by intro w hSw; (try dsimp only at hSw); go_simp)⟩) (by assumption) ?_
  simp only [Act.put, List.setIfInBounds_toArray, List.set_cons_zero, List.set_cons_succ]
  refine wpAnyH_take (i := 14) (oi := { dst := some 62, op := Op.move (Operand.tmp 12), type := 4, pos := "law.go:108", after := #[{ on := 12, ground := Ground.guard }], guard := some (12, false) }) (v := .bool one) rfl (by kernel_rfl) (by kernel_rfl) (by kernel_rfl) (fun _ _ _ h => hP _ _ _ _ _ h) (Or.inl ⟨by rfl, (by intro w hSw; (try dsimp only at hSw); go_simp)⟩) (by assumption) ?_
  simp only [Act.put, List.setIfInBounds_toArray, List.set_cons_zero, List.set_cons_succ]
  refine wpAnyH_take (i := 15) (oi := { dst := some 63, op := Op.binOp BinOp.neq 4 (Operand.tmp 61) (Operand.tmp 62) 4, type := 4, pos := "law.go:108", after := #[{ on := 13, ground := Ground.data }, { on := 14, ground := Ground.data }, { on := 12, ground := Ground.guard }], guard := some (12, false) }) (v := .bool false) rfl (by kernel_rfl) (by kernel_rfl) (by kernel_rfl) (fun _ _ _ h => hP _ _ _ _ _ h) (Or.inl ⟨by rfl, (by intro w hSw; (try dsimp only at hSw); go_simp)⟩) (by assumption) ?_
  simp only [Act.put, List.setIfInBounds_toArray, List.set_cons_zero, List.set_cons_succ]
  refine wpAnyH_take (i := 16) (oi := { dst := some 64, op := Op.pick (Operand.tmp 60) (Operand.const (Value.bool true)) (Operand.tmp 63), type := 4, pos := "law.go:108", after := #[{ on := 12, ground := Ground.data }, { on := 15, ground := Ground.data }], guard := none }) (v := .bool false) rfl (by kernel_rfl) (by kernel_rfl) (by kernel_rfl) (fun _ _ _ h => hP _ _ _ _ _ h) (Or.inl ⟨by rfl, (by intro w hSw; (try dsimp only at hSw); go_simp)⟩) (by assumption) ?_
  simp only [Act.put, List.setIfInBounds_toArray, List.set_cons_zero, List.set_cons_succ]
  refine wpAnyH_take (i := 17) (oi := { dst := some 65, op := Op.move (Operand.tmp 64), type := 4, pos := "law.go:108", after := #[{ on := 16, ground := Ground.data }, { on := 12, ground := Ground.chain }], guard := none }) (v := .bool false) rfl (by kernel_rfl) (by kernel_rfl) (by kernel_rfl) (fun _ _ _ h => hP _ _ _ _ _ h) (Or.inl ⟨by rfl, (by intro w hSw; (try dsimp only at hSw); go_simp)⟩) (by assumption) ?_
  simp only [Act.put, List.setIfInBounds_toArray, List.set_cons_zero, List.set_cons_succ]
  refine wpAnyH_take (i := 18) (oi := { dst := some 66, op := Op.move (Operand.tmp 9), type := 22, pos := "law.go:108", after := #[{ on := 17, ground := Ground.guard }], guard := some (17, false) }) (v := .slice al ln cl) rfl (by kernel_rfl) (by kernel_rfl) (by kernel_rfl) (fun _ _ _ h => hP _ _ _ _ _ h) (Or.inl ⟨by rfl, (by intro w hSw; (try dsimp only at hSw); go_simp)⟩) (by assumption) ?_
  simp only [Act.put, List.setIfInBounds_toArray, List.set_cons_zero, List.set_cons_succ]
  refine wpAnyH_take (i := 19) (oi := { dst := some 67, op := Op.call { callee := Callee.builtin Builtin.len, args := #[Operand.tmp 66], argTypes := #[22] }, type := 3, pos := "law.go:108", after := #[{ on := 18, ground := Ground.data }, { on := 17, ground := Ground.guard }], guard := some (17, false) }) (v := .int .i64 (ln : Int)) rfl (by kernel_rfl) (by kernel_rfl) (by kernel_rfl) (fun _ _ _ h => hP _ _ _ _ _ h) (Or.inl ⟨by rfl, (by intro w hSw; (try dsimp only at hSw); go_simp)⟩) (by assumption) ?_
  simp only [Act.put, List.setIfInBounds_toArray, List.set_cons_zero, List.set_cons_succ]
  refine wpAnyH_take (i := 20) (oi := { dst := some 68, op := Op.move (Operand.tmp 11), type := 22, pos := "law.go:108", after := #[{ on := 17, ground := Ground.guard }], guard := some (17, false) }) (v := .slice ak ln ck) rfl (by kernel_rfl) (by kernel_rfl) (by kernel_rfl) (fun _ _ _ h => hP _ _ _ _ _ h) (Or.inl ⟨by rfl, (by intro w hSw; (try dsimp only at hSw); go_simp)⟩) (by assumption) ?_
  simp only [Act.put, List.setIfInBounds_toArray, List.set_cons_zero, List.set_cons_succ]
  refine wpAnyH_take (i := 21) (oi := { dst := some 69, op := Op.call { callee := Callee.builtin Builtin.len, args := #[Operand.tmp 68], argTypes := #[22] }, type := 3, pos := "law.go:108", after := #[{ on := 20, ground := Ground.data }, { on := 17, ground := Ground.guard }], guard := some (17, false) }) (v := .int .i64 (ln : Int)) rfl (by kernel_rfl) (by kernel_rfl) (by kernel_rfl) (fun _ _ _ h => hP _ _ _ _ _ h) (Or.inl ⟨by rfl, (by intro w hSw; (try dsimp only at hSw); go_simp)⟩) (by assumption) ?_
  simp only [Act.put, List.setIfInBounds_toArray, List.set_cons_zero, List.set_cons_succ]
  refine wpAnyH_take (i := 22) (oi := { dst := some 70, op := Op.binOp BinOp.neq 3 (Operand.tmp 67) (Operand.tmp 69) 3, type := 4, pos := "law.go:108", after := #[{ on := 19, ground := Ground.data }, { on := 21, ground := Ground.data }, { on := 17, ground := Ground.guard }], guard := some (17, false) }) (v := .bool false) rfl (by kernel_rfl) (by kernel_rfl) (by kernel_rfl) (fun _ _ _ h => hP _ _ _ _ _ h) (Or.inl ⟨by rfl, (by intro w hSw; (try dsimp only at hSw); go_simp)⟩) (by assumption) ?_
  simp only [Act.put, List.setIfInBounds_toArray, List.set_cons_zero, List.set_cons_succ]
  refine wpAnyH_take (i := 23) (oi := { dst := some 71, op := Op.pick (Operand.tmp 65) (Operand.const (Value.bool true)) (Operand.tmp 70), type := 4, pos := "law.go:108", after := #[{ on := 17, ground := Ground.data }, { on := 22, ground := Ground.data }], guard := none }) (v := .bool false) rfl (by kernel_rfl) (by kernel_rfl) (by kernel_rfl) (fun _ _ _ h => hP _ _ _ _ _ h) (Or.inl ⟨by rfl, (by intro w hSw; (try dsimp only at hSw); go_simp)⟩) (by assumption) ?_
  simp only [Act.put, List.setIfInBounds_toArray, List.set_cons_zero, List.set_cons_succ]
  refine wpAnyH_take (i := 24) (oi := { dst := some 72, op := Op.move (Operand.tmp 71), type := 4, pos := "law.go:108", after := #[{ on := 23, ground := Ground.data }, { on := 17, ground := Ground.chain }], guard := none }) (v := .bool false) rfl (by kernel_rfl) (by kernel_rfl) (by kernel_rfl) (fun _ _ _ h => hP _ _ _ _ _ h) (Or.inl ⟨by rfl, (by intro w hSw; (try dsimp only at hSw); go_simp)⟩) (by assumption) ?_
  simp only [Act.put, List.setIfInBounds_toArray, List.set_cons_zero, List.set_cons_succ]
  refine wpAnyH_take (i := 25) (oi := { dst := some 73, op := Op.move (Operand.tmp 13), type := 9, pos := "law.go:108", after := #[{ on := 24, ground := Ground.guard }], guard := some (24, false) }) (v := .string T) rfl (by kernel_rfl) (by kernel_rfl) (by kernel_rfl) (fun _ _ _ h => hP _ _ _ _ _ h) (Or.inl ⟨by rfl, (by intro w hSw; (try dsimp only at hSw); go_simp)⟩) (by assumption) ?_
  simp only [Act.put, List.setIfInBounds_toArray, List.set_cons_zero, List.set_cons_succ]
  refine wpAnyH_take (i := 26) (oi := { dst := some 74, op := Op.move (Operand.tmp 15), type := 9, pos := "law.go:108", after := #[{ on := 24, ground := Ground.guard }], guard := some (24, false) }) (v := .string T) rfl (by kernel_rfl) (by kernel_rfl) (by kernel_rfl) (fun _ _ _ h => hP _ _ _ _ _ h) (Or.inl ⟨by rfl, (by intro w hSw; (try dsimp only at hSw); go_simp)⟩) (by assumption) ?_
  simp only [Act.put, List.setIfInBounds_toArray, List.set_cons_zero, List.set_cons_succ]
  refine wpAnyH_take (i := 27) (oi := { dst := some 75, op := Op.binOp BinOp.neq 9 (Operand.tmp 73) (Operand.tmp 74) 9, type := 4, pos := "law.go:108", after := #[{ on := 25, ground := Ground.data }, { on := 26, ground := Ground.data }, { on := 24, ground := Ground.guard }], guard := some (24, false) }) (v := .bool false) rfl (by kernel_rfl) (by kernel_rfl) (by kernel_rfl) (fun _ _ _ h => hP _ _ _ _ _ h) (Or.inl ⟨by rfl, (by intro w hSw; (try dsimp only at hSw); go_simp)⟩) (by assumption) ?_
  simp only [Act.put, List.setIfInBounds_toArray, List.set_cons_zero, List.set_cons_succ]
  refine wpAnyH_take (i := 28) (oi := { dst := some 76, op := Op.pick (Operand.tmp 72) (Operand.const (Value.bool true)) (Operand.tmp 75), type := 4, pos := "law.go:108", after := #[{ on := 24, ground := Ground.data }, { on := 27, ground := Ground.data }], guard := none }) (v := .bool false) rfl (by kernel_rfl) (by kernel_rfl) (by kernel_rfl) (fun _ _ _ h => hP _ _ _ _ _ h) (Or.inl ⟨by rfl, (by intro w hSw; (try dsimp only at hSw); go_simp)⟩) (by assumption) ?_
  simp only [Act.put, List.setIfInBounds_toArray, List.set_cons_zero, List.set_cons_succ]
  refine wpAnyH_take (i := 29) (oi := { dst := some 77, op := Op.move (Operand.tmp 76), type := 4, pos := "law.go:108", after := #[{ on := 28, ground := Ground.data }, { on := 24, ground := Ground.chain }], guard := none }) (v := .bool false) rfl (by kernel_rfl) (by kernel_rfl) (by kernel_rfl) (fun _ _ _ h => hP _ _ _ _ _ h) (Or.inl ⟨by rfl, (by intro w hSw; (try dsimp only at hSw); go_simp)⟩) (by assumption) ?_
  simp only [Act.put, List.setIfInBounds_toArray, List.set_cons_zero, List.set_cons_succ]
  refine wpAnyH_take (i := 30) (oi := { dst := some 78, op := Op.move (Operand.tmp 14), type := 4, pos := "law.go:108", after := #[{ on := 29, ground := Ground.guard }], guard := some (29, false) }) (v := .bool three) rfl (by kernel_rfl) (by kernel_rfl) (by kernel_rfl) (fun _ _ _ h => hP _ _ _ _ _ h) (Or.inl ⟨by rfl, (by intro w hSw; (try dsimp only at hSw); go_simp)⟩) (by assumption) ?_
  simp only [Act.put, List.setIfInBounds_toArray, List.set_cons_zero, List.set_cons_succ]
  refine wpAnyH_take (i := 31) (oi := { dst := some 79, op := Op.move (Operand.tmp 16), type := 4, pos := "law.go:108", after := #[{ on := 29, ground := Ground.guard }], guard := some (29, false) }) (v := .bool three) rfl (by kernel_rfl) (by kernel_rfl) (by kernel_rfl) (fun _ _ _ h => hP _ _ _ _ _ h) (Or.inl ⟨by rfl, (by intro w hSw; (try dsimp only at hSw); go_simp)⟩) (by assumption) ?_
  simp only [Act.put, List.setIfInBounds_toArray, List.set_cons_zero, List.set_cons_succ]
  refine wpAnyH_take (i := 32) (oi := { dst := some 80, op := Op.binOp BinOp.neq 4 (Operand.tmp 78) (Operand.tmp 79) 4, type := 4, pos := "law.go:108", after := #[{ on := 30, ground := Ground.data }, { on := 31, ground := Ground.data }, { on := 29, ground := Ground.guard }], guard := some (29, false) }) (v := .bool false) rfl (by kernel_rfl) (by kernel_rfl) (by kernel_rfl) (fun _ _ _ h => hP _ _ _ _ _ h) (Or.inl ⟨by rfl, (by intro w hSw; (try dsimp only at hSw); go_simp)⟩) (by assumption) ?_
  simp only [Act.put, List.setIfInBounds_toArray, List.set_cons_zero, List.set_cons_succ]
  refine wpAnyH_take (i := 33) (oi := { dst := some 81, op := Op.pick (Operand.tmp 77) (Operand.const (Value.bool true)) (Operand.tmp 80), type := 4, pos := "law.go:108", after := #[{ on := 29, ground := Ground.data }, { on := 32, ground := Ground.data }], guard := none }) (v := .bool false) rfl (by kernel_rfl) (by kernel_rfl) (by kernel_rfl) (fun _ _ _ h => hP _ _ _ _ _ h) (Or.inl ⟨by rfl, (by intro w hSw; (try dsimp only at hSw); go_simp)⟩) (by assumption) ?_
  simp only [Act.put, List.setIfInBounds_toArray, List.set_cons_zero, List.set_cons_succ]
  refine wpAnyH_take (i := 34) (oi := { dst := some 82, op := Op.move (Operand.tmp 81), type := 4, pos := "law.go:108", after := #[{ on := 33, ground := Ground.data }, { on := 29, ground := Ground.chain }], guard := none }) (v := .bool false) rfl (by kernel_rfl) (by kernel_rfl) (by kernel_rfl) (fun _ _ _ h => hP _ _ _ _ _ h) (Or.inl ⟨by rfl, (by intro w hSw; (try dsimp only at hSw); go_simp)⟩) (by assumption) ?_
  simp only [Act.put, List.setIfInBounds_toArray, List.set_cons_zero, List.set_cons_succ]
  refine wpAnyH_take (i := 35) (oi := { dst := some 83, op := Op.load 25 (Operand.tmp 2), type := 25, pos := "law.go:108", after := #[{ on := 34, ground := Ground.guard }], guard := some (34, false) }) (v := .agg #[.slice x1 n1 y1, .slice x2 n2 y2]) rfl (by kernel_rfl) (by kernel_rfl) (by kernel_rfl) (fun _ _ _ h => hP _ _ _ _ _ h) (Or.inl ⟨by rfl, (by intro w hSw; (try dsimp only at hSw); go_simp)⟩) (by assumption) ?_
  simp only [Act.put, List.setIfInBounds_toArray, List.set_cons_zero, List.set_cons_succ]
  refine wpAnyH_take (i := 36) (oi := { dst := some 84, op := Op.load 25 (Operand.tmp 3), type := 25, pos := "law.go:108", after := #[{ on := 34, ground := Ground.guard }], guard := some (34, false) }) (v := .agg #[.slice x3 n3 y3, .slice x4 n4 y4]) rfl (by kernel_rfl) (by kernel_rfl) (by kernel_rfl) (fun _ _ _ h => hP _ _ _ _ _ h) (Or.inl ⟨by rfl, (by intro w hSw; (try dsimp only at hSw); go_simp)⟩) (by assumption) ?_
  simp only [Act.put, List.setIfInBounds_toArray, List.set_cons_zero, List.set_cons_succ]
  refine wpAnyH_take (i := 38) (oi := { dst := some 86, op := Op.load 25 (Operand.tmp 2), type := 25, pos := "law.go:108", after := #[{ on := 34, ground := Ground.guard }], guard := some (34, false) }) (v := .agg #[.slice x1 n1 y1, .slice x2 n2 y2]) rfl (by kernel_rfl) (by kernel_rfl) (by kernel_rfl) (fun _ _ _ h => hP _ _ _ _ _ h) (Or.inl ⟨by rfl, (by intro w hSw; (try dsimp only at hSw); go_simp)⟩) (by assumption) ?_
  simp only [Act.put, List.setIfInBounds_toArray, List.set_cons_zero, List.set_cons_succ]
  refine wpAnyH_take (i := 39) (oi := { dst := some 87, op := Op.load 25 (Operand.tmp 3), type := 25, pos := "law.go:108", after := #[{ on := 34, ground := Ground.guard }], guard := some (34, false) }) (v := .agg #[.slice x3 n3 y3, .slice x4 n4 y4]) rfl (by kernel_rfl) (by kernel_rfl) (by kernel_rfl) (fun _ _ _ h => hP _ _ _ _ _ h) (Or.inl ⟨by rfl, (by intro w hSw; (try dsimp only at hSw); go_simp)⟩) (by assumption) ?_
  simp only [Act.put, List.setIfInBounds_toArray, List.set_cons_zero, List.set_cons_succ]
  refine wpAnyH_ready (rs := [37]) (by kernel_rfl) (by simp) ?_
  refine AllReadyH.cons (o := { dst := some 85, op := Op.call { callee := Callee.value (Operand.func 11), args := #[Operand.tmp 83, Operand.tmp 84], argTypes := #[25, 25] }, type := 4, pos := "law.go:108", after := #[{ on := 35, ground := Ground.data }, { on := 36, ground := Ground.data }, { on := 34, ground := Ground.chain }, { on := 34, ground := Ground.guard }], guard := some (34, false) }) rfl (fun K hK => ?_) AllReadyH.nil
  go_simp
  refine (KM.out _ kk1).mono ?_
  rintro e ww2 ⟨⟨β, rfl, hβ⟩, qq2⟩
  have kk2 : Below u.heap.size u ww2 := kk1.trans (qq2.mono kk1.size)
  have jj2 := HC.out kk2
  go_simp
  refine hK.out _ _ (jj2) (fun _ => ?_)
  clear hK K
  refine wpAnyH_ready (rs := [40]) (by kernel_rfl) (by simp) ?_
  refine AllReadyH.cons (o := { dst := some 88, op := Op.call { callee := Callee.value (Operand.func 12), args := #[Operand.tmp 86, Operand.tmp 87], argTypes := #[25, 25] }, type := 4, pos := "law.go:108", after := #[{ on := 38, ground := Ground.data }, { on := 39, ground := Ground.data }, { on := 37, ground := Ground.chain }, { on := 34, ground := Ground.guard }], guard := some (34, false) }) rfl (fun K hK => ?_) AllReadyH.nil
  go_simp
  refine (KN.out _ kk2).mono ?_
  rintro e ww3 ⟨⟨β', rfl, hβ'⟩, qq3⟩
  have kk3 : Below u.heap.size u ww3 := kk2.trans (qq3.mono kk2.size)
  have jj3 := HC.out kk3
  obtain rfl : β' = β := bool_same hβ hβ'
  go_simp
  refine hK.out _ _ (jj3) (fun _ => ?_)
  clear hK K
  refine wpAnyH_take (i := 41) (oi := { dst := some 89, op := Op.binOp BinOp.neq 4 (Operand.tmp 85) (Operand.tmp 88) 4, type := 4, pos := "law.go:108", after := #[{ on := 37, ground := Ground.data }, { on := 40, ground := Ground.data }, { on := 34, ground := Ground.guard }], guard := some (34, false) }) (v := .bool false) rfl (by kernel_rfl) (by kernel_rfl) (by kernel_rfl) (fun _ _ _ h => hP _ _ _ _ _ h) (Or.inl ⟨by rfl, (by intro w hSw; (try dsimp only at hSw); go_simp)⟩) (by assumption) ?_
  simp only [Act.put, List.setIfInBounds_toArray, List.set_cons_zero, List.set_cons_succ]
  refine wpAnyH_take (i := 42) (oi := { dst := some 90, op := Op.pick (Operand.tmp 82) (Operand.const (Value.bool true)) (Operand.tmp 89), type := 4, pos := "law.go:108", after := #[{ on := 34, ground := Ground.data }, { on := 41, ground := Ground.data }], guard := none }) (v := .bool false) rfl (by kernel_rfl) (by kernel_rfl) (by kernel_rfl) (fun _ _ _ h => hP _ _ _ _ _ h) (Or.inl ⟨by rfl, (by intro w hSw; (try dsimp only at hSw); go_simp)⟩) (by assumption) ?_
  simp only [Act.put, List.setIfInBounds_toArray, List.set_cons_zero, List.set_cons_succ]
  refine wpAnyH_done (by kernel_rfl) ?_ _
  exact hQ _ _ kk3
set_option maxRecDepth 100000 in
set_option maxHeartbeats 16000000 in
theorem tells_last {u : World} {P R : Prop} {ba bb : Nat} {x1 : Option Addr} {n1 y1 : Nat} {x2 : Option Addr} {n2 y2 : Nat} {x3 : Option Addr} {n3 y3 : Nat} {x4 : Option Addr} {n4 y4 : Nat} {Q : Exit → Act → World → Prop} {t0 t1 t4 t5 t6 t7 t8 t9 t10 t11 t12 t13 t14 t15 t16 t17 t18 t19 t20 t21 t22 t23 t24 t25 t26 t27 t28 t29 t30 t31 t32 t33 t34 t35 t36 t37 t38 t39 t40 t41 t42 t43 t44 t45 t46 t47 t48 t49 t50 t51 t52 t53 t54 t55 t56 t57 t58 t59 t60 t61 t62 t63 t64 t65 t66 t67 t68 t69 t70 t71 t72 t73 t74 t75 t76 t77 t78 t79 t80 t81 t82 t83 t84 t85 t86 t87 t88 t89 t90 t91 t92 t93 t94 t95 t96 t97 t98 t99 t100 t101 t102 t103 t104 t105 t106 t107 t108 t109 t110 t111 t112 t113 t114 t115 t116 t117 t118 t119 t120 : Value}
    (HC : Hid (∀ {w' : World}, Below u.heap.size u w' → (w'.cell? ⟨ba, 0, none⟩ = some (.slice x1 n1 y1) ∧ w'.cell? ⟨ba, 1, none⟩ = some (.slice x2 n2 y2) ∧ w'.cell? ⟨bb, 0, none⟩ = some (.slice x3 n3 y3) ∧ w'.cell? ⟨bb, 1, none⟩ = some (.slice x4 n4 y4)))) (KBA : KAns u 11 #[.agg #[.slice x3 n3 y3, .slice x4 n4 y4], .agg #[.slice x1 n1 y1, .slice x2 n2 y2]] P) (KAB : KAns u 11 #[.agg #[.slice x1 n1 y1, .slice x2 n2 y2], .agg #[.slice x3 n3 y3, .slice x4 n4 y4]] P) (KAA : KAns u 11 #[.agg #[.slice x1 n1 y1, .slice x2 n2 y2], .agg #[.slice x1 n1 y1, .slice x2 n2 y2]] R) (KR : KAns u 13 #[.agg #[.slice x1 n1 y1, .slice x2 n2 y2]] R)
    (hQ : ∀ (a : Act) w', a.tmps[4]? = some (.bool true) → a.defers = [] → a.tmps.size = 121 → Below u.heap.size u w' → Q .normal a w') (hP : ∀ c a d v w, Q (.panic c) (Act.put a d v) w → Q (.panic c) a w) :
    (Code.region 14 #[{ dst := some 106, op := Op.load 25 (Operand.tmp 3), type := 25, pos := "law.go:116", after := #[], guard := none }, { dst := some 107, op := Op.load 25 (Operand.tmp 2), type := 25, pos := "law.go:116", after := #[], guard := none }, { dst := some 108, op := Op.call { callee := Callee.value (Operand.func 11), args := #[Operand.tmp 106, Operand.tmp 107], argTypes := #[25, 25] }, type := 4, pos := "law.go:116", after := #[{ on := 0, ground := Ground.data }, { on := 1, ground := Ground.data }], guard := none }, { dst := some 109, op := Op.load 25 (Operand.tmp 2), type := 25, pos := "law.go:116", after := #[], guard := none }, { dst := some 110, op := Op.load 25 (Operand.tmp 3), type := 25, pos := "law.go:116", after := #[], guard := none }, { dst := some 111, op := Op.call { callee := Callee.value (Operand.func 11), args := #[Operand.tmp 109, Operand.tmp 110], argTypes := #[25, 25] }, type := 4, pos := "law.go:116", after := #[{ on := 3, ground := Ground.data }, { on := 4, ground := Ground.data }, { on := 2, ground := Ground.chain }], guard := none }, { dst := some 112, op := Op.binOp BinOp.eql 4 (Operand.tmp 108) (Operand.tmp 111) 4, type := 4, pos := "law.go:116", after := #[{ on := 2, ground := Ground.data }, { on := 5, ground := Ground.data }], guard := none }, { dst := some 113, op := Op.move (Operand.tmp 112), type := 4, pos := "law.go:116", after := #[{ on := 6, ground := Ground.data }, { on := 5, ground := Ground.chain }], guard := none }, { dst := some 114, op := Op.load 25 (Operand.tmp 2), type := 25, pos := "law.go:116", after := #[{ on := 7, ground := Ground.guard }], guard := some (7, true) }, { dst := some 115, op := Op.load 25 (Operand.tmp 2), type := 25, pos := "law.go:116", after := #[{ on := 7, ground := Ground.guard }], guard := some (7, true) }, { dst := some 116, op := Op.call { callee := Callee.value (Operand.func 11), args := #[Operand.tmp 114, Operand.tmp 115], argTypes := #[25, 25] }, type := 4, pos := "law.go:116", after := #[{ on := 8, ground := Ground.data }, { on := 9, ground := Ground.data }, { on := 7, ground := Ground.chain }, { on := 7, ground := Ground.guard }], guard := some (7, true) }, { dst := some 117, op := Op.load 25 (Operand.tmp 2), type := 25, pos := "law.go:116", after := #[{ on := 7, ground := Ground.guard }], guard := some (7, true) }, { dst := some 118, op := Op.call { callee := Callee.value (Operand.func 13), args := #[Operand.tmp 117], argTypes := #[25] }, type := 4, pos := "law.go:116", after := #[{ on := 11, ground := Ground.data }, { on := 10, ground := Ground.chain }, { on := 7, ground := Ground.guard }], guard := some (7, true) }, { dst := some 119, op := Op.binOp BinOp.eql 4 (Operand.tmp 116) (Operand.tmp 118) 4, type := 4, pos := "law.go:116", after := #[{ on := 10, ground := Ground.data }, { on := 12, ground := Ground.data }, { on := 7, ground := Ground.guard }], guard := some (7, true) }, { dst := some 120, op := Op.pick (Operand.tmp 113) (Operand.tmp 119) (Operand.const (Value.bool false)), type := 4, pos := "law.go:116", after := #[{ on := 7, ground := Ground.data }, { on := 13, ground := Ground.data }], guard := none }, { dst := some 4, op := Op.assign (Operand.tmp 120), type := 4, pos := "law.go:116", after := #[{ on := 14, ground := Ground.data }, { on := 12, ground := Ground.chain }, { on := 0, ground := Ground.phase }, { on := 1, ground := Ground.phase }, { on := 2, ground := Ground.phase }, { on := 3, ground := Ground.phase }, { on := 4, ground := Ground.phase }, { on := 5, ground := Ground.phase }, { on := 6, ground := Ground.phase }, { on := 7, ground := Ground.phase }, { on := 8, ground := Ground.phase }, { on := 9, ground := Ground.phase }, { on := 10, ground := Ground.phase }, { on := 11, ground := Ground.phase }, { on := 12, ground := Ground.phase }, { on := 13, ground := Ground.phase }, { on := 14, ground := Ground.phase }], guard := none }] true).wp Tryz.prog Q { tmps := #[t0, t1, .pointer (some ⟨ba, 0, none⟩), .pointer (some ⟨bb, 0, none⟩), t4, t5, t6, t7, t8, t9, t10, t11, t12, t13, t14, t15, t16, t17, t18, t19, t20, t21, t22, t23, t24, t25, t26, t27, t28, t29, t30, t31, t32, t33, t34, t35, t36, t37, t38, t39, t40, t41, t42, t43, t44, t45, t46, t47, t48, t49, t50, t51, t52, t53, t54, t55, t56, t57, t58, t59, t60, t61, t62, t63, t64, t65, t66, t67, t68, t69, t70, t71, t72, t73, t74, t75, t76, t77, t78, t79, t80, t81, t82, t83, t84, t85, t86, t87, t88, t89, t90, t91, t92, t93, t94, t95, t96, t97, t98, t99, t100, t101, t102, t103, t104, t105, t106, t107, t108, t109, t110, t111, t112, t113, t114, t115, t116, t117, t118, t119, t120], defers := [] } u := by
  have d0 : Below u.heap.size u u.drew := ⟨rfl, rfl, rfl, Nat.le_refl _, fun _ _ => rfl⟩
  have j0 := HC.out d0
  refine wp_region_held_drew (S := (fun w' => w'.cell? ⟨ba, 0, none⟩ = some (.slice x1 n1 y1) ∧ w'.cell? ⟨ba, 1, none⟩ = some (.slice x2 n2 y2) ∧ w'.cell? ⟨bb, 0, none⟩ = some (.slice x3 n3 y3) ∧ w'.cell? ⟨bb, 1, none⟩ = some (.slice x4 n4 y4))) (by kernel_rfl) j0 (fun hS => ?_)
  refine wpAnyH_take (i := 0) (oi := { dst := some 106, op := Op.load 25 (Operand.tmp 3), type := 25, pos := "law.go:116", after := #[], guard := none }) (v := .agg #[.slice x3 n3 y3, .slice x4 n4 y4]) rfl (by kernel_rfl) (by kernel_rfl) (by kernel_rfl) (fun _ _ _ h => hP _ _ _ _ _ h) (Or.inl ⟨by rfl, (by intro w hSw; (try dsimp only at hSw); go_simp)⟩) (by assumption) ?_
  simp only [Act.put, List.setIfInBounds_toArray, List.set_cons_zero, List.set_cons_succ]
  refine wpAnyH_take (i := 1) (oi := { dst := some 107, op := Op.load 25 (Operand.tmp 2), type := 25, pos := "law.go:116", after := #[], guard := none }) (v := .agg #[.slice x1 n1 y1, .slice x2 n2 y2]) rfl (by kernel_rfl) (by kernel_rfl) (by kernel_rfl) (fun _ _ _ h => hP _ _ _ _ _ h) (Or.inl ⟨by rfl, (by intro w hSw; (try dsimp only at hSw); go_simp)⟩) (by assumption) ?_
  simp only [Act.put, List.setIfInBounds_toArray, List.set_cons_zero, List.set_cons_succ]
  refine wpAnyH_take (i := 3) (oi := { dst := some 109, op := Op.load 25 (Operand.tmp 2), type := 25, pos := "law.go:116", after := #[], guard := none }) (v := .agg #[.slice x1 n1 y1, .slice x2 n2 y2]) rfl (by kernel_rfl) (by kernel_rfl) (by kernel_rfl) (fun _ _ _ h => hP _ _ _ _ _ h) (Or.inl ⟨by rfl, (by intro w hSw; (try dsimp only at hSw); go_simp)⟩) (by assumption) ?_
  simp only [Act.put, List.setIfInBounds_toArray, List.set_cons_zero, List.set_cons_succ]
  refine wpAnyH_take (i := 4) (oi := { dst := some 110, op := Op.load 25 (Operand.tmp 3), type := 25, pos := "law.go:116", after := #[], guard := none }) (v := .agg #[.slice x3 n3 y3, .slice x4 n4 y4]) rfl (by kernel_rfl) (by kernel_rfl) (by kernel_rfl) (fun _ _ _ h => hP _ _ _ _ _ h) (Or.inl ⟨by rfl, (by intro w hSw; (try dsimp only at hSw); go_simp)⟩) (by assumption) ?_
  simp only [Act.put, List.setIfInBounds_toArray, List.set_cons_zero, List.set_cons_succ]
  refine wpAnyH_ready (rs := [2]) (by kernel_rfl) (by simp) ?_
  refine AllReadyH.cons (o := { dst := some 108, op := Op.call { callee := Callee.value (Operand.func 11), args := #[Operand.tmp 106, Operand.tmp 107], argTypes := #[25, 25] }, type := 4, pos := "law.go:116", after := #[{ on := 0, ground := Ground.data }, { on := 1, ground := Ground.data }], guard := none }) rfl (fun K hK => ?_) AllReadyH.nil
  go_simp
  refine (KBA.out _ d0).mono ?_
  rintro e ww1 ⟨⟨β, rfl, hβ⟩, qq1⟩
  have kk1 : Below u.heap.size u ww1 := d0.trans (qq1.mono d0.size)
  have jj1 := HC.out kk1
  go_simp
  refine hK.out _ _ (jj1) (fun _ => ?_)
  clear hK K
  refine wpAnyH_ready (rs := [5]) (by kernel_rfl) (by simp) ?_
  refine AllReadyH.cons (o := { dst := some 111, op := Op.call { callee := Callee.value (Operand.func 11), args := #[Operand.tmp 109, Operand.tmp 110], argTypes := #[25, 25] }, type := 4, pos := "law.go:116", after := #[{ on := 3, ground := Ground.data }, { on := 4, ground := Ground.data }, { on := 2, ground := Ground.chain }], guard := none }) rfl (fun K hK => ?_) AllReadyH.nil
  go_simp
  refine (KAB.out _ kk1).mono ?_
  rintro e ww2 ⟨⟨β', rfl, hβ'⟩, qq2⟩
  have kk2 : Below u.heap.size u ww2 := kk1.trans (qq2.mono kk1.size)
  have jj2 := HC.out kk2
  obtain rfl : β' = β := bool_same hβ hβ'
  go_simp
  refine hK.out _ _ (jj2) (fun _ => ?_)
  clear hK K
  refine wpAnyH_take (i := 6) (oi := { dst := some 112, op := Op.binOp BinOp.eql 4 (Operand.tmp 108) (Operand.tmp 111) 4, type := 4, pos := "law.go:116", after := #[{ on := 2, ground := Ground.data }, { on := 5, ground := Ground.data }], guard := none }) (v := .bool true) rfl (by kernel_rfl) (by kernel_rfl) (by kernel_rfl) (fun _ _ _ h => hP _ _ _ _ _ h) (Or.inl ⟨by rfl, (by intro w hSw; (try dsimp only at hSw); go_simp)⟩) (by assumption) ?_
  simp only [Act.put, List.setIfInBounds_toArray, List.set_cons_zero, List.set_cons_succ]
  refine wpAnyH_take (i := 7) (oi := { dst := some 113, op := Op.move (Operand.tmp 112), type := 4, pos := "law.go:116", after := #[{ on := 6, ground := Ground.data }, { on := 5, ground := Ground.chain }], guard := none }) (v := .bool true) rfl (by kernel_rfl) (by kernel_rfl) (by kernel_rfl) (fun _ _ _ h => hP _ _ _ _ _ h) (Or.inl ⟨by rfl, (by intro w hSw; (try dsimp only at hSw); go_simp)⟩) (by assumption) ?_
  simp only [Act.put, List.setIfInBounds_toArray, List.set_cons_zero, List.set_cons_succ]
  refine wpAnyH_take (i := 8) (oi := { dst := some 114, op := Op.load 25 (Operand.tmp 2), type := 25, pos := "law.go:116", after := #[{ on := 7, ground := Ground.guard }], guard := some (7, true) }) (v := .agg #[.slice x1 n1 y1, .slice x2 n2 y2]) rfl (by kernel_rfl) (by kernel_rfl) (by kernel_rfl) (fun _ _ _ h => hP _ _ _ _ _ h) (Or.inl ⟨by rfl, (by intro w hSw; (try dsimp only at hSw); go_simp)⟩) (by assumption) ?_
  simp only [Act.put, List.setIfInBounds_toArray, List.set_cons_zero, List.set_cons_succ]
  refine wpAnyH_take (i := 9) (oi := { dst := some 115, op := Op.load 25 (Operand.tmp 2), type := 25, pos := "law.go:116", after := #[{ on := 7, ground := Ground.guard }], guard := some (7, true) }) (v := .agg #[.slice x1 n1 y1, .slice x2 n2 y2]) rfl (by kernel_rfl) (by kernel_rfl) (by kernel_rfl) (fun _ _ _ h => hP _ _ _ _ _ h) (Or.inl ⟨by rfl, (by intro w hSw; (try dsimp only at hSw); go_simp)⟩) (by assumption) ?_
  simp only [Act.put, List.setIfInBounds_toArray, List.set_cons_zero, List.set_cons_succ]
  refine wpAnyH_take (i := 11) (oi := { dst := some 117, op := Op.load 25 (Operand.tmp 2), type := 25, pos := "law.go:116", after := #[{ on := 7, ground := Ground.guard }], guard := some (7, true) }) (v := .agg #[.slice x1 n1 y1, .slice x2 n2 y2]) rfl (by kernel_rfl) (by kernel_rfl) (by kernel_rfl) (fun _ _ _ h => hP _ _ _ _ _ h) (Or.inl ⟨by rfl, (by intro w hSw; (try dsimp only at hSw); go_simp)⟩) (by assumption) ?_
  simp only [Act.put, List.setIfInBounds_toArray, List.set_cons_zero, List.set_cons_succ]
  refine wpAnyH_ready (rs := [10]) (by kernel_rfl) (by simp) ?_
  refine AllReadyH.cons (o := { dst := some 116, op := Op.call { callee := Callee.value (Operand.func 11), args := #[Operand.tmp 114, Operand.tmp 115], argTypes := #[25, 25] }, type := 4, pos := "law.go:116", after := #[{ on := 8, ground := Ground.data }, { on := 9, ground := Ground.data }, { on := 7, ground := Ground.chain }, { on := 7, ground := Ground.guard }], guard := some (7, true) }) rfl (fun K hK => ?_) AllReadyH.nil
  go_simp
  refine (KAA.out _ kk2).mono ?_
  rintro e ww3 ⟨⟨γ, rfl, hγ⟩, qq3⟩
  have kk3 : Below u.heap.size u ww3 := kk2.trans (qq3.mono kk2.size)
  have jj3 := HC.out kk3
  go_simp
  refine hK.out _ _ (jj3) (fun _ => ?_)
  clear hK K
  refine wpAnyH_ready (rs := [12]) (by kernel_rfl) (by simp) ?_
  refine AllReadyH.cons (o := { dst := some 118, op := Op.call { callee := Callee.value (Operand.func 13), args := #[Operand.tmp 117], argTypes := #[25] }, type := 4, pos := "law.go:116", after := #[{ on := 11, ground := Ground.data }, { on := 10, ground := Ground.chain }, { on := 7, ground := Ground.guard }], guard := some (7, true) }) rfl (fun K hK => ?_) AllReadyH.nil
  go_simp
  refine (KR.out _ kk3).mono ?_
  rintro e ww4 ⟨⟨γ', rfl, hγ'⟩, qq4⟩
  have kk4 : Below u.heap.size u ww4 := kk3.trans (qq4.mono kk3.size)
  have jj4 := HC.out kk4
  obtain rfl : γ' = γ := bool_same hγ hγ'
  go_simp
  refine hK.out _ _ (jj4) (fun _ => ?_)
  clear hK K
  refine wpAnyH_take (i := 13) (oi := { dst := some 119, op := Op.binOp BinOp.eql 4 (Operand.tmp 116) (Operand.tmp 118) 4, type := 4, pos := "law.go:116", after := #[{ on := 10, ground := Ground.data }, { on := 12, ground := Ground.data }, { on := 7, ground := Ground.guard }], guard := some (7, true) }) (v := .bool true) rfl (by kernel_rfl) (by kernel_rfl) (by kernel_rfl) (fun _ _ _ h => hP _ _ _ _ _ h) (Or.inl ⟨by rfl, (by intro w hSw; (try dsimp only at hSw); go_simp)⟩) (by assumption) ?_
  simp only [Act.put, List.setIfInBounds_toArray, List.set_cons_zero, List.set_cons_succ]
  refine wpAnyH_take (i := 14) (oi := { dst := some 120, op := Op.pick (Operand.tmp 113) (Operand.tmp 119) (Operand.const (Value.bool false)), type := 4, pos := "law.go:116", after := #[{ on := 7, ground := Ground.data }, { on := 13, ground := Ground.data }], guard := none }) (v := .bool true) rfl (by kernel_rfl) (by kernel_rfl) (by kernel_rfl) (fun _ _ _ h => hP _ _ _ _ _ h) (Or.inl ⟨by rfl, (by intro w hSw; (try dsimp only at hSw); go_simp)⟩) (by assumption) ?_
  simp only [Act.put, List.setIfInBounds_toArray, List.set_cons_zero, List.set_cons_succ]
  refine wpAnyH_take (i := 15) (oi := { dst := some 4, op := Op.assign (Operand.tmp 120), type := 4, pos := "law.go:116", after := #[{ on := 14, ground := Ground.data }, { on := 12, ground := Ground.chain }, { on := 0, ground := Ground.phase }, { on := 1, ground := Ground.phase }, { on := 2, ground := Ground.phase }, { on := 3, ground := Ground.phase }, { on := 4, ground := Ground.phase }, { on := 5, ground := Ground.phase }, { on := 6, ground := Ground.phase }, { on := 7, ground := Ground.phase }, { on := 8, ground := Ground.phase }, { on := 9, ground := Ground.phase }, { on := 10, ground := Ground.phase }, { on := 11, ground := Ground.phase }, { on := 12, ground := Ground.phase }, { on := 13, ground := Ground.phase }, { on := 14, ground := Ground.phase }], guard := none }) (v := .bool true) rfl (by kernel_rfl) (by kernel_rfl) (by kernel_rfl) (fun _ _ _ h => hP _ _ _ _ _ h) (Or.inl ⟨by rfl, (by intro w hSw; (try dsimp only at hSw); go_simp)⟩) (by assumption) ?_
  simp only [Act.put, List.setIfInBounds_toArray, List.set_cons_zero, List.set_cons_succ]
  refine wpAnyH_done (by kernel_rfl) ?_ _
  exact hQ _ _ rfl rfl rfl kk4
section
variable {D : Nat → Prop} {f f0 : Nat} {w : World} {x1 : Option Addr} {n1 y1 : Nat} {x2 : Option Addr} {n2 y2 : Nat} {x3 : Option Addr} {n3 y3 : Nat} {x4 : Option Addr} {n4 y4 : Nat} {t s : Tr}
set_option maxRecDepth 100000 in
set_option maxHeartbeats 32000000 in
theorem arrayTells_walk (hD : ∀ g, D g → g < w.heap.size) (h1 : ArV f D w (.slice x1 n1 y1) (.slice x2 n2 y2) t) (h2 : ArV f D w (.slice x3 n3 y3) (.slice x4 n4 y4) s) (h0 : ArV f0 D w (.slice x1 n1 y1) (.slice x2 n2 y2) t) (hS : smF f0 t) :
    Calls Tryz.prog 3 #[.agg #[.slice x1 n1 y1, .slice x2 n2 y2], .agg #[.slice x3 n3 y3, .slice x4 n4 y4]] w fun e w' => e = .returned (.bool true) ∧ Below w.heap.size w w' := by
  have A0 := boxA_new w #[.slice x1 n1 y1, .slice x2 n2 y2] 25
  have k0 := below_alloc w (.cells #[.slice x1 n1 y1, .slice x2 n2 y2] 25)
  have k1 := below_alloc (w.alloc (.cells #[.slice x1 n1 y1, .slice x2 n2 y2] 25)) (.cells #[.slice x3 n3 y3, .slice x4 n4 y4] 25)
  have C := boxA_new (w.alloc (.cells #[.slice x1 n1 y1, .slice x2 n2 y2] 25)) #[.slice x3 n3 y3, .slice x4 n4 y4] 25
  rw [World.size_alloc] at C
  have A := A0.below k1 (by simp)
  have g : Below w.heap.size w _ := k0.trans (k1.mono (by simp))
  have sv : ((w.alloc (.cells #[.slice x1 n1 y1, .slice x2 n2 y2] 25)).alloc (.cells #[.slice x3 n3 y3, .slice x4 n4 y4] 25)).heap.size = w.heap.size + 1 + 1 := by simp
  have H1 : Hid (ArV f D w (.slice x1 n1 y1) (.slice x2 n2 y2) t) := h1
  have H2 : Hid (ArV f D w (.slice x3 n3 y3) (.slice x4 n4 y4) s) := h2
  have HD : Hid (∀ g, D g → g < w.heap.size) := hD
  have HSM : Hid (smF f0 t) := hS
  have H0 : Hid (ArV f0 D w (.slice x1 n1 y1) (.slice x2 n2 y2) t) := h0
  clear h0 h1 h2 hD hS
  have a0 := A.cell 0 rfl
  have a1 := A.cell 1 rfl
  go_enter Tryz.func3, Tryz.ntmps3
  go_wp2_with fail
  generalize hA : (w.alloc (.cells #[.slice x1 n1 y1, .slice x2 n2 y2] 25)).alloc (.cells #[.slice x3 n3 y3, .slice x4 n4 y4] 25) = v at *
  clear hA a0 a1 k0 k1 A0
  refine (toInt3_any (fun q hq => by have := HD.out q hq; have := g.size; omega) (H1.out.agree (Agree.of g HD.out))).mono ?_
  rintro e w1 ⟨n, ok, rfl, hT1, q1⟩
  have v1 : Below v.heap.size v w1 := q1
  have g1 : Below w.heap.size w w1 := g.trans (q1.mono g.size)
  have a0 := (A.below v1 (by omega)).cell 0 rfl
  have a1 := (A.below v1 (by omega)).cell 1 rfl
  go_wp2_with fail
  refine (refToInt3_any (fun q hq => by have := HD.out q hq; have := g1.size; omega) (H1.out.agree (Agree.of g1 HD.out))).mono ?_
  rintro e w2 ⟨n', ok', rfl, hT2, q2⟩
  obtain ⟨rfl, rfl⟩ := hT1.out.unique hT2.out
  have v2 : Below v.heap.size v w2 := v1.trans (q2.mono v1.size)
  have g2 : Below w.heap.size w w2 := g1.trans (q2.mono g1.size)
  clear a0 a1 hT1 hT2
  have a0 := (A.below v2 (by omega)).cell 0 rfl
  have a1 := (A.below v2 (by omega)).cell 1 rfl
  go_wp2_with fail
  refine (toInts3_any (fun q hq => by have := HD.out q hq; have := g2.size; omega) (H1.out.agree (Agree.of g2 HD.out))).mono ?_
  rintro e w3 ⟨l, al, cl, one, rfl, hT1, hl4, HL1, q3⟩
  have v3 : Below v.heap.size v w3 := v2.trans (q3.mono v2.size)
  have g3 : Below w.heap.size w w3 := g2.trans (q3.mono g2.size)
  clear a0 a1
  have a0 := (A.below v3 (by omega)).cell 0 rfl
  have a1 := (A.below v3 (by omega)).cell 1 rfl
  go_wp2_with fail
  refine (refToInts3_any (fun q hq => by have := HD.out q hq; have := g3.size; omega) (H0.out.agree (Agree.of g3 HD.out)) HSM.out).mono ?_
  rintro e w4 ⟨l', ak, ck, one', rfl, hT2, _, HL2, q4⟩
  obtain ⟨rfl, rfl⟩ := hT1.out.unique hT2.out
  have v4 : Below v.heap.size v w4 := v3.trans (q4.mono v3.size)
  have g4 : Below w.heap.size w w4 := g3.trans (q4.mono g3.size)
  clear a0 a1 hT1 hT2
  have a0 := (A.below v4 (by omega)).cell 0 rfl
  have a1 := (A.below v4 (by omega)).cell 1 rfl
  go_wp2_with fail
  refine (toText3_any (fun q hq => by have := HD.out q hq; have := g4.size; omega) (H1.out.agree (Agree.of g4 HD.out))).mono ?_
  rintro e w5 ⟨cs, three, rfl, hT1, q5⟩
  have v5 : Below v.heap.size v w5 := v4.trans (q5.mono v4.size)
  have g5 : Below w.heap.size w w5 := g4.trans (q5.mono g4.size)
  clear a0 a1
  have a0 := (A.below v5 (by omega)).cell 0 rfl
  have a1 := (A.below v5 (by omega)).cell 1 rfl
  go_wp2_with fail
  refine (refToText3_any (fun q hq => by have := HD.out q hq; have := g5.size; omega) (H0.out.agree (Agree.of g5 HD.out)) HSM.out).mono ?_
  rintro e u ⟨cs', three', rfl, hT2, q6⟩
  obtain ⟨rfl, rfl⟩ := hT1.out.unique hT2.out
  have v6 : Below v.heap.size v u := v5.trans (q6.mono v5.size)
  have g6 : Below w.heap.size w u := g5.trans (q6.mono g5.size)
  clear a0 a1 hT1 hT2
  generalize runesBytes cs' = T
  have Au := A.below v6 (by omega)
  have Cu := C.below v6 (by omega)
  have lA := Au.lt
  have lC := Cu.lt
  have k3u : Below w3.heap.size w3 u := (q4.trans (q5.mono q4.size)).trans (q6.mono (Nat.le_trans q4.size q5.size))
  have k4u : Below w4.heap.size w4 u := q5.trans (q6.mono q5.size)
  have R1 : Hid (RdN (Fr w2.heap.size w3.heap.size) u (.slice al l'.length cl) l') := HL1.out.imp (fun _ h => h) (Agree.of k3u (fun q hq => hq.2))
  have R2 : Hid (RdN (Fr w3.heap.size w4.heap.size) u (.slice ak l'.length ck) l') := HL2.out.imp (fun _ h => h) (Agree.of k4u (fun q hq => hq.2))
  have s3u := k3u.size
  have s4u := k4u.size
  have sgu := g6.size
  clear HL1 HL2
  have hAr : ∀ {w' : World}, Below u.heap.size u w' → ArV f D w' (.slice x1 n1 y1) (.slice x2 n2 y2) t := fun kk => H1.out.agree (Agree.of (g6.trans (kk.mono sgu)) HD.out)
  have hBr : ∀ {w' : World}, Below u.heap.size u w' → ArV f D w' (.slice x3 n3 y3) (.slice x4 n4 y4) s := fun kk => H2.out.agree (Agree.of (g6.trans (kk.mono sgu)) HD.out)
  have hDr : ∀ {w' : World}, Below u.heap.size u w' → ∀ q, D q → q < w'.heap.size := fun kk q hq => by have := HD.out q hq; have := kk.size; omega
  have KAB : KAns u 11 #[.agg #[.slice x1 n1 y1, .slice x2 n2 y2], .agg #[.slice x3 n3 y3, .slice x4 n4 y4]] ((measF 16 t).isSome = true ∧ (measF 16 s).isSome = true ∧ eqF f t s) := fun w' kk => match3_any (hDr kk) (hAr kk) (hBr kk)
  have KRM : KAns u 12 #[.agg #[.slice x1 n1 y1, .slice x2 n2 y2], .agg #[.slice x3 n3 y3, .slice x4 n4 y4]] ((measF 16 t).isSome = true ∧ (measF 16 s).isSome = true ∧ eqF f t s) := fun w' kk => by
    refine (refMatch3_any (hDr kk) (hAr kk) (hBr kk)).mono ?_
    rintro e w'' ⟨⟨β, rfl, hβ⟩, hb⟩
    exact ⟨⟨β, rfl, hβ.out.trans ⟨fun h => ⟨h.1, h.2.1, (eqF_R f 16 16 t s h.1 h.2.1).2 h.2.2⟩, fun h => ⟨h.1, h.2.1, (eqF_R f 16 16 t s h.1 h.2.1).1 h.2.2⟩⟩⟩, hb⟩
  have KBA : KAns u 11 #[.agg #[.slice x3 n3 y3, .slice x4 n4 y4], .agg #[.slice x1 n1 y1, .slice x2 n2 y2]] ((measF 16 t).isSome = true ∧ (measF 16 s).isSome = true ∧ eqF f t s) := fun w' kk => by
    refine (match3_any (hDr kk) (hBr kk) (hAr kk)).mono ?_
    rintro e w'' ⟨⟨β, rfl, hβ⟩, hb⟩
    exact ⟨⟨β, rfl, hβ.out.trans ⟨fun h => ⟨h.2.1, h.1, eqF_symm f s t h.2.2⟩, fun h => ⟨h.2.1, h.1, eqF_symm f t s h.2.2⟩⟩⟩, hb⟩
  have KAA : KAns u 11 #[.agg #[.slice x1 n1 y1, .slice x2 n2 y2], .agg #[.slice x1 n1 y1, .slice x2 n2 y2]] ((measF 16 t).isSome = true) := fun w' kk => by
    refine (match3_any (hDr kk) (hAr kk) (hAr kk)).mono ?_
    rintro e w'' ⟨⟨β, rfl, hβ⟩, hb⟩
    exact ⟨⟨β, rfl, hβ.out.trans ⟨fun h => h.1, fun h => ⟨h, h, eqF_refl f t⟩⟩⟩, hb⟩
  have KR : KAns u 13 #[.agg #[.slice x1 n1 y1, .slice x2 n2 y2]] ((measF 16 t).isSome = true) := fun w' kk => by
    refine (right3_any (hDr kk) (hAr kk)).mono ?_
    rintro e w'' ⟨rfl, hb⟩
    exact ⟨⟨_, rfl, Iff.rfl⟩, hb⟩
  have HCe : Hid (∀ {w' : World}, Below u.heap.size u w' → (w'.cell? ⟨w.heap.size, 0, none⟩ = some (.slice x1 n1 y1) ∧ w'.cell? ⟨w.heap.size, 1, none⟩ = some (.slice x2 n2 y2) ∧ w'.cell? ⟨w.heap.size + 1, 0, none⟩ = some (.slice x3 n3 y3) ∧ w'.cell? ⟨w.heap.size + 1, 1, none⟩ = some (.slice x4 n4 y4))) := fun kk => ⟨(Au.below kk lA).cell 0 rfl, (Au.below kk lA).cell 1 rfl, (Cu.below kk lC).cell 0 rfl, (Cu.below kk lC).cell 1 rfl⟩
  have HLv : Hid LiveOK := live3_ok
  clear hAr hBr hDr
  go_upto_region 7 with fail
  refine wp_region_noPanic ?_
  refine tells_first (u := u) (P := (measF 16 t).isSome = true ∧ (measF 16 s).isSome = true ∧ eqF f t s) (ba := w.heap.size) (bb := w.heap.size + 1) (x1 := x1) (n1 := n1) (y1 := y1) (x2 := x2) (n2 := n2) (y2 := y2) (x3 := x3) (n3 := n3) (y3 := y3) (x4 := x4) (n4 := n4) (y4 := y4) HCe HLv KAB KRM ?hq7 (fun _ _ _ _ _ h => h)
  intro β w7 kk7
  refine NoPanic.normal ?_
  simp only [Exit.then]
  have hm4 : l'.length ≤ 4096 := hl4
  go_wp2
  go_loopw [17] (fun iv wr => ∃ i : Nat, iv = .int .i64 i ∧ i ≤ l'.length ∧ Below u.heap.size u wr) (fun iv _ => l'.length - (intOf iv).toNat)
  case atStart => exact ⟨0, rfl, Nat.zero_le _, kk7⟩
  case round =>
    obtain ⟨i, rfl, hil, hb⟩ := hrel
    by_cases hlt : i < l'.length
    · have bd1 := R1.out.bounds
      have bd2 := R2.out.bounds
      obtain ⟨g1', o1, rfl, hg1, hc1⟩ := R1.out.ptr (by omega)
      obtain ⟨g2', o2, rfl, hg2, hc2⟩ := R2.out.ptr (by omega)
      have E1 := (hb.cell (p := ⟨g1', o1 + i, none⟩) (by have := hg1.2; show g1' < _; omega)).trans (hc1 i hlt)
      have E2 := (hb.cell (p := ⟨g2', o2 + i, none⟩) (by have := hg2.2; show g2' < _; omega)).trans (hc2 i hlt)
      clear hc1 hc2
      generalize l'.getD i 0 = Z at *
      have hd : (Z != Z) = false := by simp
      go_wp2
      go_region
      all_goals
        go_wp2
        go_roundw
        case rel => exact ⟨i + 1, by go_num, by omega, (by first | exact hb | exact hb.trans ⟨rfl, rfl, rfl, Nat.le_refl _, fun _ _ => rfl⟩)⟩
        case measure => simp [intOf]; omega
    · go_upto_region 14 with fail
      have sbu := hb.size
      refine wp_region_noPanic ?_
      refine tells_last (u := wr) (P := (measF 16 t).isSome = true ∧ (measF 16 s).isSome = true ∧ eqF f t s) (R := (measF 16 t).isSome = true) (ba := w.heap.size) (bb := w.heap.size + 1) (x1 := x1) (n1 := n1) (y1 := y1) (x2 := x2) (n2 := n2) (y2 := y2) (x3 := x3) (n3 := n3) (y3 := y3) (x4 := x4) (n4 := n4) (y4 := y4) ?hc ?kba ?kab ?kaa ?kr ?hq (fun _ _ _ _ _ h => h)
      case hc => exact fun kk => HCe.out (hb.trans (kk.mono sbu))
      case kba => exact fun w' kk => KBA.out w' (hb.trans (kk.mono sbu))
      case kab => exact fun w' kk => KAB.out w' (hb.trans (kk.mono sbu))
      case kaa => exact fun w' kk => KAA.out w' (hb.trans (kk.mono sbu))
      case kr => exact fun w' kk => KR.out w' (hb.trans (kk.mono sbu))
      case hq =>
        intro a w' ha hdf hsz kk
        refine NoPanic.normal ?_
        simp only [Exit.then]
        go_wp2
        refine bodyPost_ret (v := .bool true) ?_ hdf ?_
        · simp [results, Tryz.results3, go_sem, ha]
        exact ⟨rfl, g6.trans ((hb.trans (kk.mono sbu)).mono sgu)⟩
end
end Go.Proofs.YtnlmjibdifbnbaaGreat
