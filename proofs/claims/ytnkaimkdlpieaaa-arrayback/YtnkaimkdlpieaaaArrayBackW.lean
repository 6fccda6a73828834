/- ArrayBack's walk. -/
import Derived.Test.YtnkaimkdlpieaaaKB
import Derived.Test.YtnkaimkdlpieaaaK13
import Derived.Deep.RegionHeld3
namespace Go.Proofs.Ytnkaimkdlpieaaa
set_option linter.unusedVariables false
set_option linter.unusedSimpArgs false
open Go.RowKit

def KRight (u : World) (z1 : Option Addr) (m1 u1 : Nat) (z2 : Option Addr) (m2 u2 : Nat) : Prop := ∀ w', Below u.heap.size u w' → Calls Try.prog 9 #[.agg #[.slice z1 m1 u1, .slice z2 m2 u2]] w' fun e w'' => e = .returned (.bool true) ∧ Below w'.heap.size w' w''
def KOpen (u : World) (F : Nat) (t : Tr) (x : IV) : Prop := Hid (∀ w', Below u.heap.size u w' → Calls Try.prog 26 #[.agg #[.int .u8 x.k, .bool x.b, .slice x.a1 x.n1 x.c1, .slice x.a2 x.n2 x.c2, .int .i32 x.c, .slice x.a3 x.n3 x.c3]] w' fun e w'' => ∃ z1 m1 u1 z2 m2 u2, e = .returned (.agg #[.slice z1 m1 u1, .slice z2 m2 u2]) ∧ ArV (F + 1) (Fr w'.heap.size w''.heap.size) w'' (.slice z1 m1 u1) (.slice z2 m2 u2) t ∧ Below w'.heap.size w' w'')
def KType (u : World) (F : Nat) (t : Tr) (z1 : Option Addr) (m1 u1 : Nat) (z2 : Option Addr) (m2 u2 : Nat) : Prop := Hid (∀ w', Below u.heap.size u w' → Calls Try.prog 24 #[.agg #[.slice z1 m1 u1, .slice z2 m2 u2]] w' fun e w'' => ∃ p1 v1 r1 p2 v2 r2, e = .returned (.agg #[.slice p1 v1 r1, .slice p2 v2 r2]) ∧ ArV (F + 1) (Fr w'.heap.size w''.heap.size) w'' (.slice p1 v1 r1) (.slice p2 v2 r2) (tyArr (tyArr t)) ∧ Below w'.heap.size w' w'')
/-- Match of something new with what was there. -/
def KMatch (u : World) (F : Nat) (t : Tr) (x1 : Option Addr) (n1 y1 : Nat) (x2 : Option Addr) (n2 y2 : Nat) : Prop := Hid (∀ (w' : World) (s1 : Option Addr) (e1 f1 : Nat) (s2 : Option Addr) (e2 f2 B : Nat), Below u.heap.size u w' → ArV (F + 1) (Fr B w'.heap.size) w' (.slice s1 e1 f1) (.slice s2 e2 f2) t →
  Calls Try.prog 25 #[.agg #[.slice s1 e1 f1, .slice s2 e2 f2], .agg #[.slice x1 n1 y1, .slice x2 n2 y2]] w' fun e w'' => e = .returned (.bool true) ∧ Below w'.heap.size w' w'')
set_option maxRecDepth 100000 in
set_option maxHeartbeats 16000000 in
theorem back_deep {w u : World} {F bx bt : Nat} {t : Tr} {x : IV} {x1 : Option Addr} {n1 y1 : Nat} {x2 : Option Addr} {n2 y2 : Nat} {z1 : Option Addr} {m1 u1 : Nat} {z2 : Option Addr} {m2 u2 : Nat} {Q : Exit → Act → World → Prop} {t22 t23 t24 t25 t26 t27 t28 t29 t30 t31 t32 t33 t34 t35 t36 t37 t38 t39 t40 t41 t42 t43 t44 t45 t46 : Value} {a0 a2 a6 a7 a8 a9 a10 a11 a12 a13 a14 a15 a16 a17 a18 a19 a20 a21 : Value}
    (HC : Hid (∀ {w' : World}, Below u.heap.size u w' → (w'.cell? ⟨w.heap.size, 0, none⟩ = some (.slice x1 n1 y1) ∧ w'.cell? ⟨w.heap.size, 1, none⟩ = some (.slice x2 n2 y2) ∧ w'.cell? ⟨bt, 0, none⟩ = some (.slice z1 m1 u1) ∧ w'.cell? ⟨bt, 1, none⟩ = some (.slice z2 m2 u2) ∧ w'.cell? ⟨bx, 0, none⟩ = some (.int .u8 x.k) ∧ w'.cell? ⟨bx, 1, none⟩ = some (.bool x.b) ∧ w'.cell? ⟨bx, 2, none⟩ = some (.slice x.a1 x.n1 x.c1) ∧ w'.cell? ⟨bx, 3, none⟩ = some (.slice x.a2 x.n2 x.c2) ∧ w'.cell? ⟨bx, 4, none⟩ = some (.int .i32 x.c) ∧ w'.cell? ⟨bx, 5, none⟩ = some (.slice x.a3 x.n3 x.c3)))) (HLv : Hid LiveOK) (KR : Hid (KRight u z1 m1 u1 z2 m2 u2)) (KT : KType u F t z1 m1 u1 z2 m2 u2) (KM2 : KMatch u F (tyArr (tyArr t)) z1 m1 u1 z2 m2 u2) (KM1 : KMatch u F t x1 n1 y1 x2 n2 y2) (hk3 : x.k = 3)
    (hQ : ∀ (a : Act) w', a.tmps[2]? = some (.bool true) → a.defers = [] → a.tmps.size = 47 → Below u.heap.size u w' → Q .normal a w') (hP : ∀ c a d v w, Q (.panic c) (Act.put a d v) w → Q (.panic c) a w) :
    (Code.region 6 #[{ dst := some 22, op := Op.call { callee := Callee.value (Operand.func 8), args := #[], argTypes := #[] }, type := 4, pos := "law.go:127", after := #[], guard := none }, { dst := some 23, op := Op.move (Operand.tmp 22), type := 4, pos := "law.go:127", after := #[{ on := 0, ground := Ground.data }, { on := 0, ground := Ground.chain }], guard := none }, { dst := some 24, op := Op.move (Operand.tmp 4), type := 4, pos := "law.go:127", after := #[{ on := 1, ground := Ground.guard }], guard := some (1, true) }, { dst := some 25, op := Op.move (Operand.tmp 24), type := 4, pos := "law.go:127", after := #[{ on := 2, ground := Ground.data }, { on := 1, ground := Ground.chain }, { on := 1, ground := Ground.guard }], guard := some (1, true) }, { dst := some 26, op := Op.fieldAddr 45 (Operand.tmp 3) 0, type := 0, pos := "law.go:127", after := #[{ on := 3, ground := Ground.guard }], guard := some (3, true) }, { dst := some 27, op := Op.load 39 (Operand.tmp 26), type := 39, pos := "law.go:127", after := #[{ on := 4, ground := Ground.data }, { on := 3, ground := Ground.guard }], guard := some (3, true) }, { dst := some 28, op := Op.binOp BinOp.eql 39 (Operand.tmp 27) (Operand.const (Value.int IntKind.u8 3)) 39, type := 4, pos := "law.go:127", after := #[{ on := 5, ground := Ground.data }, { on := 3, ground := Ground.guard }], guard := some (3, true) }, { dst := some 29, op := Op.pick (Operand.tmp 25) (Operand.tmp 28) (Operand.const (Value.bool false)), type := 4, pos := "law.go:127", after := #[{ on := 3, ground := Ground.data }, { on := 6, ground := Ground.data }, { on := 1, ground := Ground.guard }], guard := some (1, true) }, { dst := some 30, op := Op.move (Operand.tmp 29), type := 4, pos := "law.go:127", after := #[{ on := 7, ground := Ground.data }, { on := 3, ground := Ground.chain }, { on := 1, ground := Ground.guard }], guard := some (1, true) }, { dst := some 31, op := Op.load 45 (Operand.tmp 3), type := 45, pos := "law.go:127", after := #[{ on := 8, ground := Ground.guard }], guard := some (8, false) }, { dst := some 32, op := Op.call { callee := Callee.value (Operand.func 26), args := #[Operand.tmp 31], argTypes := #[45] }, type := 25, pos := "law.go:127", after := #[{ on := 9, ground := Ground.data }, { on := 8, ground := Ground.chain }, { on := 8, ground := Ground.guard }], guard := some (8, false) }, { dst := some 33, op := Op.load 25 (Operand.tmp 1), type := 25, pos := "law.go:127", after := #[{ on := 8, ground := Ground.guard }], guard := some (8, false) }, { dst := some 34, op := Op.call { callee := Callee.value (Operand.func 25), args := #[Operand.tmp 32, Operand.tmp 33], argTypes := #[25, 25] }, type := 4, pos := "law.go:127", after := #[{ on := 10, ground := Ground.data }, { on := 11, ground := Ground.data }, { on := 10, ground := Ground.chain }, { on := 8, ground := Ground.guard }], guard := some (8, false) }, { dst := some 35, op := Op.pick (Operand.tmp 30) (Operand.const (Value.bool true)) (Operand.tmp 34), type := 4, pos := "law.go:127", after := #[{ on := 8, ground := Ground.data }, { on := 12, ground := Ground.data }, { on := 1, ground := Ground.guard }], guard := some (1, true) }, { dst := some 36, op := Op.pick (Operand.tmp 23) (Operand.tmp 35) (Operand.const (Value.bool false)), type := 4, pos := "law.go:127", after := #[{ on := 1, ground := Ground.data }, { on := 13, ground := Ground.data }], guard := none }, { dst := some 37, op := Op.move (Operand.tmp 36), type := 4, pos := "law.go:127", after := #[{ on := 14, ground := Ground.data }, { on := 12, ground := Ground.chain }], guard := none }, { dst := some 38, op := Op.load 25 (Operand.tmp 5), type := 25, pos := "law.go:127", after := #[{ on := 15, ground := Ground.guard }], guard := some (15, true) }, { dst := some 39, op := Op.call { callee := Callee.value (Operand.func 24), args := #[Operand.tmp 38], argTypes := #[25] }, type := 25, pos := "law.go:127", after := #[{ on := 16, ground := Ground.data }, { on := 15, ground := Ground.chain }, { on := 15, ground := Ground.guard }], guard := some (15, true) }, { dst := some 40, op := Op.load 25 (Operand.tmp 5), type := 25, pos := "law.go:127", after := #[{ on := 15, ground := Ground.guard }], guard := some (15, true) }, { dst := some 41, op := Op.call { callee := Callee.value (Operand.func 25), args := #[Operand.tmp 39, Operand.tmp 40], argTypes := #[25, 25] }, type := 4, pos := "law.go:127", after := #[{ on := 17, ground := Ground.data }, { on := 18, ground := Ground.data }, { on := 17, ground := Ground.chain }, { on := 15, ground := Ground.guard }], guard := some (15, true) }, { dst := some 42, op := Op.pick (Operand.tmp 37) (Operand.tmp 41) (Operand.const (Value.bool false)), type := 4, pos := "law.go:127", after := #[{ on := 15, ground := Ground.data }, { on := 19, ground := Ground.data }], guard := none }, { dst := some 43, op := Op.move (Operand.tmp 42), type := 4, pos := "law.go:127", after := #[{ on := 20, ground := Ground.data }, { on := 19, ground := Ground.chain }], guard := none }, { dst := some 44, op := Op.load 25 (Operand.tmp 5), type := 25, pos := "law.go:127", after := #[{ on := 21, ground := Ground.guard }], guard := some (21, true) }, { dst := some 45, op := Op.call { callee := Callee.value (Operand.func 9), args := #[Operand.tmp 44], argTypes := #[25] }, type := 4, pos := "law.go:127", after := #[{ on := 22, ground := Ground.data }, { on := 21, ground := Ground.chain }, { on := 21, ground := Ground.guard }], guard := some (21, true) }, { dst := some 46, op := Op.pick (Operand.tmp 43) (Operand.tmp 45) (Operand.const (Value.bool false)), type := 4, pos := "law.go:127", after := #[{ on := 21, ground := Ground.data }, { on := 23, ground := Ground.data }], guard := none }, { dst := some 2, op := Op.assign (Operand.tmp 46), type := 4, pos := "law.go:127", after := #[{ on := 24, ground := Ground.data }, { on := 23, ground := Ground.chain }, { on := 0, ground := Ground.phase }, { on := 1, ground := Ground.phase }, { on := 2, ground := Ground.phase }, { on := 3, ground := Ground.phase }, { on := 4, ground := Ground.phase }, { on := 5, ground := Ground.phase }, { on := 6, ground := Ground.phase }, { on := 7, ground := Ground.phase }, { on := 8, ground := Ground.phase }, { on := 9, ground := Ground.phase }, { on := 10, ground := Ground.phase }, { on := 11, ground := Ground.phase }, { on := 12, ground := Ground.phase }, { on := 13, ground := Ground.phase }, { on := 14, ground := Ground.phase }, { on := 15, ground := Ground.phase }, { on := 16, ground := Ground.phase }, { on := 17, ground := Ground.phase }, { on := 18, ground := Ground.phase }, { on := 19, ground := Ground.phase }, { on := 20, ground := Ground.phase }, { on := 21, ground := Ground.phase }, { on := 22, ground := Ground.phase }, { on := 23, ground := Ground.phase }, { on := 24, ground := Ground.phase }], guard := none }] true).wp Try.prog Q { tmps := #[a0, .pointer (some ⟨w.heap.size, 0, none⟩), a2, .pointer (some ⟨bx, 0, none⟩), .bool true, .pointer (some ⟨bt, 0, none⟩), a6, a7, a8, a9, a10, a11, a12, a13, a14, a15, a16, a17, a18, a19, a20, a21, t22, t23, t24, t25, t26, t27, t28, t29, t30, t31, t32, t33, t34, t35, t36, t37, t38, t39, t40, t41, t42, t43, t44, t45, t46], defers := [] } u := by
  have d0 : Below u.heap.size u u.drew := ⟨rfl, rfl, rfl, Nat.le_refl _, fun _ _ => rfl⟩
  have j0 := HC.out d0
  rw [hk3] at j0 HC
  refine wp_region_held_drew (S := (fun w' => w'.cell? ⟨w.heap.size, 0, none⟩ = some (.slice x1 n1 y1) ∧ w'.cell? ⟨w.heap.size, 1, none⟩ = some (.slice x2 n2 y2) ∧ w'.cell? ⟨bt, 0, none⟩ = some (.slice z1 m1 u1) ∧ w'.cell? ⟨bt, 1, none⟩ = some (.slice z2 m2 u2) ∧ w'.cell? ⟨bx, 0, none⟩ = some (.int .u8 3) ∧ w'.cell? ⟨bx, 1, none⟩ = some (.bool x.b) ∧ w'.cell? ⟨bx, 2, none⟩ = some (.slice x.a1 x.n1 x.c1) ∧ w'.cell? ⟨bx, 3, none⟩ = some (.slice x.a2 x.n2 x.c2) ∧ w'.cell? ⟨bx, 4, none⟩ = some (.int .i32 x.c) ∧ w'.cell? ⟨bx, 5, none⟩ = some (.slice x.a3 x.n3 x.c3))) (by kernel_rfl) j0 (fun hS => ?_)
  refine wpAnyH_ready (rs := [0]) (by kernel_rfl) (by simp) ?_
  refine AllReadyH.cons (o := { dst := some 22, op := Op.call { callee := Callee.value (Operand.func 8), args := #[], argTypes := #[] }, type := 4, pos := "law.go:127", after := #[], guard := none }) rfl (fun K hK => ?_) AllReadyH.nil
  go_simp
  refine (HLv.out _).mono ?_
  rintro e ww1 ⟨rfl, qq1⟩
  have kk1 : Below u.heap.size u ww1 := d0.trans (qq1.mono d0.size)
  have jj1 := HC.out kk1
  go_simp
  refine hK.out _ _ (jj1) (fun _ => ?_)
  clear hK K
  refine wpAnyH_take (i := 1) (oi := { dst := some 23, op := Op.move (Operand.tmp 22), type := 4, pos := "law.go:127", after := #[{ on := 0, ground := Ground.data }, { on := 0, ground := Ground.chain }], guard := none }) (v := .bool true) rfl (by kernel_rfl) (by kernel_rfl) (by kernel_rfl) (fun _ _ _ h => hP _ _ _ _ _ h) (Or.inl ⟨by rfl, (by intro w hSw; (try dsimp only at hSw); go_simp)⟩) (by assumption) ?_
  simp only [Act.put, List.setIfInBounds_toArray, List.set_cons_zero, List.set_cons_succ]
  refine wpAnyH_take (i := 2) (oi := { dst := some 24, op := Op.move (Operand.tmp 4), type := 4, pos := "law.go:127", after := #[{ on := 1, ground := Ground.guard }], guard := some (1, true) }) (v := .bool true) rfl (by kernel_rfl) (by kernel_rfl) (by kernel_rfl) (fun _ _ _ h => hP _ _ _ _ _ h) (Or.inl ⟨by rfl, (by intro w hSw; (try dsimp only at hSw); go_simp)⟩) (by assumption) ?_
  simp only [Act.put, List.setIfInBounds_toArray, List.set_cons_zero, List.set_cons_succ]
  refine wpAnyH_take (i := 3) (oi := { dst := some 25, op := Op.move (Operand.tmp 24), type := 4, pos := "law.go:127", after := #[{ on := 2, ground := Ground.data }, { on := 1, ground := Ground.chain }, { on := 1, ground := Ground.guard }], guard := some (1, true) }) (v := .bool true) rfl (by kernel_rfl) (by kernel_rfl) (by kernel_rfl) (fun _ _ _ h => hP _ _ _ _ _ h) (Or.inl ⟨by rfl, (by intro w hSw; (try dsimp only at hSw); go_simp)⟩) (by assumption) ?_
  simp only [Act.put, List.setIfInBounds_toArray, List.set_cons_zero, List.set_cons_succ]
  refine wpAnyH_take (i := 4) (oi := { dst := some 26, op := Op.fieldAddr 45 (Operand.tmp 3) 0, type := 0, pos := "law.go:127", after := #[{ on := 3, ground := Ground.guard }], guard := some (3, true) }) (v := .pointer (some ⟨bx, 0, none⟩)) rfl (by kernel_rfl) (by kernel_rfl) (by kernel_rfl) (fun _ _ _ h => hP _ _ _ _ _ h) (Or.inl ⟨by rfl, (by intro w hSw; (try dsimp only at hSw); go_simp)⟩) (by assumption) ?_
  simp only [Act.put, List.setIfInBounds_toArray, List.set_cons_zero, List.set_cons_succ]
  refine wpAnyH_take (i := 5) (oi := { dst := some 27, op := Op.load 39 (Operand.tmp 26), type := 39, pos := "law.go:127", after := #[{ on := 4, ground := Ground.data }, { on := 3, ground := Ground.guard }], guard := some (3, true) }) (v := .int .u8 3) rfl (by kernel_rfl) (by kernel_rfl) (by kernel_rfl) (fun _ _ _ h => hP _ _ _ _ _ h) (Or.inl ⟨by rfl, (by intro w hSw; (try dsimp only at hSw); go_simp)⟩) (by assumption) ?_
  simp only [Act.put, List.setIfInBounds_toArray, List.set_cons_zero, List.set_cons_succ]
  refine wpAnyH_take (i := 6) (oi := { dst := some 28, op := Op.binOp BinOp.eql 39 (Operand.tmp 27) (Operand.const (Value.int IntKind.u8 3)) 39, type := 4, pos := "law.go:127", after := #[{ on := 5, ground := Ground.data }, { on := 3, ground := Ground.guard }], guard := some (3, true) }) (v := .bool true) rfl (by kernel_rfl) (by kernel_rfl) (by kernel_rfl) (fun _ _ _ h => hP _ _ _ _ _ h) (Or.inl ⟨by rfl, (by intro w hSw; (try dsimp only at hSw); go_simp)⟩) (by assumption) ?_
  simp only [Act.put, List.setIfInBounds_toArray, List.set_cons_zero, List.set_cons_succ]
  refine wpAnyH_take (i := 7) (oi := { dst := some 29, op := Op.pick (Operand.tmp 25) (Operand.tmp 28) (Operand.const (Value.bool false)), type := 4, pos := "law.go:127", after := #[{ on := 3, ground := Ground.data }, { on := 6, ground := Ground.data }, { on := 1, ground := Ground.guard }], guard := some (1, true) }) (v := .bool true) rfl (by kernel_rfl) (by kernel_rfl) (by kernel_rfl) (fun _ _ _ h => hP _ _ _ _ _ h) (Or.inl ⟨by rfl, (by intro w hSw; (try dsimp only at hSw); go_simp)⟩) (by assumption) ?_
  simp only [Act.put, List.setIfInBounds_toArray, List.set_cons_zero, List.set_cons_succ]
  refine wpAnyH_take (i := 8) (oi := { dst := some 30, op := Op.move (Operand.tmp 29), type := 4, pos := "law.go:127", after := #[{ on := 7, ground := Ground.data }, { on := 3, ground := Ground.chain }, { on := 1, ground := Ground.guard }], guard := some (1, true) }) (v := .bool true) rfl (by kernel_rfl) (by kernel_rfl) (by kernel_rfl) (fun _ _ _ h => hP _ _ _ _ _ h) (Or.inl ⟨by rfl, (by intro w hSw; (try dsimp only at hSw); go_simp)⟩) (by assumption) ?_
  simp only [Act.put, List.setIfInBounds_toArray, List.set_cons_zero, List.set_cons_succ]
  refine wpAnyH_take (i := 9) (oi := { dst := some 31, op := Op.load 45 (Operand.tmp 3), type := 45, pos := "law.go:127", after := #[{ on := 8, ground := Ground.guard }], guard := some (8, false) }) (v := undef) rfl (by kernel_rfl) (by kernel_rfl) (by kernel_rfl) (fun _ _ _ h => hP _ _ _ _ _ h) (Or.inr ⟨by rfl, rfl⟩) (by assumption) ?_
  simp only [Act.put, List.setIfInBounds_toArray, List.set_cons_zero, List.set_cons_succ]
  refine wpAnyH_take (i := 10) (oi := { dst := some 32, op := Op.call { callee := Callee.value (Operand.func 26), args := #[Operand.tmp 31], argTypes := #[45] }, type := 25, pos := "law.go:127", after := #[{ on := 9, ground := Ground.data }, { on := 8, ground := Ground.chain }, { on := 8, ground := Ground.guard }], guard := some (8, false) }) (v := undef) rfl (by kernel_rfl) (by kernel_rfl) (by kernel_rfl) (fun _ _ _ h => hP _ _ _ _ _ h) (Or.inr ⟨by rfl, rfl⟩) (by assumption) ?_
  simp only [Act.put, List.setIfInBounds_toArray, List.set_cons_zero, List.set_cons_succ]
  refine wpAnyH_take (i := 11) (oi := { dst := some 33, op := Op.load 25 (Operand.tmp 1), type := 25, pos := "law.go:127", after := #[{ on := 8, ground := Ground.guard }], guard := some (8, false) }) (v := undef) rfl (by kernel_rfl) (by kernel_rfl) (by kernel_rfl) (fun _ _ _ h => hP _ _ _ _ _ h) (Or.inr ⟨by rfl, rfl⟩) (by assumption) ?_
  simp only [Act.put, List.setIfInBounds_toArray, List.set_cons_zero, List.set_cons_succ]
  refine wpAnyH_take (i := 12) (oi := { dst := some 34, op := Op.call { callee := Callee.value (Operand.func 25), args := #[Operand.tmp 32, Operand.tmp 33], argTypes := #[25, 25] }, type := 4, pos := "law.go:127", after := #[{ on := 10, ground := Ground.data }, { on := 11, ground := Ground.data }, { on := 10, ground := Ground.chain }, { on := 8, ground := Ground.guard }], guard := some (8, false) }) (v := undef) rfl (by kernel_rfl) (by kernel_rfl) (by kernel_rfl) (fun _ _ _ h => hP _ _ _ _ _ h) (Or.inr ⟨by rfl, rfl⟩) (by assumption) ?_
  simp only [Act.put, List.setIfInBounds_toArray, List.set_cons_zero, List.set_cons_succ]
  refine wpAnyH_take (i := 13) (oi := { dst := some 35, op := Op.pick (Operand.tmp 30) (Operand.const (Value.bool true)) (Operand.tmp 34), type := 4, pos := "law.go:127", after := #[{ on := 8, ground := Ground.data }, { on := 12, ground := Ground.data }, { on := 1, ground := Ground.guard }], guard := some (1, true) }) (v := .bool true) rfl (by kernel_rfl) (by kernel_rfl) (by kernel_rfl) (fun _ _ _ h => hP _ _ _ _ _ h) (Or.inl ⟨by rfl, (by intro w hSw; (try dsimp only at hSw); go_simp)⟩) (by assumption) ?_
  simp only [Act.put, List.setIfInBounds_toArray, List.set_cons_zero, List.set_cons_succ]
  refine wpAnyH_take (i := 14) (oi := { dst := some 36, op := Op.pick (Operand.tmp 23) (Operand.tmp 35) (Operand.const (Value.bool false)), type := 4, pos := "law.go:127", after := #[{ on := 1, ground := Ground.data }, { on := 13, ground := Ground.data }], guard := none }) (v := .bool true) rfl (by kernel_rfl) (by kernel_rfl) (by kernel_rfl) (fun _ _ _ h => hP _ _ _ _ _ h) (Or.inl ⟨by rfl, (by intro w hSw; (try dsimp only at hSw); go_simp)⟩) (by assumption) ?_
  simp only [Act.put, List.setIfInBounds_toArray, List.set_cons_zero, List.set_cons_succ]
  refine wpAnyH_take (i := 15) (oi := { dst := some 37, op := Op.move (Operand.tmp 36), type := 4, pos := "law.go:127", after := #[{ on := 14, ground := Ground.data }, { on := 12, ground := Ground.chain }], guard := none }) (v := .bool true) rfl (by kernel_rfl) (by kernel_rfl) (by kernel_rfl) (fun _ _ _ h => hP _ _ _ _ _ h) (Or.inl ⟨by rfl, (by intro w hSw; (try dsimp only at hSw); go_simp)⟩) (by assumption) ?_
  simp only [Act.put, List.setIfInBounds_toArray, List.set_cons_zero, List.set_cons_succ]
  refine wpAnyH_take (i := 16) (oi := { dst := some 38, op := Op.load 25 (Operand.tmp 5), type := 25, pos := "law.go:127", after := #[{ on := 15, ground := Ground.guard }], guard := some (15, true) }) (v := .agg #[.slice z1 m1 u1, .slice z2 m2 u2]) rfl (by kernel_rfl) (by kernel_rfl) (by kernel_rfl) (fun _ _ _ h => hP _ _ _ _ _ h) (Or.inl ⟨by rfl, (by intro w hSw; (try dsimp only at hSw); go_simp)⟩) (by assumption) ?_
  simp only [Act.put, List.setIfInBounds_toArray, List.set_cons_zero, List.set_cons_succ]
  refine wpAnyH_take (i := 18) (oi := { dst := some 40, op := Op.load 25 (Operand.tmp 5), type := 25, pos := "law.go:127", after := #[{ on := 15, ground := Ground.guard }], guard := some (15, true) }) (v := .agg #[.slice z1 m1 u1, .slice z2 m2 u2]) rfl (by kernel_rfl) (by kernel_rfl) (by kernel_rfl) (fun _ _ _ h => hP _ _ _ _ _ h) (Or.inl ⟨by rfl, (by intro w hSw; (try dsimp only at hSw); go_simp)⟩) (by assumption) ?_
  simp only [Act.put, List.setIfInBounds_toArray, List.set_cons_zero, List.set_cons_succ]
  refine wpAnyH_ready (rs := [17]) (by kernel_rfl) (by simp) ?_
  refine AllReadyH.cons (o := { dst := some 39, op := Op.call { callee := Callee.value (Operand.func 24), args := #[Operand.tmp 38], argTypes := #[25] }, type := 25, pos := "law.go:127", after := #[{ on := 16, ground := Ground.data }, { on := 15, ground := Ground.chain }, { on := 15, ground := Ground.guard }], guard := some (15, true) }) rfl (fun K hK => ?_) AllReadyH.nil
  go_simp
  refine (KT.out _ kk1).mono ?_
  rintro e ww2 ⟨p1, v1, r1, p2, v2, r2, rfl, hv, qq2⟩
  have kk2 : Below u.heap.size u ww2 := kk1.trans (qq2.mono kk1.size)
  have jj2 := HC.out kk2
  have HVT : Hid (ArV (F + 1) (Fr ww1.heap.size ww2.heap.size) ww2 (.slice p1 v1 r1) (.slice p2 v2 r2) (tyArr (tyArr t))) := hv
  clear hv
  go_simp
  refine hK.out _ _ (jj2) (fun _ => ?_)
  clear hK K
  refine wpAnyH_ready (rs := [19]) (by kernel_rfl) (by simp) ?_
  refine AllReadyH.cons (o := { dst := some 41, op := Op.call { callee := Callee.value (Operand.func 25), args := #[Operand.tmp 39, Operand.tmp 40], argTypes := #[25, 25] }, type := 4, pos := "law.go:127", after := #[{ on := 17, ground := Ground.data }, { on := 18, ground := Ground.data }, { on := 17, ground := Ground.chain }, { on := 15, ground := Ground.guard }], guard := some (15, true) }) rfl (fun K hK => ?_) AllReadyH.nil
  go_simp
  refine (KM2.out _ p1 v1 r1 p2 v2 r2 _ kk2 HVT.out).mono ?_
  rintro e ww3 ⟨rfl, qq3⟩
  have kk3 : Below u.heap.size u ww3 := kk2.trans (qq3.mono kk2.size)
  have jj3 := HC.out kk3
  go_simp
  refine hK.out _ _ (jj3) (fun _ => ?_)
  clear hK K
  refine wpAnyH_take (i := 20) (oi := { dst := some 42, op := Op.pick (Operand.tmp 37) (Operand.tmp 41) (Operand.const (Value.bool false)), type := 4, pos := "law.go:127", after := #[{ on := 15, ground := Ground.data }, { on := 19, ground := Ground.data }], guard := none }) (v := .bool true) rfl (by kernel_rfl) (by kernel_rfl) (by kernel_rfl) (fun _ _ _ h => hP _ _ _ _ _ h) (Or.inl ⟨by rfl, (by intro w hSw; (try dsimp only at hSw); go_simp)⟩) (by assumption) ?_
  simp only [Act.put, List.setIfInBounds_toArray, List.set_cons_zero, List.set_cons_succ]
  refine wpAnyH_take (i := 21) (oi := { dst := some 43, op := Op.move (Operand.tmp 42), type := 4, pos := "law.go:127", after := #[{ on := 20, ground := Ground.data }, { on := 19, ground := Ground.chain }], guard := none }) (v := .bool true) rfl (by kernel_rfl) (by kernel_rfl) (by kernel_rfl) (fun _ _ _ h => hP _ _ _ _ _ h) (Or.inl ⟨by rfl, (by intro w hSw; (try dsimp only at hSw); go_simp)⟩) (by assumption) ?_
  simp only [Act.put, List.setIfInBounds_toArray, List.set_cons_zero, List.set_cons_succ]
  refine wpAnyH_take (i := 22) (oi := { dst := some 44, op := Op.load 25 (Operand.tmp 5), type := 25, pos := "law.go:127", after := #[{ on := 21, ground := Ground.guard }], guard := some (21, true) }) (v := .agg #[.slice z1 m1 u1, .slice z2 m2 u2]) rfl (by kernel_rfl) (by kernel_rfl) (by kernel_rfl) (fun _ _ _ h => hP _ _ _ _ _ h) (Or.inl ⟨by rfl, (by intro w hSw; (try dsimp only at hSw); go_simp)⟩) (by assumption) ?_
  simp only [Act.put, List.setIfInBounds_toArray, List.set_cons_zero, List.set_cons_succ]
  refine wpAnyH_ready (rs := [23]) (by kernel_rfl) (by simp) ?_
  refine AllReadyH.cons (o := { dst := some 45, op := Op.call { callee := Callee.value (Operand.func 9), args := #[Operand.tmp 44], argTypes := #[25] }, type := 4, pos := "law.go:127", after := #[{ on := 22, ground := Ground.data }, { on := 21, ground := Ground.chain }, { on := 21, ground := Ground.guard }], guard := some (21, true) }) rfl (fun K hK => ?_) AllReadyH.nil
  go_simp
  refine (KR.out _ kk3).mono ?_
  rintro e ww4 ⟨rfl, qq4⟩
  have kk4 : Below u.heap.size u ww4 := kk3.trans (qq4.mono kk3.size)
  have jj4 := HC.out kk4
  go_simp
  refine hK.out _ _ (jj4) (fun _ => ?_)
  clear hK K
  refine wpAnyH_take (i := 24) (oi := { dst := some 46, op := Op.pick (Operand.tmp 43) (Operand.tmp 45) (Operand.const (Value.bool false)), type := 4, pos := "law.go:127", after := #[{ on := 21, ground := Ground.data }, { on := 23, ground := Ground.data }], guard := none }) (v := .bool true) rfl (by kernel_rfl) (by kernel_rfl) (by kernel_rfl) (fun _ _ _ h => hP _ _ _ _ _ h) (Or.inl ⟨by rfl, (by intro w hSw; (try dsimp only at hSw); go_simp)⟩) (by assumption) ?_
  simp only [Act.put, List.setIfInBounds_toArray, List.set_cons_zero, List.set_cons_succ]
  refine wpAnyH_take (i := 25) (oi := { dst := some 2, op := Op.assign (Operand.tmp 46), type := 4, pos := "law.go:127", after := #[{ on := 24, ground := Ground.data }, { on := 23, ground := Ground.chain }, { on := 0, ground := Ground.phase }, { on := 1, ground := Ground.phase }, { on := 2, ground := Ground.phase }, { on := 3, ground := Ground.phase }, { on := 4, ground := Ground.phase }, { on := 5, ground := Ground.phase }, { on := 6, ground := Ground.phase }, { on := 7, ground := Ground.phase }, { on := 8, ground := Ground.phase }, { on := 9, ground := Ground.phase }, { on := 10, ground := Ground.phase }, { on := 11, ground := Ground.phase }, { on := 12, ground := Ground.phase }, { on := 13, ground := Ground.phase }, { on := 14, ground := Ground.phase }, { on := 15, ground := Ground.phase }, { on := 16, ground := Ground.phase }, { on := 17, ground := Ground.phase }, { on := 18, ground := Ground.phase }, { on := 19, ground := Ground.phase }, { on := 20, ground := Ground.phase }, { on := 21, ground := Ground.phase }, { on := 22, ground := Ground.phase }, { on := 23, ground := Ground.phase }, { on := 24, ground := Ground.phase }], guard := none }) (v := .bool true) rfl (by kernel_rfl) (by kernel_rfl) (by kernel_rfl) (fun _ _ _ h => hP _ _ _ _ _ h) (Or.inl ⟨by rfl, (by intro w hSw; (try dsimp only at hSw); go_simp)⟩) (by assumption) ?_
  simp only [Act.put, List.setIfInBounds_toArray, List.set_cons_zero, List.set_cons_succ]
  refine wpAnyH_done (by kernel_rfl) ?_ _
  exact hQ _ _ rfl rfl rfl kk4
set_option maxRecDepth 100000 in
set_option maxHeartbeats 16000000 in
theorem back_flat {w u : World} {F bx bt : Nat} {t : Tr} {x : IV} {x1 : Option Addr} {n1 y1 : Nat} {x2 : Option Addr} {n2 y2 : Nat} {z1 : Option Addr} {m1 u1 : Nat} {z2 : Option Addr} {m2 u2 : Nat} {Q : Exit → Act → World → Prop} {t22 t23 t24 t25 t26 t27 t28 t29 t30 t31 t32 t33 t34 t35 t36 t37 t38 t39 t40 t41 t42 t43 t44 t45 t46 : Value} {a0 a2 a6 a7 a8 a9 a10 a11 a12 a13 a14 a15 a16 a17 a18 a19 a20 a21 : Value}
    (HC : Hid (∀ {w' : World}, Below u.heap.size u w' → (w'.cell? ⟨w.heap.size, 0, none⟩ = some (.slice x1 n1 y1) ∧ w'.cell? ⟨w.heap.size, 1, none⟩ = some (.slice x2 n2 y2) ∧ w'.cell? ⟨bt, 0, none⟩ = some (.slice z1 m1 u1) ∧ w'.cell? ⟨bt, 1, none⟩ = some (.slice z2 m2 u2) ∧ w'.cell? ⟨bx, 0, none⟩ = some (.int .u8 x.k) ∧ w'.cell? ⟨bx, 1, none⟩ = some (.bool x.b) ∧ w'.cell? ⟨bx, 2, none⟩ = some (.slice x.a1 x.n1 x.c1) ∧ w'.cell? ⟨bx, 3, none⟩ = some (.slice x.a2 x.n2 x.c2) ∧ w'.cell? ⟨bx, 4, none⟩ = some (.int .i32 x.c) ∧ w'.cell? ⟨bx, 5, none⟩ = some (.slice x.a3 x.n3 x.c3)))) (HLv : Hid LiveOK) (KR : Hid (KRight u z1 m1 u1 z2 m2 u2)) (KT : KType u F t z1 m1 u1 z2 m2 u2) (KM2 : KMatch u F (tyArr (tyArr t)) z1 m1 u1 z2 m2 u2) (KM1 : KMatch u F t x1 n1 y1 x2 n2 y2) (KO : KOpen u F t x) 
    (hQ : ∀ (a : Act) w', a.tmps[2]? = some (.bool true) → a.defers = [] → a.tmps.size = 47 → Below u.heap.size u w' → Q .normal a w') (hP : ∀ c a d v w, Q (.panic c) (Act.put a d v) w → Q (.panic c) a w) :
    (Code.region 6 #[{ dst := some 22, op := Op.call { callee := Callee.value (Operand.func 8), args := #[], argTypes := #[] }, type := 4, pos := "law.go:127", after := #[], guard := none }, { dst := some 23, op := Op.move (Operand.tmp 22), type := 4, pos := "law.go:127", after := #[{ on := 0, ground := Ground.data }, { on := 0, ground := Ground.chain }], guard := none }, { dst := some 24, op := Op.move (Operand.tmp 4), type := 4, pos := "law.go:127", after := #[{ on := 1, ground := Ground.guard }], guard := some (1, true) }, { dst := some 25, op := Op.move (Operand.tmp 24), type := 4, pos := "law.go:127", after := #[{ on := 2, ground := Ground.data }, { on := 1, ground := Ground.chain }, { on := 1, ground := Ground.guard }], guard := some (1, true) }, { dst := some 26, op := Op.fieldAddr 45 (Operand.tmp 3) 0, type := 0, pos := "law.go:127", after := #[{ on := 3, ground := Ground.guard }], guard := some (3, true) }, { dst := some 27, op := Op.load 39 (Operand.tmp 26), type := 39, pos := "law.go:127", after := #[{ on := 4, ground := Ground.data }, { on := 3, ground := Ground.guard }], guard := some (3, true) }, { dst := some 28, op := Op.binOp BinOp.eql 39 (Operand.tmp 27) (Operand.const (Value.int IntKind.u8 3)) 39, type := 4, pos := "law.go:127", after := #[{ on := 5, ground := Ground.data }, { on := 3, ground := Ground.guard }], guard := some (3, true) }, { dst := some 29, op := Op.pick (Operand.tmp 25) (Operand.tmp 28) (Operand.const (Value.bool false)), type := 4, pos := "law.go:127", after := #[{ on := 3, ground := Ground.data }, { on := 6, ground := Ground.data }, { on := 1, ground := Ground.guard }], guard := some (1, true) }, { dst := some 30, op := Op.move (Operand.tmp 29), type := 4, pos := "law.go:127", after := #[{ on := 7, ground := Ground.data }, { on := 3, ground := Ground.chain }, { on := 1, ground := Ground.guard }], guard := some (1, true) }, { dst := some 31, op := Op.load 45 (Operand.tmp 3), type := 45, pos := "law.go:127", after := #[{ on := 8, ground := Ground.guard }], guard := some (8, false) }, { dst := some 32, op := Op.call { callee := Callee.value (Operand.func 26), args := #[Operand.tmp 31], argTypes := #[45] }, type := 25, pos := "law.go:127", after := #[{ on := 9, ground := Ground.data }, { on := 8, ground := Ground.chain }, { on := 8, ground := Ground.guard }], guard := some (8, false) }, { dst := some 33, op := Op.load 25 (Operand.tmp 1), type := 25, pos := "law.go:127", after := #[{ on := 8, ground := Ground.guard }], guard := some (8, false) }, { dst := some 34, op := Op.call { callee := Callee.value (Operand.func 25), args := #[Operand.tmp 32, Operand.tmp 33], argTypes := #[25, 25] }, type := 4, pos := "law.go:127", after := #[{ on := 10, ground := Ground.data }, { on := 11, ground := Ground.data }, { on := 10, ground := Ground.chain }, { on := 8, ground := Ground.guard }], guard := some (8, false) }, { dst := some 35, op := Op.pick (Operand.tmp 30) (Operand.const (Value.bool true)) (Operand.tmp 34), type := 4, pos := "law.go:127", after := #[{ on := 8, ground := Ground.data }, { on := 12, ground := Ground.data }, { on := 1, ground := Ground.guard }], guard := some (1, true) }, { dst := some 36, op := Op.pick (Operand.tmp 23) (Operand.tmp 35) (Operand.const (Value.bool false)), type := 4, pos := "law.go:127", after := #[{ on := 1, ground := Ground.data }, { on := 13, ground := Ground.data }], guard := none }, { dst := some 37, op := Op.move (Operand.tmp 36), type := 4, pos := "law.go:127", after := #[{ on := 14, ground := Ground.data }, { on := 12, ground := Ground.chain }], guard := none }, { dst := some 38, op := Op.load 25 (Operand.tmp 5), type := 25, pos := "law.go:127", after := #[{ on := 15, ground := Ground.guard }], guard := some (15, true) }, { dst := some 39, op := Op.call { callee := Callee.value (Operand.func 24), args := #[Operand.tmp 38], argTypes := #[25] }, type := 25, pos := "law.go:127", after := #[{ on := 16, ground := Ground.data }, { on := 15, ground := Ground.chain }, { on := 15, ground := Ground.guard }], guard := some (15, true) }, { dst := some 40, op := Op.load 25 (Operand.tmp 5), type := 25, pos := "law.go:127", after := #[{ on := 15, ground := Ground.guard }], guard := some (15, true) }, { dst := some 41, op := Op.call { callee := Callee.value (Operand.func 25), args := #[Operand.tmp 39, Operand.tmp 40], argTypes := #[25, 25] }, type := 4, pos := "law.go:127", after := #[{ on := 17, ground := Ground.data }, { on := 18, ground := Ground.data }, { on := 17, ground := Ground.chain }, { on := 15, ground := Ground.guard }], guard := some (15, true) }, { dst := some 42, op := Op.pick (Operand.tmp 37) (Operand.tmp 41) (Operand.const (Value.bool false)), type := 4, pos := "law.go:127", after := #[{ on := 15, ground := Ground.data }, { on := 19, ground := Ground.data }], guard := none }, { dst := some 43, op := Op.move (Operand.tmp 42), type := 4, pos := "law.go:127", after := #[{ on := 20, ground := Ground.data }, { on := 19, ground := Ground.chain }], guard := none }, { dst := some 44, op := Op.load 25 (Operand.tmp 5), type := 25, pos := "law.go:127", after := #[{ on := 21, ground := Ground.guard }], guard := some (21, true) }, { dst := some 45, op := Op.call { callee := Callee.value (Operand.func 9), args := #[Operand.tmp 44], argTypes := #[25] }, type := 4, pos := "law.go:127", after := #[{ on := 22, ground := Ground.data }, { on := 21, ground := Ground.chain }, { on := 21, ground := Ground.guard }], guard := some (21, true) }, { dst := some 46, op := Op.pick (Operand.tmp 43) (Operand.tmp 45) (Operand.const (Value.bool false)), type := 4, pos := "law.go:127", after := #[{ on := 21, ground := Ground.data }, { on := 23, ground := Ground.data }], guard := none }, { dst := some 2, op := Op.assign (Operand.tmp 46), type := 4, pos := "law.go:127", after := #[{ on := 24, ground := Ground.data }, { on := 23, ground := Ground.chain }, { on := 0, ground := Ground.phase }, { on := 1, ground := Ground.phase }, { on := 2, ground := Ground.phase }, { on := 3, ground := Ground.phase }, { on := 4, ground := Ground.phase }, { on := 5, ground := Ground.phase }, { on := 6, ground := Ground.phase }, { on := 7, ground := Ground.phase }, { on := 8, ground := Ground.phase }, { on := 9, ground := Ground.phase }, { on := 10, ground := Ground.phase }, { on := 11, ground := Ground.phase }, { on := 12, ground := Ground.phase }, { on := 13, ground := Ground.phase }, { on := 14, ground := Ground.phase }, { on := 15, ground := Ground.phase }, { on := 16, ground := Ground.phase }, { on := 17, ground := Ground.phase }, { on := 18, ground := Ground.phase }, { on := 19, ground := Ground.phase }, { on := 20, ground := Ground.phase }, { on := 21, ground := Ground.phase }, { on := 22, ground := Ground.phase }, { on := 23, ground := Ground.phase }, { on := 24, ground := Ground.phase }], guard := none }] true).wp Try.prog Q { tmps := #[a0, .pointer (some ⟨w.heap.size, 0, none⟩), a2, .pointer (some ⟨bx, 0, none⟩), .bool false, .pointer (some ⟨bt, 0, none⟩), a6, a7, a8, a9, a10, a11, a12, a13, a14, a15, a16, a17, a18, a19, a20, a21, t22, t23, t24, t25, t26, t27, t28, t29, t30, t31, t32, t33, t34, t35, t36, t37, t38, t39, t40, t41, t42, t43, t44, t45, t46], defers := [] } u := by
  have d0 : Below u.heap.size u u.drew := ⟨rfl, rfl, rfl, Nat.le_refl _, fun _ _ => rfl⟩
  have j0 := HC.out d0
  refine wp_region_held_drew (S := (fun w' => w'.cell? ⟨w.heap.size, 0, none⟩ = some (.slice x1 n1 y1) ∧ w'.cell? ⟨w.heap.size, 1, none⟩ = some (.slice x2 n2 y2) ∧ w'.cell? ⟨bt, 0, none⟩ = some (.slice z1 m1 u1) ∧ w'.cell? ⟨bt, 1, none⟩ = some (.slice z2 m2 u2) ∧ w'.cell? ⟨bx, 0, none⟩ = some (.int .u8 x.k) ∧ w'.cell? ⟨bx, 1, none⟩ = some (.bool x.b) ∧ w'.cell? ⟨bx, 2, none⟩ = some (.slice x.a1 x.n1 x.c1) ∧ w'.cell? ⟨bx, 3, none⟩ = some (.slice x.a2 x.n2 x.c2) ∧ w'.cell? ⟨bx, 4, none⟩ = some (.int .i32 x.c) ∧ w'.cell? ⟨bx, 5, none⟩ = some (.slice x.a3 x.n3 x.c3))) (by kernel_rfl) j0 (fun hS => ?_)
  refine wpAnyH_ready (rs := [0]) (by kernel_rfl) (by simp) ?_
  refine AllReadyH.cons (o := { dst := some 22, op := Op.call { callee := Callee.value (Operand.func 8), args := #[], argTypes := #[] }, type := 4, pos := "law.go:127", after := #[], guard := none }) rfl (fun K hK => ?_) AllReadyH.nil
  go_simp
  refine (HLv.out _).mono ?_
  rintro e ww1 ⟨rfl, qq1⟩
  have kk1 : Below u.heap.size u ww1 := d0.trans (qq1.mono d0.size)
  have jj1 := HC.out kk1
  go_simp
  refine hK.out _ _ (jj1) (fun _ => ?_)
  clear hK K
  refine wpAnyH_take (i := 1) (oi := { dst := some 23, op := Op.move (Operand.tmp 22), type := 4, pos := "law.go:127", after := #[{ on := 0, ground := Ground.data }, { on := 0, ground := Ground.chain }], guard := none }) (v := .bool true) rfl (by kernel_rfl) (by kernel_rfl) (by kernel_rfl) (fun _ _ _ h => hP _ _ _ _ _ h) (Or.inl ⟨by rfl, (by intro w hSw; (try dsimp only at hSw); go_simp)⟩) (by assumption) ?_
  simp only [Act.put, List.setIfInBounds_toArray, List.set_cons_zero, List.set_cons_succ]
  refine wpAnyH_take (i := 2) (oi := { dst := some 24, op := Op.move (Operand.tmp 4), type := 4, pos := "law.go:127", after := #[{ on := 1, ground := Ground.guard }], guard := some (1, true) }) (v := .bool false) rfl (by kernel_rfl) (by kernel_rfl) (by kernel_rfl) (fun _ _ _ h => hP _ _ _ _ _ h) (Or.inl ⟨by rfl, (by intro w hSw; (try dsimp only at hSw); go_simp)⟩) (by assumption) ?_
  simp only [Act.put, List.setIfInBounds_toArray, List.set_cons_zero, List.set_cons_succ]
  refine wpAnyH_take (i := 3) (oi := { dst := some 25, op := Op.move (Operand.tmp 24), type := 4, pos := "law.go:127", after := #[{ on := 2, ground := Ground.data }, { on := 1, ground := Ground.chain }, { on := 1, ground := Ground.guard }], guard := some (1, true) }) (v := .bool false) rfl (by kernel_rfl) (by kernel_rfl) (by kernel_rfl) (fun _ _ _ h => hP _ _ _ _ _ h) (Or.inl ⟨by rfl, (by intro w hSw; (try dsimp only at hSw); go_simp)⟩) (by assumption) ?_
  simp only [Act.put, List.setIfInBounds_toArray, List.set_cons_zero, List.set_cons_succ]
  refine wpAnyH_take (i := 4) (oi := { dst := some 26, op := Op.fieldAddr 45 (Operand.tmp 3) 0, type := 0, pos := "law.go:127", after := #[{ on := 3, ground := Ground.guard }], guard := some (3, true) }) (v := undef) rfl (by kernel_rfl) (by kernel_rfl) (by kernel_rfl) (fun _ _ _ h => hP _ _ _ _ _ h) (Or.inr ⟨by rfl, rfl⟩) (by assumption) ?_
  simp only [Act.put, List.setIfInBounds_toArray, List.set_cons_zero, List.set_cons_succ]
  refine wpAnyH_take (i := 5) (oi := { dst := some 27, op := Op.load 39 (Operand.tmp 26), type := 39, pos := "law.go:127", after := #[{ on := 4, ground := Ground.data }, { on := 3, ground := Ground.guard }], guard := some (3, true) }) (v := undef) rfl (by kernel_rfl) (by kernel_rfl) (by kernel_rfl) (fun _ _ _ h => hP _ _ _ _ _ h) (Or.inr ⟨by rfl, rfl⟩) (by assumption) ?_
  simp only [Act.put, List.setIfInBounds_toArray, List.set_cons_zero, List.set_cons_succ]
  refine wpAnyH_take (i := 6) (oi := { dst := some 28, op := Op.binOp BinOp.eql 39 (Operand.tmp 27) (Operand.const (Value.int IntKind.u8 3)) 39, type := 4, pos := "law.go:127", after := #[{ on := 5, ground := Ground.data }, { on := 3, ground := Ground.guard }], guard := some (3, true) }) (v := undef) rfl (by kernel_rfl) (by kernel_rfl) (by kernel_rfl) (fun _ _ _ h => hP _ _ _ _ _ h) (Or.inr ⟨by rfl, rfl⟩) (by assumption) ?_
  simp only [Act.put, List.setIfInBounds_toArray, List.set_cons_zero, List.set_cons_succ]
  refine wpAnyH_take (i := 7) (oi := { dst := some 29, op := Op.pick (Operand.tmp 25) (Operand.tmp 28) (Operand.const (Value.bool false)), type := 4, pos := "law.go:127", after := #[{ on := 3, ground := Ground.data }, { on := 6, ground := Ground.data }, { on := 1, ground := Ground.guard }], guard := some (1, true) }) (v := .bool false) rfl (by kernel_rfl) (by kernel_rfl) (by kernel_rfl) (fun _ _ _ h => hP _ _ _ _ _ h) (Or.inl ⟨by rfl, (by intro w hSw; (try dsimp only at hSw); go_simp)⟩) (by assumption) ?_
  simp only [Act.put, List.setIfInBounds_toArray, List.set_cons_zero, List.set_cons_succ]
  refine wpAnyH_take (i := 8) (oi := { dst := some 30, op := Op.move (Operand.tmp 29), type := 4, pos := "law.go:127", after := #[{ on := 7, ground := Ground.data }, { on := 3, ground := Ground.chain }, { on := 1, ground := Ground.guard }], guard := some (1, true) }) (v := .bool false) rfl (by kernel_rfl) (by kernel_rfl) (by kernel_rfl) (fun _ _ _ h => hP _ _ _ _ _ h) (Or.inl ⟨by rfl, (by intro w hSw; (try dsimp only at hSw); go_simp)⟩) (by assumption) ?_
  simp only [Act.put, List.setIfInBounds_toArray, List.set_cons_zero, List.set_cons_succ]
  refine wpAnyH_take (i := 9) (oi := { dst := some 31, op := Op.load 45 (Operand.tmp 3), type := 45, pos := "law.go:127", after := #[{ on := 8, ground := Ground.guard }], guard := some (8, false) }) (v := .agg #[.int .u8 x.k, .bool x.b, .slice x.a1 x.n1 x.c1, .slice x.a2 x.n2 x.c2, .int .i32 x.c, .slice x.a3 x.n3 x.c3]) rfl (by kernel_rfl) (by kernel_rfl) (by kernel_rfl) (fun _ _ _ h => hP _ _ _ _ _ h) (Or.inl ⟨by rfl, (by intro w hSw; (try dsimp only at hSw); go_simp)⟩) (by assumption) ?_
  simp only [Act.put, List.setIfInBounds_toArray, List.set_cons_zero, List.set_cons_succ]
  refine wpAnyH_take (i := 11) (oi := { dst := some 33, op := Op.load 25 (Operand.tmp 1), type := 25, pos := "law.go:127", after := #[{ on := 8, ground := Ground.guard }], guard := some (8, false) }) (v := .agg #[.slice x1 n1 y1, .slice x2 n2 y2]) rfl (by kernel_rfl) (by kernel_rfl) (by kernel_rfl) (fun _ _ _ h => hP _ _ _ _ _ h) (Or.inl ⟨by rfl, (by intro w hSw; (try dsimp only at hSw); go_simp)⟩) (by assumption) ?_
  simp only [Act.put, List.setIfInBounds_toArray, List.set_cons_zero, List.set_cons_succ]
  refine wpAnyH_ready (rs := [10]) (by kernel_rfl) (by simp) ?_
  refine AllReadyH.cons (o := { dst := some 32, op := Op.call { callee := Callee.value (Operand.func 26), args := #[Operand.tmp 31], argTypes := #[45] }, type := 25, pos := "law.go:127", after := #[{ on := 9, ground := Ground.data }, { on := 8, ground := Ground.chain }, { on := 8, ground := Ground.guard }], guard := some (8, false) }) rfl (fun K hK => ?_) AllReadyH.nil
  go_simp
  refine (KO.out _ kk1).mono ?_
  rintro e ww2 ⟨s1, e1, f1, s2, e2, f2, rfl, hv, qq2⟩
  have kk2 : Below u.heap.size u ww2 := kk1.trans (qq2.mono kk1.size)
  have jj2 := HC.out kk2
  have HVO : Hid (ArV (F + 1) (Fr ww1.heap.size ww2.heap.size) ww2 (.slice s1 e1 f1) (.slice s2 e2 f2) t) := hv
  clear hv
  go_simp
  refine hK.out _ _ (jj2) (fun _ => ?_)
  clear hK K
  refine wpAnyH_ready (rs := [12]) (by kernel_rfl) (by simp) ?_
  refine AllReadyH.cons (o := { dst := some 34, op := Op.call { callee := Callee.value (Operand.func 25), args := #[Operand.tmp 32, Operand.tmp 33], argTypes := #[25, 25] }, type := 4, pos := "law.go:127", after := #[{ on := 10, ground := Ground.data }, { on := 11, ground := Ground.data }, { on := 10, ground := Ground.chain }, { on := 8, ground := Ground.guard }], guard := some (8, false) }) rfl (fun K hK => ?_) AllReadyH.nil
  go_simp
  refine (KM1.out _ s1 e1 f1 s2 e2 f2 _ kk2 HVO.out).mono ?_
  rintro e ww3 ⟨rfl, qq3⟩
  have kk3 : Below u.heap.size u ww3 := kk2.trans (qq3.mono kk2.size)
  have jj3 := HC.out kk3
  go_simp
  refine hK.out _ _ (jj3) (fun _ => ?_)
  clear hK K
  refine wpAnyH_take (i := 13) (oi := { dst := some 35, op := Op.pick (Operand.tmp 30) (Operand.const (Value.bool true)) (Operand.tmp 34), type := 4, pos := "law.go:127", after := #[{ on := 8, ground := Ground.data }, { on := 12, ground := Ground.data }, { on := 1, ground := Ground.guard }], guard := some (1, true) }) (v := .bool true) rfl (by kernel_rfl) (by kernel_rfl) (by kernel_rfl) (fun _ _ _ h => hP _ _ _ _ _ h) (Or.inl ⟨by rfl, (by intro w hSw; (try dsimp only at hSw); go_simp)⟩) (by assumption) ?_
  simp only [Act.put, List.setIfInBounds_toArray, List.set_cons_zero, List.set_cons_succ]
  refine wpAnyH_take (i := 14) (oi := { dst := some 36, op := Op.pick (Operand.tmp 23) (Operand.tmp 35) (Operand.const (Value.bool false)), type := 4, pos := "law.go:127", after := #[{ on := 1, ground := Ground.data }, { on := 13, ground := Ground.data }], guard := none }) (v := .bool true) rfl (by kernel_rfl) (by kernel_rfl) (by kernel_rfl) (fun _ _ _ h => hP _ _ _ _ _ h) (Or.inl ⟨by rfl, (by intro w hSw; (try dsimp only at hSw); go_simp)⟩) (by assumption) ?_
  simp only [Act.put, List.setIfInBounds_toArray, List.set_cons_zero, List.set_cons_succ]
  refine wpAnyH_take (i := 15) (oi := { dst := some 37, op := Op.move (Operand.tmp 36), type := 4, pos := "law.go:127", after := #[{ on := 14, ground := Ground.data }, { on := 12, ground := Ground.chain }], guard := none }) (v := .bool true) rfl (by kernel_rfl) (by kernel_rfl) (by kernel_rfl) (fun _ _ _ h => hP _ _ _ _ _ h) (Or.inl ⟨by rfl, (by intro w hSw; (try dsimp only at hSw); go_simp)⟩) (by assumption) ?_
  simp only [Act.put, List.setIfInBounds_toArray, List.set_cons_zero, List.set_cons_succ]
  refine wpAnyH_take (i := 16) (oi := { dst := some 38, op := Op.load 25 (Operand.tmp 5), type := 25, pos := "law.go:127", after := #[{ on := 15, ground := Ground.guard }], guard := some (15, true) }) (v := .agg #[.slice z1 m1 u1, .slice z2 m2 u2]) rfl (by kernel_rfl) (by kernel_rfl) (by kernel_rfl) (fun _ _ _ h => hP _ _ _ _ _ h) (Or.inl ⟨by rfl, (by intro w hSw; (try dsimp only at hSw); go_simp)⟩) (by assumption) ?_
  simp only [Act.put, List.setIfInBounds_toArray, List.set_cons_zero, List.set_cons_succ]
  refine wpAnyH_take (i := 18) (oi := { dst := some 40, op := Op.load 25 (Operand.tmp 5), type := 25, pos := "law.go:127", after := #[{ on := 15, ground := Ground.guard }], guard := some (15, true) }) (v := .agg #[.slice z1 m1 u1, .slice z2 m2 u2]) rfl (by kernel_rfl) (by kernel_rfl) (by kernel_rfl) (fun _ _ _ h => hP _ _ _ _ _ h) (Or.inl ⟨by rfl, (by intro w hSw; (try dsimp only at hSw); go_simp)⟩) (by assumption) ?_
  simp only [Act.put, List.setIfInBounds_toArray, List.set_cons_zero, List.set_cons_succ]
  refine wpAnyH_ready (rs := [17]) (by kernel_rfl) (by simp) ?_
  refine AllReadyH.cons (o := { dst := some 39, op := Op.call { callee := Callee.value (Operand.func 24), args := #[Operand.tmp 38], argTypes := #[25] }, type := 25, pos := "law.go:127", after := #[{ on := 16, ground := Ground.data }, { on := 15, ground := Ground.chain }, { on := 15, ground := Ground.guard }], guard := some (15, true) }) rfl (fun K hK => ?_) AllReadyH.nil
  go_simp
  refine (KT.out _ kk3).mono ?_
  rintro e ww4 ⟨p1, v1, r1, p2, v2, r2, rfl, hv, qq4⟩
  have kk4 : Below u.heap.size u ww4 := kk3.trans (qq4.mono kk3.size)
  have jj4 := HC.out kk4
  have HVT : Hid (ArV (F + 1) (Fr ww3.heap.size ww4.heap.size) ww4 (.slice p1 v1 r1) (.slice p2 v2 r2) (tyArr (tyArr t))) := hv
  clear hv
  go_simp
  refine hK.out _ _ (jj4) (fun _ => ?_)
  clear hK K
  refine wpAnyH_ready (rs := [19]) (by kernel_rfl) (by simp) ?_
  refine AllReadyH.cons (o := { dst := some 41, op := Op.call { callee := Callee.value (Operand.func 25), args := #[Operand.tmp 39, Operand.tmp 40], argTypes := #[25, 25] }, type := 4, pos := "law.go:127", after := #[{ on := 17, ground := Ground.data }, { on := 18, ground := Ground.data }, { on := 17, ground := Ground.chain }, { on := 15, ground := Ground.guard }], guard := some (15, true) }) rfl (fun K hK => ?_) AllReadyH.nil
  go_simp
  refine (KM2.out _ p1 v1 r1 p2 v2 r2 _ kk4 HVT.out).mono ?_
  rintro e ww5 ⟨rfl, qq5⟩
  have kk5 : Below u.heap.size u ww5 := kk4.trans (qq5.mono kk4.size)
  have jj5 := HC.out kk5
  go_simp
  refine hK.out _ _ (jj5) (fun _ => ?_)
  clear hK K
  refine wpAnyH_take (i := 20) (oi := { dst := some 42, op := Op.pick (Operand.tmp 37) (Operand.tmp 41) (Operand.const (Value.bool false)), type := 4, pos := "law.go:127", after := #[{ on := 15, ground := Ground.data }, { on := 19, ground := Ground.data }], guard := none }) (v := .bool true) rfl (by kernel_rfl) (by kernel_rfl) (by kernel_rfl) (fun _ _ _ h => hP _ _ _ _ _ h) (Or.inl ⟨by rfl, (by intro w hSw; (try dsimp only at hSw); go_simp)⟩) (by assumption) ?_
  simp only [Act.put, List.setIfInBounds_toArray, List.set_cons_zero, List.set_cons_succ]
  refine wpAnyH_take (i := 21) (oi := { dst := some 43, op := Op.move (Operand.tmp 42), type := 4, pos := "law.go:127", after := #[{ on := 20, ground := Ground.data }, { on := 19, ground := Ground.chain }], guard := none }) (v := .bool true) rfl (by kernel_rfl) (by kernel_rfl) (by kernel_rfl) (fun _ _ _ h => hP _ _ _ _ _ h) (Or.inl ⟨by rfl, (by intro w hSw; (try dsimp only at hSw); go_simp)⟩) (by assumption) ?_
  simp only [Act.put, List.setIfInBounds_toArray, List.set_cons_zero, List.set_cons_succ]
  refine wpAnyH_take (i := 22) (oi := { dst := some 44, op := Op.load 25 (Operand.tmp 5), type := 25, pos := "law.go:127", after := #[{ on := 21, ground := Ground.guard }], guard := some (21, true) }) (v := .agg #[.slice z1 m1 u1, .slice z2 m2 u2]) rfl (by kernel_rfl) (by kernel_rfl) (by kernel_rfl) (fun _ _ _ h => hP _ _ _ _ _ h) (Or.inl ⟨by rfl, (by intro w hSw; (try dsimp only at hSw); go_simp)⟩) (by assumption) ?_
  simp only [Act.put, List.setIfInBounds_toArray, List.set_cons_zero, List.set_cons_succ]
  refine wpAnyH_ready (rs := [23]) (by kernel_rfl) (by simp) ?_
  refine AllReadyH.cons (o := { dst := some 45, op := Op.call { callee := Callee.value (Operand.func 9), args := #[Operand.tmp 44], argTypes := #[25] }, type := 4, pos := "law.go:127", after := #[{ on := 22, ground := Ground.data }, { on := 21, ground := Ground.chain }, { on := 21, ground := Ground.guard }], guard := some (21, true) }) rfl (fun K hK => ?_) AllReadyH.nil
  go_simp
  refine (KR.out _ kk5).mono ?_
  rintro e ww6 ⟨rfl, qq6⟩
  have kk6 : Below u.heap.size u ww6 := kk5.trans (qq6.mono kk5.size)
  have jj6 := HC.out kk6
  go_simp
  refine hK.out _ _ (jj6) (fun _ => ?_)
  clear hK K
  refine wpAnyH_take (i := 24) (oi := { dst := some 46, op := Op.pick (Operand.tmp 43) (Operand.tmp 45) (Operand.const (Value.bool false)), type := 4, pos := "law.go:127", after := #[{ on := 21, ground := Ground.data }, { on := 23, ground := Ground.data }], guard := none }) (v := .bool true) rfl (by kernel_rfl) (by kernel_rfl) (by kernel_rfl) (fun _ _ _ h => hP _ _ _ _ _ h) (Or.inl ⟨by rfl, (by intro w hSw; (try dsimp only at hSw); go_simp)⟩) (by assumption) ?_
  simp only [Act.put, List.setIfInBounds_toArray, List.set_cons_zero, List.set_cons_succ]
  refine wpAnyH_take (i := 25) (oi := { dst := some 2, op := Op.assign (Operand.tmp 46), type := 4, pos := "law.go:127", after := #[{ on := 24, ground := Ground.data }, { on := 23, ground := Ground.chain }, { on := 0, ground := Ground.phase }, { on := 1, ground := Ground.phase }, { on := 2, ground := Ground.phase }, { on := 3, ground := Ground.phase }, { on := 4, ground := Ground.phase }, { on := 5, ground := Ground.phase }, { on := 6, ground := Ground.phase }, { on := 7, ground := Ground.phase }, { on := 8, ground := Ground.phase }, { on := 9, ground := Ground.phase }, { on := 10, ground := Ground.phase }, { on := 11, ground := Ground.phase }, { on := 12, ground := Ground.phase }, { on := 13, ground := Ground.phase }, { on := 14, ground := Ground.phase }, { on := 15, ground := Ground.phase }, { on := 16, ground := Ground.phase }, { on := 17, ground := Ground.phase }, { on := 18, ground := Ground.phase }, { on := 19, ground := Ground.phase }, { on := 20, ground := Ground.phase }, { on := 21, ground := Ground.phase }, { on := 22, ground := Ground.phase }, { on := 23, ground := Ground.phase }, { on := 24, ground := Ground.phase }], guard := none }) (v := .bool true) rfl (by kernel_rfl) (by kernel_rfl) (by kernel_rfl) (fun _ _ _ h => hP _ _ _ _ _ h) (Or.inl ⟨by rfl, (by intro w hSw; (try dsimp only at hSw); go_simp)⟩) (by assumption) ?_
  simp only [Act.put, List.setIfInBounds_toArray, List.set_cons_zero, List.set_cons_succ]
  refine wpAnyH_done (by kernel_rfl) ?_ _
  exact hQ _ _ rfl rfl rfl kk6
section
variable {D : Nat → Prop} {f : Nat} {W : World} {x1 : Option Addr} {n1 y1 : Nat} {x2 : Option Addr} {n2 y2 : Nat} {t : Tr}
theorem measI_flat {M M' : Tr → Option (Int × Int)} {t : Tr} (h : (measI M t).isSome = true) (hk : ¬ t.k = 3) : measI M' t = measI M t := by
  rcases measI_cases h with ⟨h1, h2⟩ | ⟨h1, h2⟩ | ⟨h1, _⟩
  · rw [measI_num h1 h2, measI_num h1 h2]
  · rw [measI_ch h1 h2, measI_ch h1 h2]
  · exact absurd h1 hk
theorem simp_is {t : Tr} (h : simpB t = true) : t.ns = [] ∧ t.kids = [t.kids.getD 0 tr0] ∧ ¬ (t.kids.getD 0 tr0).k = 3 := by
  unfold simpB at h
  simp only [Bool.and_eq_true, Bool.or_eq_true, decide_eq_true_eq] at h
  obtain ⟨⟨h1, h2⟩, h3⟩ := h
  refine ⟨List.eq_nil_of_length_eq_zero h1, ?_, by omega⟩
  obtain ⟨a, ha⟩ := List.length_eq_one_iff.1 h2
  rw [ha]; rfl
set_option maxRecDepth 100000 in
set_option maxHeartbeats 6400000 in
theorem enclose_simple (hD : ∀ g, D g → g < W.heap.size) (h : ArV (f + 1) D W (.slice x1 n1 y1) (.slice x2 n2 y2) t) (hR : (measF 16 t).isSome = true) (hs : simpB t = true) :
    Calls Try.prog 23 #[.agg #[.slice x1 n1 y1, .slice x2 n2 y2]] W fun e w' => ∃ y : IV, e = .returned (.agg #[.int .u8 y.k, .bool y.b, .slice y.a1 y.n1 y.c1, .slice y.a2 y.n2 y.c2, .int .i32 y.c, .slice y.a3 y.n3 y.c3]) ∧ IsIt f (Fr W.heap.size w'.heap.size) w' y (t.kids.getD 0 tr0) ∧ Below W.heap.size W w' := by
  obtain ⟨e1, e2, e3⟩ := simp_is hs
  have hl1 : t.kids.length = 1 := by rw [e2]; rfl
  obtain ⟨L', hL', b1, b2, b3, b4, b5⟩ := measF_some hR
  obtain ⟨Lx, hLx, hrx, hix⟩ := row_iv h.2
  obtain rfl := h.2.len
  have hix0 := hix 0 (by omega)
  have hrx2 : RowB D Lx.length (.slice x2 t.kids.length y2) (fun g o j => CellsAt W g (o + j * 6) (Lx.getD j iv0)) := hrx
  rw [hLx] at hrx2
  obtain ⟨g1, o1, rfl, hg1, hc1⟩ := RowB.ptr hrx2 (by omega)
  have hcc := hc1 0 (by omega)
  rw [Nat.zero_mul, Nat.add_zero] at hcc
  generalize Lx.getD 0 iv0 = x at *
  rw [hl1] at *
  have k0 := below_alloc W (.cells #[.slice x1 n1 y1, .slice (some ⟨g1, o1, none⟩) 1 y2] 25)
  have X0 := boxA_new W #[.slice x1 n1 y1, .slice (some ⟨g1, o1, none⟩) 1 y2] 25
  have k1 := below_alloc (W.alloc (.cells #[.slice x1 n1 y1, .slice (some ⟨g1, o1, none⟩) 1 y2] 25)) (.cells #[.int .u8 0, .bool false, .slice none 0 0, .slice none 0 0, .int .i32 0, .slice none 0 0] 45)
  have R := boxA_new (W.alloc (.cells #[.slice x1 n1 y1, .slice (some ⟨g1, o1, none⟩) 1 y2] 25)) #[.int .u8 0, .bool false, .slice none 0 0, .slice none 0 0, .int .i32 0, .slice none 0 0] 45
  rw [World.size_alloc] at R
  have X := X0.below k1 (by simp)
  have g : Below W.heap.size W _ := k0.trans (k1.mono (by simp))
  have sv : ((W.alloc (.cells #[.slice x1 n1 y1, .slice (some ⟨g1, o1, none⟩) 1 y2] 25)).alloc (.cells #[.int .u8 0, .bool false, .slice none 0 0, .slice none 0 0, .int .i32 0, .slice none 0 0] 45)).heap.size = W.heap.size + 1 + 1 := by simp
  have z0 := X.cell 0 rfl
  have z1 := X.cell 1 rfl
  have H : Hid (ArV (f + 1) D W (.slice x1 n1 y1) (.slice (some ⟨g1, o1, none⟩) 1 y2) t) := h
  have HD : Hid (∀ g, D g → g < W.heap.size) := hD
  have HR : Hid ((measF 16 t).isSome = true) := hR
  have HSB : Hid (simpB t = true) := hs
  have HM : Hid ((measI (measF L') (t.kids.getD 0 tr0)).isSome = true) := b5 _ (by rw [e2]; simp)
  have HX : Hid (IsIt f D W x (t.kids.getD 0 tr0)) := hix0
  have HCc : Hid (CellsAt W g1 o1 x) := hcc
  have lg := hD g1 hg1
  clear h hD hR hs b1 b2 b3 b4 b5 hL' hix hix0 hrx hrx2 hc1 hcc e1 e2 e3 hl1 hLx
  go_enter Try.func23, Try.ntmps23
  go_wp2_with fail
  generalize hA : (W.alloc (.cells #[.slice x1 n1 y1, .slice (some ⟨g1, o1, none⟩) 1 y2] 25)).alloc (.cells #[.int .u8 0, .bool false, .slice none 0 0, .slice none 0 0, .int .i32 0, .slice none 0 0] 45) = v at *
  clear hA k0 k1 X0
  refine (right3_any (fun g' hg => by have := HD.out g' hg; omega) (H.out.agree (Agree.of g HD.out))).mono ?_
  rintro e w1 ⟨rfl, q1⟩
  rw [HR.out]
  have X1 := X.below q1 (by omega)
  have k1 : Below W.heap.size W w1 := g.trans (q1.mono (by omega))
  have s1 := q1.size
  have v0 := X1.cell 0 rfl
  have v1 := X1.cell 1 rfl
  clear z0 z1
  go_wp2_with fail
  refine (isSimpleT_any (H.out.agree (Agree.of k1 HD.out)) (fun g' hg => by have := HD.out g' hg; omega)).mono ?_
  rintro e w2 ⟨rfl, hw⟩
  have q2 := below_alloc w1 (.cells #[.slice x1 n1 y1, .slice (some ⟨g1, o1, none⟩) 1 y2] 25)
  rw [← hw] at q2
  clear hw
  rw [HSB.out]
  have s2 := q2.size
  have X2 := X1.below q2 (by omega)
  have k2 : Below W.heap.size W w2 := k1.trans (q2.mono (by omega))
  have u1 := X2.cell 1 rfl
  clear v0 v1
  have hcw := HCc.out.agree (D := fun q => q < W.heap.size) (fun q hq => k2.block q hq) lg
  obtain ⟨i0, i1, i2, i3, i4, i5⟩ := hcw
  have T := copyOf_all f L' D w2 x _ (fun g' hg => by have := HD.out g' hg; omega) (HX.out.agree (Agree.of k2 HD.out)) HM.out
  go_wp2_with fail
  refine T.mono ?_
  rintro e w3 ⟨y, rfl, hy, q3⟩
  clear T i0 i1 i2 i3 i4 i5
  have HY : Hid (IsIt f (Fr w2.heap.size w3.heap.size) w3 y (t.kids.getD 0 tr0)) := hy
  clear hy
  have s3 := q3.size
  have kx : Below v.heap.size v w3 := (q1.trans (q2.mono s1)).trans (q3.mono (by omega))
  have Rc := R.below kx (by omega)
  have q0 := Rc.cell 0 rfl
  have q1' := Rc.cell 1 rfl
  have q2' := Rc.cell 2 rfl
  have q3' := Rc.cell 3 rfl
  have q4' := Rc.cell 4 rfl
  have q5 := Rc.cell 5 rfl
  have f0 := Rc.frozen 0
  have f1 := Rc.frozen 1
  have f2 := Rc.frozen 2
  have f3 := Rc.frozen 3
  have f4 := Rc.frozen 4
  have f5 := Rc.frozen 5
  go_wp2
  have Rd6 := Rc.set6 (.int .u8 y.k) (.bool y.b) (.slice y.a1 y.n1 y.c1) (.slice y.a2 y.n2 y.c2) (.int .i32 y.c) (.slice y.a3 y.n3 y.c3)
  have r0 := Rd6.cell 0 rfl
  have r1 := Rd6.cell 1 rfl
  have r2 := Rd6.cell 2 rfl
  have r3 := Rd6.cell 3 rfl
  have r4 := Rd6.cell 4 rfl
  have r5 := Rd6.cell 5 rfl
  try simp only [Exit.inBlock, Exit.then]
  refine bodyPost_ret (v := .agg #[.int .u8 y.k, .bool y.b, .slice y.a1 y.n1 y.c1, .slice y.a2 y.n2 y.c2, .int .i32 y.c, .slice y.a3 y.n3 y.c3]) ?_ rfl ?_
  · simp [results, Try.results23, go_sem, r0, r1, r2, r3, r4, r5]
  refine ⟨y, rfl, HY.out.imp ?_ ?_, Below.set6 (g.trans (kx.mono (by omega))) (by omega) _ _ _ _ _ _⟩
  · rintro q ⟨h1, h2⟩; exact ⟨by omega, by rw [set6_size]; exact h2⟩
  · rintro q ⟨h1, h2⟩; exact set6_other (by omega) _ _ _ _ _ _
/-- A simple scalar has no level, and one cell. -/
theorem meas_simp {t : Tr} {d c : Int} (h : measF 16 t = some (d, c)) (hs : simpB t = true) : d = 0 ∧ c = 1 := by
  obtain ⟨e1, e2, e3⟩ := simp_is hs
  obtain ⟨L', hL', b1, b2, b3, b4, b5⟩ := measF_some (by rw [h]; rfl)
  have hm := b5 _ (show t.kids.getD 0 tr0 ∈ t.kids by rw [e2]; simp)
  have h00 : measI (measF L') (t.kids.getD 0 tr0) = some (0, 0) := by
    rcases measI_cases hm with ⟨h1, h2⟩ | ⟨h1, h2⟩ | ⟨h1, _⟩
    · exact measI_num h1 h2
    · exact measI_ch h1 h2
    · exact absurd h1 e3
  have hl : (t.kids.length : Int) = 1 := by rw [e2]; rfl
  have hL : (16 : Nat) = L' + 1 := hL'
  rw [hL, measF_succ ⟨b2, b3⟩, hl, measL_zero _ _ (fun x hx => by rw [e2] at hx; simp only [List.mem_cons, List.not_mem_nil, or_false] at hx; subst hx; exact h00) (by omega)] at h
  unfold finM at h
  simp only [hs, if_true] at h
  cases h
  exact ⟨rfl, rfl⟩
/-- What Enclose tells. -/
def EncP (f B : Nat) (t : Tr) (w' : World) (y : IV) : Prop := (simpB t = false ∧ IsIt (f + 1) (Fr B w'.heap.size) w' y (boxT t)) ∨ (simpB t = true ∧ IsIt f (Fr B w'.heap.size) w' y (t.kids.getD 0 tr0))
theorem enclose_any (hD : ∀ g, D g → g < W.heap.size) (h : ArV (f + 1) D W (.slice x1 n1 y1) (.slice x2 n2 y2) t) (hR : (measF 16 t).isSome = true) :
    Calls Try.prog 23 #[.agg #[.slice x1 n1 y1, .slice x2 n2 y2]] W fun e w' => ∃ y : IV, e = .returned (.agg #[.int .u8 y.k, .bool y.b, .slice y.a1 y.n1 y.c1, .slice y.a2 y.n2 y.c2, .int .i32 y.c, .slice y.a3 y.n3 y.c3]) ∧ EncP f W.heap.size t w' y ∧ Below W.heap.size W w' := by
  cases hs : simpB t with
  | false =>
    refine (enclose_box hD h hR hs).mono ?_
    rintro e w' ⟨y, rfl, hy, k⟩
    exact ⟨y, rfl, Or.inl ⟨hs, hy⟩, k⟩
  | true =>
    refine (enclose_simple hD h hR hs).mono ?_
    rintro e w' ⟨y, rfl, hy, k⟩
    exact ⟨y, rfl, Or.inr ⟨hs, hy⟩, k⟩
/-- What is enclosed is opened as it was. -/
theorem open_enc {B : Nat} {w : World} {y : IV} (hy : EncP f B t w y) (hR : (measF 16 t).isSome = true) {w' : World} (k : Below w.heap.size w w') :
    Calls Try.prog 26 #[.agg #[.int .u8 y.k, .bool y.b, .slice y.a1 y.n1 y.c1, .slice y.a2 y.n2 y.c2, .int .i32 y.c, .slice y.a3 y.n3 y.c3]] w' fun e w'' => ∃ z1 m1 u1 z2 m2 u2, e = .returned (.agg #[.slice z1 m1 u1, .slice z2 m2 u2]) ∧ ArV (f + 1) (Fr w'.heap.size w''.heap.size) w'' (.slice z1 m1 u1) (.slice z2 m2 u2) t ∧ Below w'.heap.size w' w'' := by
  have hs := k.size
  rcases hy with ⟨h1, h2⟩ | ⟨h1, h2⟩
  · exact open_box (D := Fr B w.heap.size) (fun q hq => by have := hq.2; omega) (h2.agree (fun q hq => k.block q hq.2)) hR h1
  · obtain ⟨e1, e2, e3⟩ := simp_is h1
    obtain ⟨L', hL', b1, b2, b3, b4, b5⟩ := measF_some hR
    have hm := b5 _ (show t.kids.getD 0 tr0 ∈ t.kids by rw [e2]; simp)
    refine (open_simple (D := Fr B w.heap.size) (fun q hq => by have := hq.2; omega) (h2.agree (fun q hq => k.block q hq.2)) (by rw [measI_flat hm e3]; exact hm) e3).mono ?_
    rintro e w'' ⟨z1, m1, u1, z2, m2, u2, rfl, hv, kk⟩
    refine ⟨z1, m1, u1, z2, m2, u2, rfl, ?_, kk⟩
    obtain ⟨q1, q2⟩ := hv
    refine ⟨?_, ?_⟩
    · rw [e1]; exact q1
    · rw [e2]; exact q2
set_option maxRecDepth 100000 in
set_option maxHeartbeats 16000000 in
theorem arrayBack_walk {F : Nat} {w : World} (hD : ∀ g, D g → g < w.heap.size) (h : ArV F D w (.slice x1 n1 y1) (.slice x2 n2 y2) t) :
    Calls Try.prog 5 #[.agg #[.slice x1 n1 y1, .slice x2 n2 y2]] w fun e w' => e = .returned (.bool true) ∧ Below w.heap.size w w' := by
  obtain ⟨F, rfl⟩ : ∃ F', F = F' + 1 := by
    cases F with
    | zero => exact h.elim
    | succ F => exact ⟨F, rfl⟩
  have k0 := below_alloc w (.cells #[.slice x1 n1 y1, .slice x2 n2 y2] 25)
  have X0 := boxA_new w #[.slice x1 n1 y1, .slice x2 n2 y2] 25
  have s0 : w.heap.size < (w.alloc (.cells #[.slice x1 n1 y1, .slice x2 n2 y2] 25)).heap.size := by simp
  have z0 := X0.cell 0 rfl
  have z1 := X0.cell 1 rfl
  have H : Hid (ArV (F + 1) D w (.slice x1 n1 y1) (.slice x2 n2 y2) t) := h
  have HD : Hid (∀ g, D g → g < w.heap.size) := hD
  have HLv : Hid LiveOK := live3_ok
  clear h hD
  go_enter Try.func5, Try.ntmps5
  go_wp2_with fail
  generalize hA : w.alloc (.cells #[.slice x1 n1 y1, .slice x2 n2 y2] 25) = v at *
  clear hA
  have hAr : ∀ {w' : World}, Below v.heap.size v w' → ArV (F + 1) D w' (.slice x1 n1 y1) (.slice x2 n2 y2) t := fun k => H.out.agree (Agree.of (k0.trans (k.mono (Nat.le_of_lt s0))) HD.out)
  have hDA : ∀ {w' : World}, Below v.heap.size v w' → ∀ g, D g → g < w'.heap.size := fun k g hg => by have := HD.out g hg; have := k.size; omega
  have HAr : Hid (∀ {w' : World}, Below v.heap.size v w' → ArV (F + 1) D w' (.slice x1 n1 y1) (.slice x2 n2 y2) t) := hAr
  have HDA : Hid (∀ {w' : World}, Below v.heap.size v w' → ∀ g, D g → g < w'.heap.size) := hDA
  clear hAr hDA
  have kr : Below v.heap.size v v := Below.refl _ _
  have C1 := right3_any (HDA.out kr) (HAr.out kr)
  obtain ⟨R, hR⟩ : ∃ R, (measF 16 t).isSome = R := ⟨_, rfl⟩
  rw [hR] at C1
  refine C1.mono ?_
  rintro e w1 ⟨rfl, q1⟩
  clear C1 z0 z1 kr
  have X1 := X0.below q1 s0
  have u0 := X1.cell 0 rfl
  have u1 := X1.cell 1 rfl
  cases R with
  | false =>
    clear hR
    go_wp2_with fail
    refine (HLv.out _).mono ?_
    rintro e w2 ⟨rfl, q2⟩
    go_wp2
    go_ret
    exact ⟨rfl, k0.trans ((q1.trans (q2.mono q1.size)).mono (by omega))⟩
  | true =>
  have HR : Hid ((measF 16 t).isSome = true) := hR
  have C2 := enclose_any (HDA.out q1) (HAr.out q1) hR
  clear hR
  go_wp2_with fail
  refine C2.mono ?_
  rintro e w2 ⟨x, rfl, hx, q2⟩
  clear C2 u0 u1
  have HX : Hid (EncP F w1.heap.size t w2 x) := hx
  clear hx
  have k2 : Below v.heap.size v w2 := q1.trans (q2.mono q1.size)
  have BX := boxA_new w2 #[.int .u8 x.k, .bool x.b, .slice x.a1 x.n1 x.c1, .slice x.a2 x.n2 x.c2, .int .i32 x.c, .slice x.a3 x.n3 x.c3] 45
  have kX := below_alloc w2 (.cells #[.int .u8 x.k, .bool x.b, .slice x.a1 x.n1 x.c1, .slice x.a2 x.n2 x.c2, .int .i32 x.c, .slice x.a3 x.n3 x.c3] 45)
  have k3 : Below v.heap.size v (w2.alloc (.cells #[.int .u8 x.k, .bool x.b, .slice x.a1 x.n1 x.c1, .slice x.a2 x.n2 x.c2, .int .i32 x.c, .slice x.a3 x.n3 x.c3] 45)) := k2.trans (kX.mono k2.size)
  have l3 := BX.lt
  have X3 := X0.below k3 s0
  have u0 := X3.cell 0 rfl
  have u1 := X3.cell 1 rfl
  obtain ⟨p, hp⟩ : ∃ p, measF 16 t = some p := Option.isSome_iff_exists.1 HR.out
  obtain ⟨d, c⟩ := p
  have HMp : Hid (measF 16 t = some (d, c)) := hp
  have C3 := depth3_any (HDA.out k3) (HAr.out k3)
  rw [hp] at C3
  simp only [Option.getD_some] at C3
  clear hp
  go_wp2_with fail
  generalize hA3 : w2.alloc (.cells #[.int .u8 x.k, .bool x.b, .slice x.a1 x.n1 x.c1, .slice x.a2 x.n2 x.c2, .int .i32 x.c, .slice x.a3 x.n3 x.c3] 45) = w3 at *
  clear hA3
  refine C3.mono ?_
  rintro e w4 ⟨rfl, q4⟩
  clear C3 u0 u1
  have k4 : Below v.heap.size v w4 := k3.trans (q4.mono k3.size)
  have X4 := X0.below k4 s0
  have u0 := X4.cell 0 rfl
  have u1 := X4.cell 1 rfl
  -- what both ways share behind the test
  have hrest : ∀ {w6 : World}, Below w3.heap.size w3 w6 → Calls Try.prog 24 #[.agg #[.slice x1 n1 y1, .slice x2 n2 y2]] w6 fun e w' => ∃ z1 m1 u1 z2 m2 u2, e = .returned (.agg #[.slice z1 m1 u1, .slice z2 m2 u2]) ∧ ArV (F + 1) (Fr w6.heap.size w'.heap.size) w' (.slice z1 m1 u1) (.slice z2 m2 u2) (tyArr t) ∧ Below w6.heap.size w6 w' := fun kk => type_right (HDA.out (k3.trans (kk.mono k3.size))) (HAr.out (k3.trans (kk.mono k3.size))) HR.out
  have HT : Hid (∀ {w6 : World}, Below w3.heap.size w3 w6 → Calls Try.prog 24 #[.agg #[.slice x1 n1 y1, .slice x2 n2 y2]] w6 fun e w' => ∃ z1 m1 u1 z2 m2 u2, e = .returned (.agg #[.slice z1 m1 u1, .slice z2 m2 u2]) ∧ ArV (F + 1) (Fr w6.heap.size w'.heap.size) w' (.slice z1 m1 u1) (.slice z2 m2 u2) (tyArr t) ∧ Below w6.heap.size w6 w') := hrest
  clear hrest
  by_cases hd : 16 ≤ d
  · have HDeep : Hid (16 ≤ d ∨ 16384 ≤ c) := Or.inl hd
    go_wp2_with fail
    refine (HT.out q4).mono ?_
    rintro e w7 ⟨z1, m1, v1, z2, m2, v2, rfl, hv, q7⟩
    have HV7 : Hid (ArV (F + 1) (Fr w4.heap.size w7.heap.size) w7 (.slice z1 m1 v1) (.slice z2 m2 v2) (tyArr t)) := hv
    clear hv
    have s7 := q7.size
    have k37 : Below w3.heap.size w3 w7 := q4.trans (q7.mono q4.size)
    have BT := boxA_new w7 #[.slice z1 m1 v1, .slice z2 m2 v2] 25
    have kT := below_alloc w7 (.cells #[.slice z1 m1 v1, .slice z2 m2 v2] 25)
    have lT := BT.lt
    have k3u : Below w3.heap.size w3 (w7.alloc (.cells #[.slice z1 m1 v1, .slice z2 m2 v2] 25)) := k37.trans (kT.mono k37.size)
    go_upto_region 6 with fail
    generalize hAu : w7.alloc (.cells #[.slice z1 m1 v1, .slice z2 m2 v2] 25) = u at *
    clear hAu
    have kvu : Below v.heap.size v u := k3.trans (k3u.mono k3.size)
    have Xu := X0.below kvu s0
    have lXu : w.heap.size < u.heap.size := Xu.lt
    have BXu := BX.below k3u l3
    have lBXu : w2.heap.size < u.heap.size := BXu.lt
    have s36 := q4.size
    have s3u := k3u.size
    have kwf : Below w.heap.size w u := k0.trans (kvu.mono (by omega))
    have hmt : (measF 16 (tyArr t)).isSome = true := by rw [ty_meas 16 t HR.out]; exact HR.out
    have hVu : ∀ {w' : World}, Below u.heap.size u w' → ArV (F + 1) (Fr w4.heap.size w7.heap.size) w' (.slice z1 m1 v1) (.slice z2 m2 v2) (tyArr t) := fun kk => HV7.out.agree (fun q hq => by rw [kk.block q (by have := hq.2; omega), kT.block q hq.2])
    have hAu : ∀ {w' : World}, Below u.heap.size u w' → Below v.heap.size v w' := fun kk => kvu.trans (kk.mono kvu.size)
    refine wp_region_noPanic ?_
    refine back_deep (w := w) (u := u) (F := F) (bx := w2.heap.size) (bt := w7.heap.size) (t := t) (x := x) (x1 := x1) (n1 := n1) (y1 := y1) (x2 := x2) (n2 := n2) (y2 := y2) (z1 := z1) (m1 := m1) (u1 := v1) (z2 := z2) (m2 := m2) (u2 := v2) ?hc1 HLv ?kr1 ?kt1 ?km21 ?km11 ?hk1 ?hq1 (fun _ _ _ _ _ h => h)
    case hc1 =>
      intro w' kk
      exact ⟨(Xu.below kk lXu).cell 0 rfl, (Xu.below kk lXu).cell 1 rfl, (BT.below kk lT).cell 0 rfl, (BT.below kk lT).cell 1 rfl, (BXu.below kk lBXu).cell 0 rfl, (BXu.below kk lBXu).cell 1 rfl, (BXu.below kk lBXu).cell 2 rfl, (BXu.below kk lBXu).cell 3 rfl, (BXu.below kk lBXu).cell 4 rfl, (BXu.below kk lBXu).cell 5 rfl⟩
    case kr1 =>
      intro w' kk
      have := right3_any (fun q hq => by have := hq.2; have := kk.size; omega) (hVu kk)
      rw [hmt] at this
      exact this
    case kt1 =>
      intro w' kk
      exact type_right (fun q hq => by have := hq.2; have := kk.size; omega) (hVu kk) hmt
    case km21 =>
      intro w' s1 e1 f1 s2 e2 f2 B kk hn
      rw [tyArr_idem] at hn
      exact match_same (D := fun q => q < w'.heap.size) (fun q hq => hq) (hn.mono (fun q hq => hq.2)) ((hVu kk).mono (fun q hq => by have := hq.2; have := kk.size; omega)) hmt
    case km11 =>
      intro w' s1 e1 f1 s2 e2 f2 B kk hn
      exact match_same (D := fun q => q < w'.heap.size) (fun q hq => hq) (hn.mono (fun q hq => hq.2)) ((HAr.out (hAu kk)).mono (HDA.out (hAu kk))) HR.out
    case hk1 =>
      rcases HX.out with ⟨_, h⟩ | ⟨h, _⟩
      · exact h.k
      · have := meas_simp HMp.out h
        have := HDeep.out
        omega
    case hq1 =>
      intro a w' ha hdf hsz kk
      refine NoPanic.normal ?_
      simp only [Exit.then]
      go_wp2
      refine bodyPost_ret (v := .bool true) ?_ hdf ?_
      · simp [results, Try.results5, go_sem, ha]
      exact ⟨rfl, kwf.trans (kk.mono kwf.size)⟩
  have C4 := cells3_any (HDA.out k4) (HAr.out k4)
  rw [HMp.out] at C4
  simp only [Option.getD_some] at C4
  go_wp2_with fail
  refine C4.mono ?_
  rintro e w6 ⟨rfl, q6⟩
  clear C4 u0 u1
  have k6 : Below w3.heap.size w3 w6 := q4.trans (q6.mono q4.size)
  have X6 := X0.below (k3.trans (k6.mono k3.size)) s0
  have u0 := X6.cell 0 rfl
  have u1 := X6.cell 1 rfl
  have hd1 : d < 16 := by omega
  by_cases hc : 16384 ≤ c
  · have HDeep : Hid (16 ≤ d ∨ 16384 ≤ c) := Or.inr hc
    go_wp2_with fail
    refine (HT.out k6).mono ?_
    rintro e w7 ⟨z1, m1, v1, z2, m2, v2, rfl, hv, q7⟩
    have HV7 : Hid (ArV (F + 1) (Fr w6.heap.size w7.heap.size) w7 (.slice z1 m1 v1) (.slice z2 m2 v2) (tyArr t)) := hv
    clear hv
    have s7 := q7.size
    have k37 : Below w3.heap.size w3 w7 := k6.trans (q7.mono k6.size)
    have BT := boxA_new w7 #[.slice z1 m1 v1, .slice z2 m2 v2] 25
    have kT := below_alloc w7 (.cells #[.slice z1 m1 v1, .slice z2 m2 v2] 25)
    have lT := BT.lt
    have k3u : Below w3.heap.size w3 (w7.alloc (.cells #[.slice z1 m1 v1, .slice z2 m2 v2] 25)) := k37.trans (kT.mono k37.size)
    go_upto_region 6 with fail
    generalize hAu : w7.alloc (.cells #[.slice z1 m1 v1, .slice z2 m2 v2] 25) = u at *
    clear hAu
    have kvu : Below v.heap.size v u := k3.trans (k3u.mono k3.size)
    have Xu := X0.below kvu s0
    have lXu : w.heap.size < u.heap.size := Xu.lt
    have BXu := BX.below k3u l3
    have lBXu : w2.heap.size < u.heap.size := BXu.lt
    have s36 := k6.size
    have s3u := k3u.size
    have kwf : Below w.heap.size w u := k0.trans (kvu.mono (by omega))
    have hmt : (measF 16 (tyArr t)).isSome = true := by rw [ty_meas 16 t HR.out]; exact HR.out
    have hVu : ∀ {w' : World}, Below u.heap.size u w' → ArV (F + 1) (Fr w6.heap.size w7.heap.size) w' (.slice z1 m1 v1) (.slice z2 m2 v2) (tyArr t) := fun kk => HV7.out.agree (fun q hq => by rw [kk.block q (by have := hq.2; omega), kT.block q hq.2])
    have hAu : ∀ {w' : World}, Below u.heap.size u w' → Below v.heap.size v w' := fun kk => kvu.trans (kk.mono kvu.size)
    refine wp_region_noPanic ?_
    refine back_deep (w := w) (u := u) (F := F) (bx := w2.heap.size) (bt := w7.heap.size) (t := t) (x := x) (x1 := x1) (n1 := n1) (y1 := y1) (x2 := x2) (n2 := n2) (y2 := y2) (z1 := z1) (m1 := m1) (u1 := v1) (z2 := z2) (m2 := m2) (u2 := v2) ?hc2 HLv ?kr2 ?kt2 ?km22 ?km12 ?hk2 ?hq2 (fun _ _ _ _ _ h => h)
    case hc2 =>
      intro w' kk
      exact ⟨(Xu.below kk lXu).cell 0 rfl, (Xu.below kk lXu).cell 1 rfl, (BT.below kk lT).cell 0 rfl, (BT.below kk lT).cell 1 rfl, (BXu.below kk lBXu).cell 0 rfl, (BXu.below kk lBXu).cell 1 rfl, (BXu.below kk lBXu).cell 2 rfl, (BXu.below kk lBXu).cell 3 rfl, (BXu.below kk lBXu).cell 4 rfl, (BXu.below kk lBXu).cell 5 rfl⟩
    case kr2 =>
      intro w' kk
      have := right3_any (fun q hq => by have := hq.2; have := kk.size; omega) (hVu kk)
      rw [hmt] at this
      exact this
    case kt2 =>
      intro w' kk
      exact type_right (fun q hq => by have := hq.2; have := kk.size; omega) (hVu kk) hmt
    case km22 =>
      intro w' s1 e1 f1 s2 e2 f2 B kk hn
      rw [tyArr_idem] at hn
      exact match_same (D := fun q => q < w'.heap.size) (fun q hq => hq) (hn.mono (fun q hq => hq.2)) ((hVu kk).mono (fun q hq => by have := hq.2; have := kk.size; omega)) hmt
    case km12 =>
      intro w' s1 e1 f1 s2 e2 f2 B kk hn
      exact match_same (D := fun q => q < w'.heap.size) (fun q hq => hq) (hn.mono (fun q hq => hq.2)) ((HAr.out (hAu kk)).mono (HDA.out (hAu kk))) HR.out
    case hk2 =>
      rcases HX.out with ⟨_, h⟩ | ⟨h, _⟩
      · exact h.k
      · have := meas_simp HMp.out h
        have := HDeep.out
        omega
    case hq2 =>
      intro a w' ha hdf hsz kk
      refine NoPanic.normal ?_
      simp only [Exit.then]
      go_wp2
      refine bodyPost_ret (v := .bool true) ?_ hdf ?_
      · simp [results, Try.results5, go_sem, ha]
      exact ⟨rfl, kwf.trans (kk.mono kwf.size)⟩
  have hc1 : c < 16384 := by omega
  go_wp2_with fail
  refine (HT.out k6).mono ?_
  rintro e w7 ⟨z1, m1, v1, z2, m2, v2, rfl, hv, q7⟩
  have HV7 : Hid (ArV (F + 1) (Fr w6.heap.size w7.heap.size) w7 (.slice z1 m1 v1) (.slice z2 m2 v2) (tyArr t)) := hv
  clear hv
  have s7 := q7.size
  have k37 : Below w3.heap.size w3 w7 := k6.trans (q7.mono k6.size)
  have BT := boxA_new w7 #[.slice z1 m1 v1, .slice z2 m2 v2] 25
  have kT := below_alloc w7 (.cells #[.slice z1 m1 v1, .slice z2 m2 v2] 25)
  have lT := BT.lt
  have k3u : Below w3.heap.size w3 (w7.alloc (.cells #[.slice z1 m1 v1, .slice z2 m2 v2] 25)) := k37.trans (kT.mono k37.size)
  go_upto_region 6 with fail
  generalize hAu : w7.alloc (.cells #[.slice z1 m1 v1, .slice z2 m2 v2] 25) = u at *
  clear hAu
  have kvu : Below v.heap.size v u := k3.trans (k3u.mono k3.size)
  have Xu := X0.below kvu s0
  have lXu : w.heap.size < u.heap.size := Xu.lt
  have BXu := BX.below k3u l3
  have lBXu : w2.heap.size < u.heap.size := BXu.lt
  have s36 := k6.size
  have s3u := k3u.size
  have kwf : Below w.heap.size w u := k0.trans (kvu.mono (by omega))
  have hmt : (measF 16 (tyArr t)).isSome = true := by rw [ty_meas 16 t HR.out]; exact HR.out
  have hVu : ∀ {w' : World}, Below u.heap.size u w' → ArV (F + 1) (Fr w6.heap.size w7.heap.size) w' (.slice z1 m1 v1) (.slice z2 m2 v2) (tyArr t) := fun kk => HV7.out.agree (fun q hq => by rw [kk.block q (by have := hq.2; omega), kT.block q hq.2])
  have hAu : ∀ {w' : World}, Below u.heap.size u w' → Below v.heap.size v w' := fun kk => kvu.trans (kk.mono kvu.size)
  have e1 : (decide (16 ≤ d) || decide (16384 ≤ c)) = false := by simp; omega
  rw [e1]
  refine wp_region_noPanic ?_
  refine back_flat (w := w) (u := u) (F := F) (bx := w2.heap.size) (bt := w7.heap.size) (t := t) (x := x) (x1 := x1) (n1 := n1) (y1 := y1) (x2 := x2) (n2 := n2) (y2 := y2) (z1 := z1) (m1 := m1) (u1 := v1) (z2 := z2) (m2 := m2) (u2 := v2) ?hc3 HLv ?kr3 ?kt3 ?km23 ?km13 ?ko3 ?hq3 (fun _ _ _ _ _ h => h)
  case hc3 =>
    intro w' kk
    exact ⟨(Xu.below kk lXu).cell 0 rfl, (Xu.below kk lXu).cell 1 rfl, (BT.below kk lT).cell 0 rfl, (BT.below kk lT).cell 1 rfl, (BXu.below kk lBXu).cell 0 rfl, (BXu.below kk lBXu).cell 1 rfl, (BXu.below kk lBXu).cell 2 rfl, (BXu.below kk lBXu).cell 3 rfl, (BXu.below kk lBXu).cell 4 rfl, (BXu.below kk lBXu).cell 5 rfl⟩
  case kr3 =>
    intro w' kk
    have := right3_any (fun q hq => by have := hq.2; have := kk.size; omega) (hVu kk)
    rw [hmt] at this
    exact this
  case kt3 =>
    intro w' kk
    exact type_right (fun q hq => by have := hq.2; have := kk.size; omega) (hVu kk) hmt
  case km23 =>
    intro w' s1 e1 f1 s2 e2 f2 B kk hn
    rw [tyArr_idem] at hn
    exact match_same (D := fun q => q < w'.heap.size) (fun q hq => hq) (hn.mono (fun q hq => hq.2)) ((hVu kk).mono (fun q hq => by have := hq.2; have := kk.size; omega)) hmt
  case km13 =>
    intro w' s1 e1 f1 s2 e2 f2 B kk hn
    exact match_same (D := fun q => q < w'.heap.size) (fun q hq => hq) (hn.mono (fun q hq => hq.2)) ((HAr.out (hAu kk)).mono (HDA.out (hAu kk))) HR.out
  case ko3 =>
    intro w' kk
    refine open_enc HX.out HR.out ?_
    exact kX.trans ((k3u.trans (kk.mono k3u.size)).mono (by have := kX.size; omega))
  case hq3 =>
    intro a w' ha hdf hsz kk
    refine NoPanic.normal ?_
    simp only [Exit.then]
    go_wp2
    refine bodyPost_ret (v := .bool true) ?_ hdf ?_
    · simp [results, Try.results5, go_sem, ha]
    exact ⟨rfl, kwf.trans (kk.mono kwf.size)⟩
end
end Go.Proofs.Ytnkaimkdlpieaaa
