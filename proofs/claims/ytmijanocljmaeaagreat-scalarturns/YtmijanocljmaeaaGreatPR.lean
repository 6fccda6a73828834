/- ScalarTurns' drawn regions, 2 and 3. -/
import Derived.Test.YtmijanocljmaeaaGreatKS4
import Derived.Test.YtmijanocljmaeaaGreatKS3
namespace Go.Proofs.YtmijanocljmaeaaGreat
set_option linter.unusedVariables false
set_option linter.unusedSimpArgs false
open Go.RowKit

/-- An array that was told, or no array where there is an error. -/
def OutR (Z : Nat) (W : World) (er : Int) (U : Tr) (x5 : Option Addr) (n5 y5 : Nat) (b3 : Option Addr) (m d3 : Nat) : Prop := (er = 0 → ArV 16 (Fr Z W.heap.size) W (.slice x5 n5 y5) (.slice b3 m d3) U) ∧ (er ≠ 0 → x5 = none ∧ n5 = 0 ∧ y5 = 0 ∧ b3 = none ∧ m = 0 ∧ d3 = 0)
theorem OutR.imp {Z Z' : Nat} {W W' : World} {er : Int} {U : Tr} {x5 : Option Addr} {n5 y5 : Nat} {b3 : Option Addr} {m d3 : Nat} (h : OutR Z W er U x5 n5 y5 b3 m d3) (hz : Z' ≤ Z) (hs : W.heap.size ≤ W'.heap.size) (hb : Agree (Fr Z W.heap.size) W W') : OutR Z' W' er U x5 n5 y5 b3 m d3 :=
 ⟨fun e => ArV.imp (fun q hq => ⟨Nat.le_trans hz hq.1, Nat.lt_of_lt_of_le hq.2 hs⟩) hb 16 16 _ _ _ (Nat.le_refl _) (h.1 e), h.2⟩
section
variable {v : World} {x1 x2 x3 x4 : Option Addr} {n1 y1 n2 y2 n3 y3 n4 y4 kk : Nat} {U : Tr} {er gl : Int}
set_option maxRecDepth 100000 in
set_option maxHeartbeats 16000000 in
theorem turns_2 {Q : Exit → Act → World → Prop} {t0 t1 t2 t4 t6 t7 t8 t9 t10 t11 t12 t13 t14 t15 t16 t17 t18 t19 t20 t21 t22 t23 t24 t25 t26 t27 t28 t29 t30 t31 t32 t33 t34 t35 t36 t37 t38 t39 t40 t41 t42 t43 t44 t45 : Value} (HC : Hid (∀ {w' : World}, Below v.heap.size v w' → w'.cell? ⟨kk, 0, none⟩ = some (.slice x1 n1 y1) ∧ w'.cell? ⟨kk, 1, none⟩ = some (.slice x2 n2 y2) ∧ w'.cell? ⟨kk, 2, none⟩ = some (.slice x3 n3 y3) ∧ w'.cell? ⟨kk, 3, none⟩ = some (.slice x4 n4 y4)))
    (KT : Hid (∀ u (ds0 : List Int) ea ec, Hid (ds0 = [(1 : Int)]) → Rd u.heap.size u (.slice ea ds0.length ec) ds0 → Below v.heap.size v u → Calls Tryz.prog 7 #[.agg #[.int .i64 1, .bool false, .slice none 0 0, .slice ea ds0.length ec, .int .i64 0], .int .i32 gl, .agg #[.slice x1 n1 y1, .slice x2 n2 y2], .agg #[.slice x3 n3 y3, .slice x4 n4 y4]] u fun e w' => (∃ x5 n5 y5 b3 m d3, e = .returned (.tuple #[.agg #[.slice x5 n5 y5, .slice b3 m d3], .int .i64 er]) ∧ OutR u.heap.size w' er U x5 n5 y5 b3 m d3) ∧ Below u.heap.size u w'))
    (hQ : ∀ A (ds0 : List Int) ea ec x5 n5 y5 b3 m d3 w', BoxA w' A 25 #[.slice x5 n5 y5, .slice b3 m d3] → v.heap.size ≤ A → Hid (OutR v.heap.size w' er U x5 n5 y5 b3 m d3) → Below v.heap.size v w' → Q .normal { tmps := #[t0, t1, t2, .pointer (some ⟨kk, 0, none⟩), t4, .int .i32 gl, .pointer (some ⟨A, 0, none⟩), .int .i64 er, t8, t9, t10, t11, t12, t13, t14, .tuple #[.agg #[.slice x5 n5 y5, .slice b3 m d3], .int .i64 er], .agg #[.int .i64 1, .bool false, .slice none 0 0, .slice ea ds0.length ec, .int .i64 0], .int .i32 gl, .pointer (some ⟨kk, 0, none⟩), .agg #[.slice x1 n1 y1, .slice x2 n2 y2], .pointer (some ⟨kk, 2, none⟩), .agg #[.slice x3 n3 y3, .slice x4 n4 y4], .tuple #[.agg #[.slice x5 n5 y5, .slice b3 m d3], .int .i64 er], .agg #[.slice x5 n5 y5, .slice b3 m d3], .int .i64 er, t25, t26, t27, t28, t29, t30, t31, t32, t33, t34, t35, t36, t37, t38, t39, t40, t41, t42, t43, t44, t45], defers := [] } w') (hP : ∀ c a d x w, Q (.panic c) (Act.put a d x) w → Q (.panic c) a w) :
    (Code.region 2 #[{ dst := some 16, op := Op.call { callee := Callee.value (Operand.func 8), args := #[], argTypes := #[] }, type := 35, pos := "law.go:74", after := #[], guard := none }, { dst := some 17, op := Op.move (Operand.tmp 5), type := 21, pos := "law.go:74", after := #[], guard := none }, { dst := some 18, op := Op.indexAddr 26 (Operand.tmp 3) (Operand.const (Value.int IntKind.i64 0)), type := 0, pos := "law.go:74", after := #[], guard := none }, { dst := some 19, op := Op.load 25 (Operand.tmp 18), type := 25, pos := "law.go:74", after := #[{ on := 2, ground := Ground.data }], guard := none }, { dst := some 20, op := Op.indexAddr 26 (Operand.tmp 3) (Operand.const (Value.int IntKind.i64 1)), type := 0, pos := "law.go:74", after := #[], guard := none }, { dst := some 21, op := Op.load 25 (Operand.tmp 20), type := 25, pos := "law.go:74", after := #[{ on := 4, ground := Ground.data }], guard := none }, { dst := some 22, op := Op.call { callee := Callee.value (Operand.func 7), args := #[Operand.tmp 16, Operand.tmp 17, Operand.tmp 19, Operand.tmp 21], argTypes := #[35, 21, 25, 25] }, type := 29, pos := "law.go:74", after := #[{ on := 0, ground := Ground.data }, { on := 1, ground := Ground.data }, { on := 3, ground := Ground.data }, { on := 5, ground := Ground.data }, { on := 0, ground := Ground.chain }], guard := none }, { dst := some 15, op := Op.move (Operand.tmp 22), type := 29, pos := "law.go:74", after := #[{ on := 6, ground := Ground.data }], guard := none }, { dst := some 23, op := Op.extract (Operand.tmp 15) 0, type := 25, pos := "law.go:74", after := #[{ on := 7, ground := Ground.data }], guard := none }, { dst := some 24, op := Op.extract (Operand.tmp 15) 1, type := 28, pos := "law.go:74", after := #[{ on := 7, ground := Ground.data }, { on := 11, ground := Ground.gcOnly Departure.lateStores }], guard := none }, { dst := some 6, op := Op.alloc 25, type := 0, pos := "law.go:74", after := #[], guard := none }, { dst := none, op := Op.store 25 (Operand.tmp 6) (Operand.tmp 23), type := 0, pos := "law.go:74", after := #[{ on := 10, ground := Ground.data }, { on := 8, ground := Ground.data }, { on := 6, ground := Ground.chain }, { on := 0, ground := Ground.phase }, { on := 1, ground := Ground.phase }, { on := 2, ground := Ground.phase }, { on := 3, ground := Ground.phase }, { on := 4, ground := Ground.phase }, { on := 5, ground := Ground.phase }, { on := 6, ground := Ground.phase }, { on := 7, ground := Ground.phase }, { on := 8, ground := Ground.phase }, { on := 9, ground := Ground.textOnly Departure.lateStores }, { on := 10, ground := Ground.phase }], guard := none }, { dst := some 7, op := Op.assign (Operand.tmp 24), type := 28, pos := "law.go:74", after := #[{ on := 9, ground := Ground.data }, { on := 11, ground := Ground.chain }, { on := 0, ground := Ground.phase }, { on := 1, ground := Ground.phase }, { on := 2, ground := Ground.phase }, { on := 3, ground := Ground.phase }, { on := 4, ground := Ground.phase }, { on := 5, ground := Ground.phase }, { on := 6, ground := Ground.phase }, { on := 7, ground := Ground.phase }, { on := 8, ground := Ground.phase }, { on := 9, ground := Ground.phase }, { on := 10, ground := Ground.phase }, { on := 11, ground := Ground.phase }], guard := none }] true).wp Tryz.prog Q { tmps := #[t0, t1, t2, .pointer (some ⟨kk, 0, none⟩), t4, .int .i32 gl, t6, t7, t8, t9, t10, t11, t12, t13, t14, t15, t16, t17, t18, t19, t20, t21, t22, t23, t24, t25, t26, t27, t28, t29, t30, t31, t32, t33, t34, t35, t36, t37, t38, t39, t40, t41, t42, t43, t44, t45], defers := [] } v := by
 have d1 : Below v.heap.size v v.drew := ⟨rfl, rfl, rfl, Nat.le_refl _, fun _ _ => rfl⟩
 have j0 := HC.out d1
 refine wp_region_held_drew (S := (fun w' => w'.cell? ⟨kk, 0, none⟩ = some (.slice x1 n1 y1) ∧ w'.cell? ⟨kk, 1, none⟩ = some (.slice x2 n2 y2) ∧ w'.cell? ⟨kk, 2, none⟩ = some (.slice x3 n3 y3) ∧ w'.cell? ⟨kk, 3, none⟩ = some (.slice x4 n4 y4))) (by kernel_rfl) j0 (fun hS => ?_)
 refine wpAnyH_take (i := 1) (oi := { dst := some 17, op := Op.move (Operand.tmp 5), type := 21, pos := "law.go:74", after := #[], guard := none }) (v := .int .i32 gl) rfl (by kernel_rfl) (by kernel_rfl) (by kernel_rfl) (fun _ _ _ h => hP _ _ _ _ _ h) (Or.inl ⟨by rfl, (by intro w hSw; (try dsimp only at hSw); go_simp)⟩) (by assumption) ?_
 simp only [Act.put, List.setIfInBounds_toArray, List.set_cons_zero, List.set_cons_succ]
 refine wpAnyH_take (i := 2) (oi := { dst := some 18, op := Op.indexAddr 26 (Operand.tmp 3) (Operand.const (Value.int IntKind.i64 0)), type := 0, pos := "law.go:74", after := #[], guard := none }) (v := .pointer (some ⟨kk, 0, none⟩)) rfl (by kernel_rfl) (by kernel_rfl) (by kernel_rfl) (fun _ _ _ h => hP _ _ _ _ _ h) (Or.inl ⟨by rfl, (by intro w hSw; (try dsimp only at hSw); go_simp)⟩) (by assumption) ?_
 simp only [Act.put, List.setIfInBounds_toArray, List.set_cons_zero, List.set_cons_succ]
 refine wpAnyH_take (i := 3) (oi := { dst := some 19, op := Op.load 25 (Operand.tmp 18), type := 25, pos := "law.go:74", after := #[{ on := 2, ground := Ground.data }], guard := none }) (v := .agg #[.slice x1 n1 y1, .slice x2 n2 y2]) rfl (by kernel_rfl) (by kernel_rfl) (by kernel_rfl) (fun _ _ _ h => hP _ _ _ _ _ h) (Or.inl ⟨by rfl, (by intro w hSw; (try dsimp only at hSw); go_simp)⟩) (by assumption) ?_
 simp only [Act.put, List.setIfInBounds_toArray, List.set_cons_zero, List.set_cons_succ]
 refine wpAnyH_take (i := 4) (oi := { dst := some 20, op := Op.indexAddr 26 (Operand.tmp 3) (Operand.const (Value.int IntKind.i64 1)), type := 0, pos := "law.go:74", after := #[], guard := none }) (v := .pointer (some ⟨kk, 2, none⟩)) rfl (by kernel_rfl) (by kernel_rfl) (by kernel_rfl) (fun _ _ _ h => hP _ _ _ _ _ h) (Or.inl ⟨by rfl, (by intro w hSw; (try dsimp only at hSw); go_simp)⟩) (by assumption) ?_
 simp only [Act.put, List.setIfInBounds_toArray, List.set_cons_zero, List.set_cons_succ]
 refine wpAnyH_take (i := 5) (oi := { dst := some 21, op := Op.load 25 (Operand.tmp 20), type := 25, pos := "law.go:74", after := #[{ on := 4, ground := Ground.data }], guard := none }) (v := .agg #[.slice x3 n3 y3, .slice x4 n4 y4]) rfl (by kernel_rfl) (by kernel_rfl) (by kernel_rfl) (fun _ _ _ h => hP _ _ _ _ _ h) (Or.inl ⟨by rfl, (by intro w hSw; (try dsimp only at hSw); go_simp)⟩) (by assumption) ?_
 simp only [Act.put, List.setIfInBounds_toArray, List.set_cons_zero, List.set_cons_succ]
 refine wpAnyH_ready (rs := [0, 10]) (by kernel_rfl) (by simp) ?_
 refine (AllReadyH.cons (o := { dst := some 16, op := Op.call { callee := Callee.value (Operand.func 8), args := #[], argTypes := #[] }, type := 35, pos := "law.go:74", after := #[], guard := none }) rfl (fun K hK => ?_) (AllReadyH.cons (o := { dst := some 6, op := Op.alloc 25, type := 0, pos := "law.go:74", after := #[], guard := none }) rfl (fun K hK => ?_) AllReadyH.nil))
 · go_simp
   refine (env_any _).mono ?_
   rintro e wE ⟨ds0, ea, ec, hd, rfl, ho, pE⟩
   have kE : Below v.heap.size v wE := d1.trans (pE.mono d1.size)
   have jE := HC.out kE
   go_simp
   refine hK.out _ _ (jE) (fun _ => ?_)
   clear hK K
   refine wpAnyH_ready (rs := [6, 10]) (by kernel_rfl) (by simp) ?_
   refine (AllReadyH.cons (o := { dst := some 22, op := Op.call { callee := Callee.value (Operand.func 7), args := #[Operand.tmp 16, Operand.tmp 17, Operand.tmp 19, Operand.tmp 21], argTypes := #[35, 21, 25, 25] }, type := 29, pos := "law.go:74", after := #[{ on := 0, ground := Ground.data }, { on := 1, ground := Ground.data }, { on := 3, ground := Ground.data }, { on := 5, ground := Ground.data }, { on := 0, ground := Ground.chain }], guard := none }) rfl (fun K hK => ?_) (AllReadyH.cons (o := { dst := some 6, op := Op.alloc 25, type := 0, pos := "law.go:74", after := #[], guard := none }) rfl (fun K hK => ?_) AllReadyH.nil))
   · go_simp
     have sC : v.heap.size ≤ wE.heap.size := kE.size
     refine (KT.out _ ds0 ea ec hd (ho.rd) kE).mono ?_
     rintro e wT ⟨⟨x5, n5, y5, b3, m, d3, rfl, hv⟩, pT⟩
     have kT : Below v.heap.size v wT := kE.trans (pT.mono kE.size)
     have jT := HC.out kT
     have HV : Hid (OutR wE.heap.size wT er U x5 n5 y5 b3 m d3) := hv
     clear hv
     go_simp
     refine hK.out _ _ (jT) (fun _ => ?_)
     clear hK K
     refine wpAnyH_take (i := 7) (oi := { dst := some 15, op := Op.move (Operand.tmp 22), type := 29, pos := "law.go:74", after := #[{ on := 6, ground := Ground.data }], guard := none }) (v := .tuple #[.agg #[.slice x5 n5 y5, .slice b3 m d3], .int .i64 er]) rfl (by kernel_rfl) (by kernel_rfl) (by kernel_rfl) (fun _ _ _ h => hP _ _ _ _ _ h) (Or.inl ⟨by rfl, (by intro w hSw; (try dsimp only at hSw); go_simp)⟩) (by assumption) ?_
     simp only [Act.put, List.setIfInBounds_toArray, List.set_cons_zero, List.set_cons_succ]
     refine wpAnyH_take (i := 8) (oi := { dst := some 23, op := Op.extract (Operand.tmp 15) 0, type := 25, pos := "law.go:74", after := #[{ on := 7, ground := Ground.data }], guard := none }) (v := .agg #[.slice x5 n5 y5, .slice b3 m d3]) rfl (by kernel_rfl) (by kernel_rfl) (by kernel_rfl) (fun _ _ _ h => hP _ _ _ _ _ h) (Or.inl ⟨by rfl, (by intro w hSw; (try dsimp only at hSw); go_simp)⟩) (by assumption) ?_
     simp only [Act.put, List.setIfInBounds_toArray, List.set_cons_zero, List.set_cons_succ]
     refine wpAnyH_take (i := 9) (oi := { dst := some 24, op := Op.extract (Operand.tmp 15) 1, type := 28, pos := "law.go:74", after := #[{ on := 7, ground := Ground.data }, { on := 11, ground := Ground.gcOnly Departure.lateStores }], guard := none }) (v := .int .i64 er) rfl (by kernel_rfl) (by kernel_rfl) (by kernel_rfl) (fun _ _ _ h => hP _ _ _ _ _ h) (Or.inl ⟨by rfl, (by intro w hSw; (try dsimp only at hSw); go_simp)⟩) (by assumption) ?_
     simp only [Act.put, List.setIfInBounds_toArray, List.set_cons_zero, List.set_cons_succ]
     refine wpAnyH_ready (rs := [10]) (by kernel_rfl) (by simp) ?_
     refine (AllReadyH.cons (o := { dst := some 6, op := Op.alloc 25, type := 0, pos := "law.go:74", after := #[], guard := none }) rfl (fun K hK => ?_) AllReadyH.nil)
     go_simp
     have kA : Below v.heap.size v (wT.alloc (.cells #[.slice none 0 0, .slice none 0 0] 25)) := kT.trans ((below_alloc wT (.cells #[.slice none 0 0, .slice none 0 0] 25)).mono kT.size)
     have jA := HC.out kA
     have BA : BoxA (wT.alloc (.cells #[.slice none 0 0, .slice none 0 0] 25)) wT.heap.size 25 #[.slice none 0 0, .slice none 0 0] := boxA_new wT #[.slice none 0 0, .slice none 0 0] 25
     have nA : v.heap.size ≤ wT.heap.size := kT.size
     go_simp
     refine hK.out _ _ (jA) (fun _ => ?_)
     clear hK K
     refine wpAnyH_ready (rs := [11]) (by kernel_rfl) (by simp) ?_
     refine (AllReadyH.cons (o := { dst := none, op := Op.store 25 (Operand.tmp 6) (Operand.tmp 23), type := 0, pos := "law.go:74", after := #[{ on := 10, ground := Ground.data }, { on := 8, ground := Ground.data }, { on := 6, ground := Ground.chain }, { on := 0, ground := Ground.phase }, { on := 1, ground := Ground.phase }, { on := 2, ground := Ground.phase }, { on := 3, ground := Ground.phase }, { on := 4, ground := Ground.phase }, { on := 5, ground := Ground.phase }, { on := 6, ground := Ground.phase }, { on := 7, ground := Ground.phase }, { on := 8, ground := Ground.phase }, { on := 9, ground := Ground.textOnly Departure.lateStores }, { on := 10, ground := Ground.phase }], guard := none }) rfl (fun K hK => ?_) AllReadyH.nil)
     go_simp
     have r0 := BA.cell 0 rfl
     have r1 := BA.cell 1 rfl
     have f0 := BA.frozen 0
     have f1 := BA.frozen 1
     have BS := boxA_new wT #[.slice x5 n5 y5, .slice b3 m d3] 25
     have kS : Below v.heap.size v (wT.alloc (.cells #[.slice x5 n5 y5, .slice b3 m d3] 25)) := kT.trans ((below_alloc wT (.cells #[.slice x5 n5 y5, .slice b3 m d3] 25)).mono kT.size)
     have jS := HC.out kS
     have HVS : Hid (OutR v.heap.size (wT.alloc (.cells #[.slice x5 n5 y5, .slice b3 m d3] 25)) er U x5 n5 y5 b3 m d3) := HV.out.imp sC ((below_alloc wT (.cells #[.slice x5 n5 y5, .slice b3 m d3] 25)).size) (fun q hq => (below_alloc wT (.cells #[.slice x5 n5 y5, .slice b3 m d3] 25)).block q hq.2)
     go_simp
     refine hK.out _ _ (jS) (fun _ => ?_)
     clear hK K
     refine wpAnyH_take (i := 12) (oi := { dst := some 7, op := Op.assign (Operand.tmp 24), type := 28, pos := "law.go:74", after := #[{ on := 9, ground := Ground.data }, { on := 11, ground := Ground.chain }, { on := 0, ground := Ground.phase }, { on := 1, ground := Ground.phase }, { on := 2, ground := Ground.phase }, { on := 3, ground := Ground.phase }, { on := 4, ground := Ground.phase }, { on := 5, ground := Ground.phase }, { on := 6, ground := Ground.phase }, { on := 7, ground := Ground.phase }, { on := 8, ground := Ground.phase }, { on := 9, ground := Ground.phase }, { on := 10, ground := Ground.phase }, { on := 11, ground := Ground.phase }], guard := none }) (v := .int .i64 er) rfl (by kernel_rfl) (by kernel_rfl) (by kernel_rfl) (fun _ _ _ h => hP _ _ _ _ _ h) (Or.inl ⟨by rfl, (by intro w hSw; (try dsimp only at hSw); go_simp)⟩) (by assumption) ?_
     simp only [Act.put, List.setIfInBounds_toArray, List.set_cons_zero, List.set_cons_succ]
     refine wpAnyH_done (by kernel_rfl) ?_ _
     exact hQ _ ds0 ea ec x5 n5 y5 b3 m d3 _ BS nA HVS kS
   · go_simp
     have kA : Below v.heap.size v (wE.alloc (.cells #[.slice none 0 0, .slice none 0 0] 25)) := kE.trans ((below_alloc wE (.cells #[.slice none 0 0, .slice none 0 0] 25)).mono kE.size)
     have jA := HC.out kA
     have BA : BoxA (wE.alloc (.cells #[.slice none 0 0, .slice none 0 0] 25)) wE.heap.size 25 #[.slice none 0 0, .slice none 0 0] := boxA_new wE #[.slice none 0 0, .slice none 0 0] 25
     have nA : v.heap.size ≤ wE.heap.size := kE.size
     go_simp
     refine hK.out _ _ (jA) (fun _ => ?_)
     clear hK K
     refine wpAnyH_ready (rs := [6]) (by kernel_rfl) (by simp) ?_
     refine (AllReadyH.cons (o := { dst := some 22, op := Op.call { callee := Callee.value (Operand.func 7), args := #[Operand.tmp 16, Operand.tmp 17, Operand.tmp 19, Operand.tmp 21], argTypes := #[35, 21, 25, 25] }, type := 29, pos := "law.go:74", after := #[{ on := 0, ground := Ground.data }, { on := 1, ground := Ground.data }, { on := 3, ground := Ground.data }, { on := 5, ground := Ground.data }, { on := 0, ground := Ground.chain }], guard := none }) rfl (fun K hK => ?_) AllReadyH.nil)
     go_simp
     have sC : v.heap.size ≤ (wE.alloc (.cells #[.slice none 0 0, .slice none 0 0] 25)).heap.size := kA.size
     have lBA := BA.lt
     refine (KT.out _ ds0 ea ec hd ((ho.below (below_alloc wE (.cells #[.slice none 0 0, .slice none 0 0] 25)) (Nat.le_refl _)).rd) kA).mono ?_
     rintro e wT ⟨⟨x5, n5, y5, b3, m, d3, rfl, hv⟩, pT⟩
     have kT : Below v.heap.size v wT := kA.trans (pT.mono kA.size)
     have jT := HC.out kT
     have HV : Hid (OutR (wE.alloc (.cells #[.slice none 0 0, .slice none 0 0] 25)).heap.size wT er U x5 n5 y5 b3 m d3) := hv
     clear hv
     replace BA := BA.below pT lBA
     go_simp
     refine hK.out _ _ (jT) (fun _ => ?_)
     clear hK K
     refine wpAnyH_take (i := 7) (oi := { dst := some 15, op := Op.move (Operand.tmp 22), type := 29, pos := "law.go:74", after := #[{ on := 6, ground := Ground.data }], guard := none }) (v := .tuple #[.agg #[.slice x5 n5 y5, .slice b3 m d3], .int .i64 er]) rfl (by kernel_rfl) (by kernel_rfl) (by kernel_rfl) (fun _ _ _ h => hP _ _ _ _ _ h) (Or.inl ⟨by rfl, (by intro w hSw; (try dsimp only at hSw); go_simp)⟩) (by assumption) ?_
     simp only [Act.put, List.setIfInBounds_toArray, List.set_cons_zero, List.set_cons_succ]
     refine wpAnyH_take (i := 8) (oi := { dst := some 23, op := Op.extract (Operand.tmp 15) 0, type := 25, pos := "law.go:74", after := #[{ on := 7, ground := Ground.data }], guard := none }) (v := .agg #[.slice x5 n5 y5, .slice b3 m d3]) rfl (by kernel_rfl) (by kernel_rfl) (by kernel_rfl) (fun _ _ _ h => hP _ _ _ _ _ h) (Or.inl ⟨by rfl, (by intro w hSw; (try dsimp only at hSw); go_simp)⟩) (by assumption) ?_
     simp only [Act.put, List.setIfInBounds_toArray, List.set_cons_zero, List.set_cons_succ]
     refine wpAnyH_take (i := 9) (oi := { dst := some 24, op := Op.extract (Operand.tmp 15) 1, type := 28, pos := "law.go:74", after := #[{ on := 7, ground := Ground.data }, { on := 11, ground := Ground.gcOnly Departure.lateStores }], guard := none }) (v := .int .i64 er) rfl (by kernel_rfl) (by kernel_rfl) (by kernel_rfl) (fun _ _ _ h => hP _ _ _ _ _ h) (Or.inl ⟨by rfl, (by intro w hSw; (try dsimp only at hSw); go_simp)⟩) (by assumption) ?_
     simp only [Act.put, List.setIfInBounds_toArray, List.set_cons_zero, List.set_cons_succ]
     refine wpAnyH_ready (rs := [11]) (by kernel_rfl) (by simp) ?_
     refine (AllReadyH.cons (o := { dst := none, op := Op.store 25 (Operand.tmp 6) (Operand.tmp 23), type := 0, pos := "law.go:74", after := #[{ on := 10, ground := Ground.data }, { on := 8, ground := Ground.data }, { on := 6, ground := Ground.chain }, { on := 0, ground := Ground.phase }, { on := 1, ground := Ground.phase }, { on := 2, ground := Ground.phase }, { on := 3, ground := Ground.phase }, { on := 4, ground := Ground.phase }, { on := 5, ground := Ground.phase }, { on := 6, ground := Ground.phase }, { on := 7, ground := Ground.phase }, { on := 8, ground := Ground.phase }, { on := 9, ground := Ground.textOnly Departure.lateStores }, { on := 10, ground := Ground.phase }], guard := none }) rfl (fun K hK => ?_) AllReadyH.nil)
     go_simp
     have r0 := BA.cell 0 rfl
     have r1 := BA.cell 1 rfl
     have f0 := BA.frozen 0
     have f1 := BA.frozen 1
     have BS := boxA_s1 (boxA_s0 BA (.slice x5 n5 y5)) (.slice b3 m d3)
     have kS := Below.set2 kT nA (.slice x5 n5 y5) (.slice b3 m d3)
     have jS := HC.out kS
     have HVS : Hid (OutR v.heap.size ((wT.setCell ⟨wE.heap.size, 0, none⟩ (.slice x5 n5 y5)).setCell ⟨wE.heap.size, 1, none⟩ (.slice b3 m d3)) er U x5 n5 y5 b3 m d3) := HV.out.imp sC (by rw [set1_size, set1_size]; exact Nat.le_refl _) (fun q hq => by rw [set1_other (by show ¬ wE.heap.size = q; have := hq.1; omega), set1_other (by show ¬ wE.heap.size = q; have := hq.1; omega)])
     go_simp
     refine hK.out _ _ (jS) (fun _ => ?_)
     clear hK K
     refine wpAnyH_take (i := 12) (oi := { dst := some 7, op := Op.assign (Operand.tmp 24), type := 28, pos := "law.go:74", after := #[{ on := 9, ground := Ground.data }, { on := 11, ground := Ground.chain }, { on := 0, ground := Ground.phase }, { on := 1, ground := Ground.phase }, { on := 2, ground := Ground.phase }, { on := 3, ground := Ground.phase }, { on := 4, ground := Ground.phase }, { on := 5, ground := Ground.phase }, { on := 6, ground := Ground.phase }, { on := 7, ground := Ground.phase }, { on := 8, ground := Ground.phase }, { on := 9, ground := Ground.phase }, { on := 10, ground := Ground.phase }, { on := 11, ground := Ground.phase }], guard := none }) (v := .int .i64 er) rfl (by kernel_rfl) (by kernel_rfl) (by kernel_rfl) (fun _ _ _ h => hP _ _ _ _ _ h) (Or.inl ⟨by rfl, (by intro w hSw; (try dsimp only at hSw); go_simp)⟩) (by assumption) ?_
     simp only [Act.put, List.setIfInBounds_toArray, List.set_cons_zero, List.set_cons_succ]
     refine wpAnyH_done (by kernel_rfl) ?_ _
     exact hQ _ ds0 ea ec x5 n5 y5 b3 m d3 _ BS nA HVS kS
 · go_simp
   have kA : Below v.heap.size v (v.drew.alloc (.cells #[.slice none 0 0, .slice none 0 0] 25)) := d1.trans ((below_alloc v.drew (.cells #[.slice none 0 0, .slice none 0 0] 25)).mono d1.size)
   have jA := HC.out kA
   have BA : BoxA (v.drew.alloc (.cells #[.slice none 0 0, .slice none 0 0] 25)) v.heap.size 25 #[.slice none 0 0, .slice none 0 0] := boxA_new v.drew #[.slice none 0 0, .slice none 0 0] 25
   have nA : v.heap.size ≤ v.heap.size := d1.size
   go_simp
   refine hK.out _ _ (jA) (fun _ => ?_)
   clear hK K
   refine wpAnyH_ready (rs := [0]) (by kernel_rfl) (by simp) ?_
   refine (AllReadyH.cons (o := { dst := some 16, op := Op.call { callee := Callee.value (Operand.func 8), args := #[], argTypes := #[] }, type := 35, pos := "law.go:74", after := #[], guard := none }) rfl (fun K hK => ?_) AllReadyH.nil)
   go_simp
   refine (env_any _).mono ?_
   rintro e wE ⟨ds0, ea, ec, hd, rfl, ho, pE⟩
   have kE : Below v.heap.size v wE := kA.trans (pE.mono kA.size)
   have jE := HC.out kE
   have lBA := BA.lt
   replace BA := BA.below pE lBA
   clear lBA
   go_simp
   refine hK.out _ _ (jE) (fun _ => ?_)
   clear hK K
   refine wpAnyH_ready (rs := [6]) (by kernel_rfl) (by simp) ?_
   refine (AllReadyH.cons (o := { dst := some 22, op := Op.call { callee := Callee.value (Operand.func 7), args := #[Operand.tmp 16, Operand.tmp 17, Operand.tmp 19, Operand.tmp 21], argTypes := #[35, 21, 25, 25] }, type := 29, pos := "law.go:74", after := #[{ on := 0, ground := Ground.data }, { on := 1, ground := Ground.data }, { on := 3, ground := Ground.data }, { on := 5, ground := Ground.data }, { on := 0, ground := Ground.chain }], guard := none }) rfl (fun K hK => ?_) AllReadyH.nil)
   go_simp
   have sC : v.heap.size ≤ wE.heap.size := kE.size
   have lBA := BA.lt
   refine (KT.out _ ds0 ea ec hd (ho.rd) kE).mono ?_
   rintro e wT ⟨⟨x5, n5, y5, b3, m, d3, rfl, hv⟩, pT⟩
   have kT : Below v.heap.size v wT := kE.trans (pT.mono kE.size)
   have jT := HC.out kT
   have HV : Hid (OutR wE.heap.size wT er U x5 n5 y5 b3 m d3) := hv
   clear hv
   replace BA := BA.below pT lBA
   go_simp
   refine hK.out _ _ (jT) (fun _ => ?_)
   clear hK K
   refine wpAnyH_take (i := 7) (oi := { dst := some 15, op := Op.move (Operand.tmp 22), type := 29, pos := "law.go:74", after := #[{ on := 6, ground := Ground.data }], guard := none }) (v := .tuple #[.agg #[.slice x5 n5 y5, .slice b3 m d3], .int .i64 er]) rfl (by kernel_rfl) (by kernel_rfl) (by kernel_rfl) (fun _ _ _ h => hP _ _ _ _ _ h) (Or.inl ⟨by rfl, (by intro w hSw; (try dsimp only at hSw); go_simp)⟩) (by assumption) ?_
   simp only [Act.put, List.setIfInBounds_toArray, List.set_cons_zero, List.set_cons_succ]
   refine wpAnyH_take (i := 8) (oi := { dst := some 23, op := Op.extract (Operand.tmp 15) 0, type := 25, pos := "law.go:74", after := #[{ on := 7, ground := Ground.data }], guard := none }) (v := .agg #[.slice x5 n5 y5, .slice b3 m d3]) rfl (by kernel_rfl) (by kernel_rfl) (by kernel_rfl) (fun _ _ _ h => hP _ _ _ _ _ h) (Or.inl ⟨by rfl, (by intro w hSw; (try dsimp only at hSw); go_simp)⟩) (by assumption) ?_
   simp only [Act.put, List.setIfInBounds_toArray, List.set_cons_zero, List.set_cons_succ]
   refine wpAnyH_take (i := 9) (oi := { dst := some 24, op := Op.extract (Operand.tmp 15) 1, type := 28, pos := "law.go:74", after := #[{ on := 7, ground := Ground.data }, { on := 11, ground := Ground.gcOnly Departure.lateStores }], guard := none }) (v := .int .i64 er) rfl (by kernel_rfl) (by kernel_rfl) (by kernel_rfl) (fun _ _ _ h => hP _ _ _ _ _ h) (Or.inl ⟨by rfl, (by intro w hSw; (try dsimp only at hSw); go_simp)⟩) (by assumption) ?_
   simp only [Act.put, List.setIfInBounds_toArray, List.set_cons_zero, List.set_cons_succ]
   refine wpAnyH_ready (rs := [11]) (by kernel_rfl) (by simp) ?_
   refine (AllReadyH.cons (o := { dst := none, op := Op.store 25 (Operand.tmp 6) (Operand.tmp 23), type := 0, pos := "law.go:74", after := #[{ on := 10, ground := Ground.data }, { on := 8, ground := Ground.data }, { on := 6, ground := Ground.chain }, { on := 0, ground := Ground.phase }, { on := 1, ground := Ground.phase }, { on := 2, ground := Ground.phase }, { on := 3, ground := Ground.phase }, { on := 4, ground := Ground.phase }, { on := 5, ground := Ground.phase }, { on := 6, ground := Ground.phase }, { on := 7, ground := Ground.phase }, { on := 8, ground := Ground.phase }, { on := 9, ground := Ground.textOnly Departure.lateStores }, { on := 10, ground := Ground.phase }], guard := none }) rfl (fun K hK => ?_) AllReadyH.nil)
   go_simp
   have r0 := BA.cell 0 rfl
   have r1 := BA.cell 1 rfl
   have f0 := BA.frozen 0
   have f1 := BA.frozen 1
   have BS := boxA_s1 (boxA_s0 BA (.slice x5 n5 y5)) (.slice b3 m d3)
   have kS := Below.set2 kT nA (.slice x5 n5 y5) (.slice b3 m d3)
   have jS := HC.out kS
   have HVS : Hid (OutR v.heap.size ((wT.setCell ⟨v.heap.size, 0, none⟩ (.slice x5 n5 y5)).setCell ⟨v.heap.size, 1, none⟩ (.slice b3 m d3)) er U x5 n5 y5 b3 m d3) := HV.out.imp sC (by rw [set1_size, set1_size]; exact Nat.le_refl _) (fun q hq => by rw [set1_other (by show ¬ v.heap.size = q; have := hq.1; omega), set1_other (by show ¬ v.heap.size = q; have := hq.1; omega)])
   go_simp
   refine hK.out _ _ (jS) (fun _ => ?_)
   clear hK K
   refine wpAnyH_take (i := 12) (oi := { dst := some 7, op := Op.assign (Operand.tmp 24), type := 28, pos := "law.go:74", after := #[{ on := 9, ground := Ground.data }, { on := 11, ground := Ground.chain }, { on := 0, ground := Ground.phase }, { on := 1, ground := Ground.phase }, { on := 2, ground := Ground.phase }, { on := 3, ground := Ground.phase }, { on := 4, ground := Ground.phase }, { on := 5, ground := Ground.phase }, { on := 6, ground := Ground.phase }, { on := 7, ground := Ground.phase }, { on := 8, ground := Ground.phase }, { on := 9, ground := Ground.phase }, { on := 10, ground := Ground.phase }, { on := 11, ground := Ground.phase }], guard := none }) (v := .int .i64 er) rfl (by kernel_rfl) (by kernel_rfl) (by kernel_rfl) (fun _ _ _ h => hP _ _ _ _ _ h) (Or.inl ⟨by rfl, (by intro w hSw; (try dsimp only at hSw); go_simp)⟩) (by assumption) ?_
   simp only [Act.put, List.setIfInBounds_toArray, List.set_cons_zero, List.set_cons_succ]
   refine wpAnyH_done (by kernel_rfl) ?_ _
   exact hQ _ ds0 ea ec x5 n5 y5 b3 m d3 _ BS nA HVS kS
end
section
variable {v : World} {x1 x2 x3 x4 : Option Addr} {n1 y1 n2 y2 n3 y3 n4 y4 kk : Nat} {U : Tr} {er gl : Int}
set_option maxRecDepth 100000 in
set_option maxHeartbeats 16000000 in
theorem turns_3 {Q : Exit → Act → World → Prop} {t0 t1 t2 t4 t6 t7 t8 t9 t10 t11 t12 t13 t14 t15 t16 t17 t18 t19 t20 t21 t22 t23 t24 t25 t26 t27 t28 t29 t30 t31 t32 t33 t34 t35 t36 t37 t38 t39 t40 t41 t42 t43 t44 t45 : Value} (HC : Hid (∀ {w' : World}, Below v.heap.size v w' → w'.cell? ⟨kk, 0, none⟩ = some (.slice x1 n1 y1) ∧ w'.cell? ⟨kk, 1, none⟩ = some (.slice x2 n2 y2) ∧ w'.cell? ⟨kk, 2, none⟩ = some (.slice x3 n3 y3) ∧ w'.cell? ⟨kk, 3, none⟩ = some (.slice x4 n4 y4)))
    (KT : Hid (∀ u (ds0 : List Int) ea ec, Hid (ds0 = [(1 : Int)]) → Rd u.heap.size u (.slice ea ds0.length ec) ds0 → Below v.heap.size v u → Calls Tryz.prog 7 #[.agg #[.int .i64 1, .bool false, .slice none 0 0, .slice ea ds0.length ec, .int .i64 0], .int .i32 gl, .agg #[.slice x3 n3 y3, .slice x4 n4 y4], .agg #[.slice x1 n1 y1, .slice x2 n2 y2]] u fun e w' => (∃ x5 n5 y5 b3 m d3, e = .returned (.tuple #[.agg #[.slice x5 n5 y5, .slice b3 m d3], .int .i64 er]) ∧ OutR u.heap.size w' er U x5 n5 y5 b3 m d3) ∧ Below u.heap.size u w'))
    (hQ : ∀ A (ds0 : List Int) ea ec x5 n5 y5 b3 m d3 w', BoxA w' A 25 #[.slice x5 n5 y5, .slice b3 m d3] → v.heap.size ≤ A → Hid (OutR v.heap.size w' er U x5 n5 y5 b3 m d3) → Below v.heap.size v w' → Q .normal { tmps := #[t0, t1, t2, .pointer (some ⟨kk, 0, none⟩), t4, .int .i32 gl, t6, t7, .pointer (some ⟨A, 0, none⟩), .int .i64 er, t10, t11, t12, t13, t14, t15, t16, t17, t18, t19, t20, t21, t22, t23, t24, .tuple #[.agg #[.slice x5 n5 y5, .slice b3 m d3], .int .i64 er], .agg #[.int .i64 1, .bool false, .slice none 0 0, .slice ea ds0.length ec, .int .i64 0], .int .i32 gl, .pointer (some ⟨kk, 2, none⟩), .agg #[.slice x3 n3 y3, .slice x4 n4 y4], .pointer (some ⟨kk, 0, none⟩), .agg #[.slice x1 n1 y1, .slice x2 n2 y2], .tuple #[.agg #[.slice x5 n5 y5, .slice b3 m d3], .int .i64 er], .agg #[.slice x5 n5 y5, .slice b3 m d3], .int .i64 er, t35, t36, t37, t38, t39, t40, t41, t42, t43, t44, t45], defers := [] } w') (hP : ∀ c a d x w, Q (.panic c) (Act.put a d x) w → Q (.panic c) a w) :
    (Code.region 3 #[{ dst := some 26, op := Op.call { callee := Callee.value (Operand.func 8), args := #[], argTypes := #[] }, type := 35, pos := "law.go:75", after := #[], guard := none }, { dst := some 27, op := Op.move (Operand.tmp 5), type := 21, pos := "law.go:75", after := #[], guard := none }, { dst := some 28, op := Op.indexAddr 26 (Operand.tmp 3) (Operand.const (Value.int IntKind.i64 1)), type := 0, pos := "law.go:75", after := #[], guard := none }, { dst := some 29, op := Op.load 25 (Operand.tmp 28), type := 25, pos := "law.go:75", after := #[{ on := 2, ground := Ground.data }], guard := none }, { dst := some 30, op := Op.indexAddr 26 (Operand.tmp 3) (Operand.const (Value.int IntKind.i64 0)), type := 0, pos := "law.go:75", after := #[], guard := none }, { dst := some 31, op := Op.load 25 (Operand.tmp 30), type := 25, pos := "law.go:75", after := #[{ on := 4, ground := Ground.data }], guard := none }, { dst := some 32, op := Op.call { callee := Callee.value (Operand.func 7), args := #[Operand.tmp 26, Operand.tmp 27, Operand.tmp 29, Operand.tmp 31], argTypes := #[35, 21, 25, 25] }, type := 29, pos := "law.go:75", after := #[{ on := 0, ground := Ground.data }, { on := 1, ground := Ground.data }, { on := 3, ground := Ground.data }, { on := 5, ground := Ground.data }, { on := 0, ground := Ground.chain }], guard := none }, { dst := some 25, op := Op.move (Operand.tmp 32), type := 29, pos := "law.go:75", after := #[{ on := 6, ground := Ground.data }], guard := none }, { dst := some 33, op := Op.extract (Operand.tmp 25) 0, type := 25, pos := "law.go:75", after := #[{ on := 7, ground := Ground.data }], guard := none }, { dst := some 34, op := Op.extract (Operand.tmp 25) 1, type := 28, pos := "law.go:75", after := #[{ on := 7, ground := Ground.data }, { on := 11, ground := Ground.gcOnly Departure.lateStores }], guard := none }, { dst := some 8, op := Op.alloc 25, type := 0, pos := "law.go:75", after := #[], guard := none }, { dst := none, op := Op.store 25 (Operand.tmp 8) (Operand.tmp 33), type := 0, pos := "law.go:75", after := #[{ on := 10, ground := Ground.data }, { on := 8, ground := Ground.data }, { on := 6, ground := Ground.chain }, { on := 0, ground := Ground.phase }, { on := 1, ground := Ground.phase }, { on := 2, ground := Ground.phase }, { on := 3, ground := Ground.phase }, { on := 4, ground := Ground.phase }, { on := 5, ground := Ground.phase }, { on := 6, ground := Ground.phase }, { on := 7, ground := Ground.phase }, { on := 8, ground := Ground.phase }, { on := 9, ground := Ground.textOnly Departure.lateStores }, { on := 10, ground := Ground.phase }], guard := none }, { dst := some 9, op := Op.assign (Operand.tmp 34), type := 28, pos := "law.go:75", after := #[{ on := 9, ground := Ground.data }, { on := 11, ground := Ground.chain }, { on := 0, ground := Ground.phase }, { on := 1, ground := Ground.phase }, { on := 2, ground := Ground.phase }, { on := 3, ground := Ground.phase }, { on := 4, ground := Ground.phase }, { on := 5, ground := Ground.phase }, { on := 6, ground := Ground.phase }, { on := 7, ground := Ground.phase }, { on := 8, ground := Ground.phase }, { on := 9, ground := Ground.phase }, { on := 10, ground := Ground.phase }, { on := 11, ground := Ground.phase }], guard := none }] true).wp Tryz.prog Q { tmps := #[t0, t1, t2, .pointer (some ⟨kk, 0, none⟩), t4, .int .i32 gl, t6, t7, t8, t9, t10, t11, t12, t13, t14, t15, t16, t17, t18, t19, t20, t21, t22, t23, t24, t25, t26, t27, t28, t29, t30, t31, t32, t33, t34, t35, t36, t37, t38, t39, t40, t41, t42, t43, t44, t45], defers := [] } v := by
 have d1 : Below v.heap.size v v.drew := ⟨rfl, rfl, rfl, Nat.le_refl _, fun _ _ => rfl⟩
 have j0 := HC.out d1
 refine wp_region_held_drew (S := (fun w' => w'.cell? ⟨kk, 0, none⟩ = some (.slice x1 n1 y1) ∧ w'.cell? ⟨kk, 1, none⟩ = some (.slice x2 n2 y2) ∧ w'.cell? ⟨kk, 2, none⟩ = some (.slice x3 n3 y3) ∧ w'.cell? ⟨kk, 3, none⟩ = some (.slice x4 n4 y4))) (by kernel_rfl) j0 (fun hS => ?_)
 refine wpAnyH_take (i := 1) (oi := { dst := some 27, op := Op.move (Operand.tmp 5), type := 21, pos := "law.go:75", after := #[], guard := none }) (v := .int .i32 gl) rfl (by kernel_rfl) (by kernel_rfl) (by kernel_rfl) (fun _ _ _ h => hP _ _ _ _ _ h) (Or.inl ⟨by rfl, (by intro w hSw; (try dsimp only at hSw); go_simp)⟩) (by assumption) ?_
 simp only [Act.put, List.setIfInBounds_toArray, List.set_cons_zero, List.set_cons_succ]
 refine wpAnyH_take (i := 2) (oi := { dst := some 28, op := Op.indexAddr 26 (Operand.tmp 3) (Operand.const (Value.int IntKind.i64 1)), type := 0, pos := "law.go:75", after := #[], guard := none }) (v := .pointer (some ⟨kk, 2, none⟩)) rfl (by kernel_rfl) (by kernel_rfl) (by kernel_rfl) (fun _ _ _ h => hP _ _ _ _ _ h) (Or.inl ⟨by rfl, (by intro w hSw; (try dsimp only at hSw); go_simp)⟩) (by assumption) ?_
 simp only [Act.put, List.setIfInBounds_toArray, List.set_cons_zero, List.set_cons_succ]
 refine wpAnyH_take (i := 3) (oi := { dst := some 29, op := Op.load 25 (Operand.tmp 28), type := 25, pos := "law.go:75", after := #[{ on := 2, ground := Ground.data }], guard := none }) (v := .agg #[.slice x3 n3 y3, .slice x4 n4 y4]) rfl (by kernel_rfl) (by kernel_rfl) (by kernel_rfl) (fun _ _ _ h => hP _ _ _ _ _ h) (Or.inl ⟨by rfl, (by intro w hSw; (try dsimp only at hSw); go_simp)⟩) (by assumption) ?_
 simp only [Act.put, List.setIfInBounds_toArray, List.set_cons_zero, List.set_cons_succ]
 refine wpAnyH_take (i := 4) (oi := { dst := some 30, op := Op.indexAddr 26 (Operand.tmp 3) (Operand.const (Value.int IntKind.i64 0)), type := 0, pos := "law.go:75", after := #[], guard := none }) (v := .pointer (some ⟨kk, 0, none⟩)) rfl (by kernel_rfl) (by kernel_rfl) (by kernel_rfl) (fun _ _ _ h => hP _ _ _ _ _ h) (Or.inl ⟨by rfl, (by intro w hSw; (try dsimp only at hSw); go_simp)⟩) (by assumption) ?_
 simp only [Act.put, List.setIfInBounds_toArray, List.set_cons_zero, List.set_cons_succ]
 refine wpAnyH_take (i := 5) (oi := { dst := some 31, op := Op.load 25 (Operand.tmp 30), type := 25, pos := "law.go:75", after := #[{ on := 4, ground := Ground.data }], guard := none }) (v := .agg #[.slice x1 n1 y1, .slice x2 n2 y2]) rfl (by kernel_rfl) (by kernel_rfl) (by kernel_rfl) (fun _ _ _ h => hP _ _ _ _ _ h) (Or.inl ⟨by rfl, (by intro w hSw; (try dsimp only at hSw); go_simp)⟩) (by assumption) ?_
 simp only [Act.put, List.setIfInBounds_toArray, List.set_cons_zero, List.set_cons_succ]
 refine wpAnyH_ready (rs := [0, 10]) (by kernel_rfl) (by simp) ?_
 refine (AllReadyH.cons (o := { dst := some 26, op := Op.call { callee := Callee.value (Operand.func 8), args := #[], argTypes := #[] }, type := 35, pos := "law.go:75", after := #[], guard := none }) rfl (fun K hK => ?_) (AllReadyH.cons (o := { dst := some 8, op := Op.alloc 25, type := 0, pos := "law.go:75", after := #[], guard := none }) rfl (fun K hK => ?_) AllReadyH.nil))
 · go_simp
   refine (env_any _).mono ?_
   rintro e wE ⟨ds0, ea, ec, hd, rfl, ho, pE⟩
   have kE : Below v.heap.size v wE := d1.trans (pE.mono d1.size)
   have jE := HC.out kE
   go_simp
   refine hK.out _ _ (jE) (fun _ => ?_)
   clear hK K
   refine wpAnyH_ready (rs := [6, 10]) (by kernel_rfl) (by simp) ?_
   refine (AllReadyH.cons (o := { dst := some 32, op := Op.call { callee := Callee.value (Operand.func 7), args := #[Operand.tmp 26, Operand.tmp 27, Operand.tmp 29, Operand.tmp 31], argTypes := #[35, 21, 25, 25] }, type := 29, pos := "law.go:75", after := #[{ on := 0, ground := Ground.data }, { on := 1, ground := Ground.data }, { on := 3, ground := Ground.data }, { on := 5, ground := Ground.data }, { on := 0, ground := Ground.chain }], guard := none }) rfl (fun K hK => ?_) (AllReadyH.cons (o := { dst := some 8, op := Op.alloc 25, type := 0, pos := "law.go:75", after := #[], guard := none }) rfl (fun K hK => ?_) AllReadyH.nil))
   · go_simp
     have sC : v.heap.size ≤ wE.heap.size := kE.size
     refine (KT.out _ ds0 ea ec hd (ho.rd) kE).mono ?_
     rintro e wT ⟨⟨x5, n5, y5, b3, m, d3, rfl, hv⟩, pT⟩
     have kT : Below v.heap.size v wT := kE.trans (pT.mono kE.size)
     have jT := HC.out kT
     have HV : Hid (OutR wE.heap.size wT er U x5 n5 y5 b3 m d3) := hv
     clear hv
     go_simp
     refine hK.out _ _ (jT) (fun _ => ?_)
     clear hK K
     refine wpAnyH_take (i := 7) (oi := { dst := some 25, op := Op.move (Operand.tmp 32), type := 29, pos := "law.go:75", after := #[{ on := 6, ground := Ground.data }], guard := none }) (v := .tuple #[.agg #[.slice x5 n5 y5, .slice b3 m d3], .int .i64 er]) rfl (by kernel_rfl) (by kernel_rfl) (by kernel_rfl) (fun _ _ _ h => hP _ _ _ _ _ h) (Or.inl ⟨by rfl, (by intro w hSw; (try dsimp only at hSw); go_simp)⟩) (by assumption) ?_
     simp only [Act.put, List.setIfInBounds_toArray, List.set_cons_zero, List.set_cons_succ]
     refine wpAnyH_take (i := 8) (oi := { dst := some 33, op := Op.extract (Operand.tmp 25) 0, type := 25, pos := "law.go:75", after := #[{ on := 7, ground := Ground.data }], guard := none }) (v := .agg #[.slice x5 n5 y5, .slice b3 m d3]) rfl (by kernel_rfl) (by kernel_rfl) (by kernel_rfl) (fun _ _ _ h => hP _ _ _ _ _ h) (Or.inl ⟨by rfl, (by intro w hSw; (try dsimp only at hSw); go_simp)⟩) (by assumption) ?_
     simp only [Act.put, List.setIfInBounds_toArray, List.set_cons_zero, List.set_cons_succ]
     refine wpAnyH_take (i := 9) (oi := { dst := some 34, op := Op.extract (Operand.tmp 25) 1, type := 28, pos := "law.go:75", after := #[{ on := 7, ground := Ground.data }, { on := 11, ground := Ground.gcOnly Departure.lateStores }], guard := none }) (v := .int .i64 er) rfl (by kernel_rfl) (by kernel_rfl) (by kernel_rfl) (fun _ _ _ h => hP _ _ _ _ _ h) (Or.inl ⟨by rfl, (by intro w hSw; (try dsimp only at hSw); go_simp)⟩) (by assumption) ?_
     simp only [Act.put, List.setIfInBounds_toArray, List.set_cons_zero, List.set_cons_succ]
     refine wpAnyH_ready (rs := [10]) (by kernel_rfl) (by simp) ?_
     refine (AllReadyH.cons (o := { dst := some 8, op := Op.alloc 25, type := 0, pos := "law.go:75", after := #[], guard := none }) rfl (fun K hK => ?_) AllReadyH.nil)
     go_simp
     have kA : Below v.heap.size v (wT.alloc (.cells #[.slice none 0 0, .slice none 0 0] 25)) := kT.trans ((below_alloc wT (.cells #[.slice none 0 0, .slice none 0 0] 25)).mono kT.size)
     have jA := HC.out kA
     have BA : BoxA (wT.alloc (.cells #[.slice none 0 0, .slice none 0 0] 25)) wT.heap.size 25 #[.slice none 0 0, .slice none 0 0] := boxA_new wT #[.slice none 0 0, .slice none 0 0] 25
     have nA : v.heap.size ≤ wT.heap.size := kT.size
     go_simp
     refine hK.out _ _ (jA) (fun _ => ?_)
     clear hK K
     refine wpAnyH_ready (rs := [11]) (by kernel_rfl) (by simp) ?_
     refine (AllReadyH.cons (o := { dst := none, op := Op.store 25 (Operand.tmp 8) (Operand.tmp 33), type := 0, pos := "law.go:75", after := #[{ on := 10, ground := Ground.data }, { on := 8, ground := Ground.data }, { on := 6, ground := Ground.chain }, { on := 0, ground := Ground.phase }, { on := 1, ground := Ground.phase }, { on := 2, ground := Ground.phase }, { on := 3, ground := Ground.phase }, { on := 4, ground := Ground.phase }, { on := 5, ground := Ground.phase }, { on := 6, ground := Ground.phase }, { on := 7, ground := Ground.phase }, { on := 8, ground := Ground.phase }, { on := 9, ground := Ground.textOnly Departure.lateStores }, { on := 10, ground := Ground.phase }], guard := none }) rfl (fun K hK => ?_) AllReadyH.nil)
     go_simp
     have r0 := BA.cell 0 rfl
     have r1 := BA.cell 1 rfl
     have f0 := BA.frozen 0
     have f1 := BA.frozen 1
     have BS := boxA_new wT #[.slice x5 n5 y5, .slice b3 m d3] 25
     have kS : Below v.heap.size v (wT.alloc (.cells #[.slice x5 n5 y5, .slice b3 m d3] 25)) := kT.trans ((below_alloc wT (.cells #[.slice x5 n5 y5, .slice b3 m d3] 25)).mono kT.size)
     have jS := HC.out kS
     have HVS : Hid (OutR v.heap.size (wT.alloc (.cells #[.slice x5 n5 y5, .slice b3 m d3] 25)) er U x5 n5 y5 b3 m d3) := HV.out.imp sC ((below_alloc wT (.cells #[.slice x5 n5 y5, .slice b3 m d3] 25)).size) (fun q hq => (below_alloc wT (.cells #[.slice x5 n5 y5, .slice b3 m d3] 25)).block q hq.2)
     go_simp
     refine hK.out _ _ (jS) (fun _ => ?_)
     clear hK K
     refine wpAnyH_take (i := 12) (oi := { dst := some 9, op := Op.assign (Operand.tmp 34), type := 28, pos := "law.go:75", after := #[{ on := 9, ground := Ground.data }, { on := 11, ground := Ground.chain }, { on := 0, ground := Ground.phase }, { on := 1, ground := Ground.phase }, { on := 2, ground := Ground.phase }, { on := 3, ground := Ground.phase }, { on := 4, ground := Ground.phase }, { on := 5, ground := Ground.phase }, { on := 6, ground := Ground.phase }, { on := 7, ground := Ground.phase }, { on := 8, ground := Ground.phase }, { on := 9, ground := Ground.phase }, { on := 10, ground := Ground.phase }, { on := 11, ground := Ground.phase }], guard := none }) (v := .int .i64 er) rfl (by kernel_rfl) (by kernel_rfl) (by kernel_rfl) (fun _ _ _ h => hP _ _ _ _ _ h) (Or.inl ⟨by rfl, (by intro w hSw; (try dsimp only at hSw); go_simp)⟩) (by assumption) ?_
     simp only [Act.put, List.setIfInBounds_toArray, List.set_cons_zero, List.set_cons_succ]
     refine wpAnyH_done (by kernel_rfl) ?_ _
     exact hQ _ ds0 ea ec x5 n5 y5 b3 m d3 _ BS nA HVS kS
   · go_simp
     have kA : Below v.heap.size v (wE.alloc (.cells #[.slice none 0 0, .slice none 0 0] 25)) := kE.trans ((below_alloc wE (.cells #[.slice none 0 0, .slice none 0 0] 25)).mono kE.size)
     have jA := HC.out kA
     have BA : BoxA (wE.alloc (.cells #[.slice none 0 0, .slice none 0 0] 25)) wE.heap.size 25 #[.slice none 0 0, .slice none 0 0] := boxA_new wE #[.slice none 0 0, .slice none 0 0] 25
     have nA : v.heap.size ≤ wE.heap.size := kE.size
     go_simp
     refine hK.out _ _ (jA) (fun _ => ?_)
     clear hK K
     refine wpAnyH_ready (rs := [6]) (by kernel_rfl) (by simp) ?_
     refine (AllReadyH.cons (o := { dst := some 32, op := Op.call { callee := Callee.value (Operand.func 7), args := #[Operand.tmp 26, Operand.tmp 27, Operand.tmp 29, Operand.tmp 31], argTypes := #[35, 21, 25, 25] }, type := 29, pos := "law.go:75", after := #[{ on := 0, ground := Ground.data }, { on := 1, ground := Ground.data }, { on := 3, ground := Ground.data }, { on := 5, ground := Ground.data }, { on := 0, ground := Ground.chain }], guard := none }) rfl (fun K hK => ?_) AllReadyH.nil)
     go_simp
     have sC : v.heap.size ≤ (wE.alloc (.cells #[.slice none 0 0, .slice none 0 0] 25)).heap.size := kA.size
     have lBA := BA.lt
     refine (KT.out _ ds0 ea ec hd ((ho.below (below_alloc wE (.cells #[.slice none 0 0, .slice none 0 0] 25)) (Nat.le_refl _)).rd) kA).mono ?_
     rintro e wT ⟨⟨x5, n5, y5, b3, m, d3, rfl, hv⟩, pT⟩
     have kT : Below v.heap.size v wT := kA.trans (pT.mono kA.size)
     have jT := HC.out kT
     have HV : Hid (OutR (wE.alloc (.cells #[.slice none 0 0, .slice none 0 0] 25)).heap.size wT er U x5 n5 y5 b3 m d3) := hv
     clear hv
     replace BA := BA.below pT lBA
     go_simp
     refine hK.out _ _ (jT) (fun _ => ?_)
     clear hK K
     refine wpAnyH_take (i := 7) (oi := { dst := some 25, op := Op.move (Operand.tmp 32), type := 29, pos := "law.go:75", after := #[{ on := 6, ground := Ground.data }], guard := none }) (v := .tuple #[.agg #[.slice x5 n5 y5, .slice b3 m d3], .int .i64 er]) rfl (by kernel_rfl) (by kernel_rfl) (by kernel_rfl) (fun _ _ _ h => hP _ _ _ _ _ h) (Or.inl ⟨by rfl, (by intro w hSw; (try dsimp only at hSw); go_simp)⟩) (by assumption) ?_
     simp only [Act.put, List.setIfInBounds_toArray, List.set_cons_zero, List.set_cons_succ]
     refine wpAnyH_take (i := 8) (oi := { dst := some 33, op := Op.extract (Operand.tmp 25) 0, type := 25, pos := "law.go:75", after := #[{ on := 7, ground := Ground.data }], guard := none }) (v := .agg #[.slice x5 n5 y5, .slice b3 m d3]) rfl (by kernel_rfl) (by kernel_rfl) (by kernel_rfl) (fun _ _ _ h => hP _ _ _ _ _ h) (Or.inl ⟨by rfl, (by intro w hSw; (try dsimp only at hSw); go_simp)⟩) (by assumption) ?_
     simp only [Act.put, List.setIfInBounds_toArray, List.set_cons_zero, List.set_cons_succ]
     refine wpAnyH_take (i := 9) (oi := { dst := some 34, op := Op.extract (Operand.tmp 25) 1, type := 28, pos := "law.go:75", after := #[{ on := 7, ground := Ground.data }, { on := 11, ground := Ground.gcOnly Departure.lateStores }], guard := none }) (v := .int .i64 er) rfl (by kernel_rfl) (by kernel_rfl) (by kernel_rfl) (fun _ _ _ h => hP _ _ _ _ _ h) (Or.inl ⟨by rfl, (by intro w hSw; (try dsimp only at hSw); go_simp)⟩) (by assumption) ?_
     simp only [Act.put, List.setIfInBounds_toArray, List.set_cons_zero, List.set_cons_succ]
     refine wpAnyH_ready (rs := [11]) (by kernel_rfl) (by simp) ?_
     refine (AllReadyH.cons (o := { dst := none, op := Op.store 25 (Operand.tmp 8) (Operand.tmp 33), type := 0, pos := "law.go:75", after := #[{ on := 10, ground := Ground.data }, { on := 8, ground := Ground.data }, { on := 6, ground := Ground.chain }, { on := 0, ground := Ground.phase }, { on := 1, ground := Ground.phase }, { on := 2, ground := Ground.phase }, { on := 3, ground := Ground.phase }, { on := 4, ground := Ground.phase }, { on := 5, ground := Ground.phase }, { on := 6, ground := Ground.phase }, { on := 7, ground := Ground.phase }, { on := 8, ground := Ground.phase }, { on := 9, ground := Ground.textOnly Departure.lateStores }, { on := 10, ground := Ground.phase }], guard := none }) rfl (fun K hK => ?_) AllReadyH.nil)
     go_simp
     have r0 := BA.cell 0 rfl
     have r1 := BA.cell 1 rfl
     have f0 := BA.frozen 0
     have f1 := BA.frozen 1
     have BS := boxA_s1 (boxA_s0 BA (.slice x5 n5 y5)) (.slice b3 m d3)
     have kS := Below.set2 kT nA (.slice x5 n5 y5) (.slice b3 m d3)
     have jS := HC.out kS
     have HVS : Hid (OutR v.heap.size ((wT.setCell ⟨wE.heap.size, 0, none⟩ (.slice x5 n5 y5)).setCell ⟨wE.heap.size, 1, none⟩ (.slice b3 m d3)) er U x5 n5 y5 b3 m d3) := HV.out.imp sC (by rw [set1_size, set1_size]; exact Nat.le_refl _) (fun q hq => by rw [set1_other (by show ¬ wE.heap.size = q; have := hq.1; omega), set1_other (by show ¬ wE.heap.size = q; have := hq.1; omega)])
     go_simp
     refine hK.out _ _ (jS) (fun _ => ?_)
     clear hK K
     refine wpAnyH_take (i := 12) (oi := { dst := some 9, op := Op.assign (Operand.tmp 34), type := 28, pos := "law.go:75", after := #[{ on := 9, ground := Ground.data }, { on := 11, ground := Ground.chain }, { on := 0, ground := Ground.phase }, { on := 1, ground := Ground.phase }, { on := 2, ground := Ground.phase }, { on := 3, ground := Ground.phase }, { on := 4, ground := Ground.phase }, { on := 5, ground := Ground.phase }, { on := 6, ground := Ground.phase }, { on := 7, ground := Ground.phase }, { on := 8, ground := Ground.phase }, { on := 9, ground := Ground.phase }, { on := 10, ground := Ground.phase }, { on := 11, ground := Ground.phase }], guard := none }) (v := .int .i64 er) rfl (by kernel_rfl) (by kernel_rfl) (by kernel_rfl) (fun _ _ _ h => hP _ _ _ _ _ h) (Or.inl ⟨by rfl, (by intro w hSw; (try dsimp only at hSw); go_simp)⟩) (by assumption) ?_
     simp only [Act.put, List.setIfInBounds_toArray, List.set_cons_zero, List.set_cons_succ]
     refine wpAnyH_done (by kernel_rfl) ?_ _
     exact hQ _ ds0 ea ec x5 n5 y5 b3 m d3 _ BS nA HVS kS
 · go_simp
   have kA : Below v.heap.size v (v.drew.alloc (.cells #[.slice none 0 0, .slice none 0 0] 25)) := d1.trans ((below_alloc v.drew (.cells #[.slice none 0 0, .slice none 0 0] 25)).mono d1.size)
   have jA := HC.out kA
   have BA : BoxA (v.drew.alloc (.cells #[.slice none 0 0, .slice none 0 0] 25)) v.heap.size 25 #[.slice none 0 0, .slice none 0 0] := boxA_new v.drew #[.slice none 0 0, .slice none 0 0] 25
   have nA : v.heap.size ≤ v.heap.size := d1.size
   go_simp
   refine hK.out _ _ (jA) (fun _ => ?_)
   clear hK K
   refine wpAnyH_ready (rs := [0]) (by kernel_rfl) (by simp) ?_
   refine (AllReadyH.cons (o := { dst := some 26, op := Op.call { callee := Callee.value (Operand.func 8), args := #[], argTypes := #[] }, type := 35, pos := "law.go:75", after := #[], guard := none }) rfl (fun K hK => ?_) AllReadyH.nil)
   go_simp
   refine (env_any _).mono ?_
   rintro e wE ⟨ds0, ea, ec, hd, rfl, ho, pE⟩
   have kE : Below v.heap.size v wE := kA.trans (pE.mono kA.size)
   have jE := HC.out kE
   have lBA := BA.lt
   replace BA := BA.below pE lBA
   clear lBA
   go_simp
   refine hK.out _ _ (jE) (fun _ => ?_)
   clear hK K
   refine wpAnyH_ready (rs := [6]) (by kernel_rfl) (by simp) ?_
   refine (AllReadyH.cons (o := { dst := some 32, op := Op.call { callee := Callee.value (Operand.func 7), args := #[Operand.tmp 26, Operand.tmp 27, Operand.tmp 29, Operand.tmp 31], argTypes := #[35, 21, 25, 25] }, type := 29, pos := "law.go:75", after := #[{ on := 0, ground := Ground.data }, { on := 1, ground := Ground.data }, { on := 3, ground := Ground.data }, { on := 5, ground := Ground.data }, { on := 0, ground := Ground.chain }], guard := none }) rfl (fun K hK => ?_) AllReadyH.nil)
   go_simp
   have sC : v.heap.size ≤ wE.heap.size := kE.size
   have lBA := BA.lt
   refine (KT.out _ ds0 ea ec hd (ho.rd) kE).mono ?_
   rintro e wT ⟨⟨x5, n5, y5, b3, m, d3, rfl, hv⟩, pT⟩
   have kT : Below v.heap.size v wT := kE.trans (pT.mono kE.size)
   have jT := HC.out kT
   have HV : Hid (OutR wE.heap.size wT er U x5 n5 y5 b3 m d3) := hv
   clear hv
   replace BA := BA.below pT lBA
   go_simp
   refine hK.out _ _ (jT) (fun _ => ?_)
   clear hK K
   refine wpAnyH_take (i := 7) (oi := { dst := some 25, op := Op.move (Operand.tmp 32), type := 29, pos := "law.go:75", after := #[{ on := 6, ground := Ground.data }], guard := none }) (v := .tuple #[.agg #[.slice x5 n5 y5, .slice b3 m d3], .int .i64 er]) rfl (by kernel_rfl) (by kernel_rfl) (by kernel_rfl) (fun _ _ _ h => hP _ _ _ _ _ h) (Or.inl ⟨by rfl, (by intro w hSw; (try dsimp only at hSw); go_simp)⟩) (by assumption) ?_
   simp only [Act.put, List.setIfInBounds_toArray, List.set_cons_zero, List.set_cons_succ]
   refine wpAnyH_take (i := 8) (oi := { dst := some 33, op := Op.extract (Operand.tmp 25) 0, type := 25, pos := "law.go:75", after := #[{ on := 7, ground := Ground.data }], guard := none }) (v := .agg #[.slice x5 n5 y5, .slice b3 m d3]) rfl (by kernel_rfl) (by kernel_rfl) (by kernel_rfl) (fun _ _ _ h => hP _ _ _ _ _ h) (Or.inl ⟨by rfl, (by intro w hSw; (try dsimp only at hSw); go_simp)⟩) (by assumption) ?_
   simp only [Act.put, List.setIfInBounds_toArray, List.set_cons_zero, List.set_cons_succ]
   refine wpAnyH_take (i := 9) (oi := { dst := some 34, op := Op.extract (Operand.tmp 25) 1, type := 28, pos := "law.go:75", after := #[{ on := 7, ground := Ground.data }, { on := 11, ground := Ground.gcOnly Departure.lateStores }], guard := none }) (v := .int .i64 er) rfl (by kernel_rfl) (by kernel_rfl) (by kernel_rfl) (fun _ _ _ h => hP _ _ _ _ _ h) (Or.inl ⟨by rfl, (by intro w hSw; (try dsimp only at hSw); go_simp)⟩) (by assumption) ?_
   simp only [Act.put, List.setIfInBounds_toArray, List.set_cons_zero, List.set_cons_succ]
   refine wpAnyH_ready (rs := [11]) (by kernel_rfl) (by simp) ?_
   refine (AllReadyH.cons (o := { dst := none, op := Op.store 25 (Operand.tmp 8) (Operand.tmp 33), type := 0, pos := "law.go:75", after := #[{ on := 10, ground := Ground.data }, { on := 8, ground := Ground.data }, { on := 6, ground := Ground.chain }, { on := 0, ground := Ground.phase }, { on := 1, ground := Ground.phase }, { on := 2, ground := Ground.phase }, { on := 3, ground := Ground.phase }, { on := 4, ground := Ground.phase }, { on := 5, ground := Ground.phase }, { on := 6, ground := Ground.phase }, { on := 7, ground := Ground.phase }, { on := 8, ground := Ground.phase }, { on := 9, ground := Ground.textOnly Departure.lateStores }, { on := 10, ground := Ground.phase }], guard := none }) rfl (fun K hK => ?_) AllReadyH.nil)
   go_simp
   have r0 := BA.cell 0 rfl
   have r1 := BA.cell 1 rfl
   have f0 := BA.frozen 0
   have f1 := BA.frozen 1
   have BS := boxA_s1 (boxA_s0 BA (.slice x5 n5 y5)) (.slice b3 m d3)
   have kS := Below.set2 kT nA (.slice x5 n5 y5) (.slice b3 m d3)
   have jS := HC.out kS
   have HVS : Hid (OutR v.heap.size ((wT.setCell ⟨v.heap.size, 0, none⟩ (.slice x5 n5 y5)).setCell ⟨v.heap.size, 1, none⟩ (.slice b3 m d3)) er U x5 n5 y5 b3 m d3) := HV.out.imp sC (by rw [set1_size, set1_size]; exact Nat.le_refl _) (fun q hq => by rw [set1_other (by show ¬ v.heap.size = q; have := hq.1; omega), set1_other (by show ¬ v.heap.size = q; have := hq.1; omega)])
   go_simp
   refine hK.out _ _ (jS) (fun _ => ?_)
   clear hK K
   refine wpAnyH_take (i := 12) (oi := { dst := some 9, op := Op.assign (Operand.tmp 34), type := 28, pos := "law.go:75", after := #[{ on := 9, ground := Ground.data }, { on := 11, ground := Ground.chain }, { on := 0, ground := Ground.phase }, { on := 1, ground := Ground.phase }, { on := 2, ground := Ground.phase }, { on := 3, ground := Ground.phase }, { on := 4, ground := Ground.phase }, { on := 5, ground := Ground.phase }, { on := 6, ground := Ground.phase }, { on := 7, ground := Ground.phase }, { on := 8, ground := Ground.phase }, { on := 9, ground := Ground.phase }, { on := 10, ground := Ground.phase }, { on := 11, ground := Ground.phase }], guard := none }) (v := .int .i64 er) rfl (by kernel_rfl) (by kernel_rfl) (by kernel_rfl) (fun _ _ _ h => hP _ _ _ _ _ h) (Or.inl ⟨by rfl, (by intro w hSw; (try dsimp only at hSw); go_simp)⟩) (by assumption) ?_
   simp only [Act.put, List.setIfInBounds_toArray, List.set_cons_zero, List.set_cons_succ]
   refine wpAnyH_done (by kernel_rfl) ?_ _
   exact hQ _ ds0 ea ec x5 n5 y5 b3 m d3 _ BS nA HVS kS
end
end Go.Proofs.YtmijanocljmaeaaGreat
