/- ScalarZero's drawn regions, 1, 4 and 5. -/
import Derived.Test.YtmijanocljmaeaaGreatPR
import Derived.Test.YtmijanocljmaeaaGreatKS4
namespace Go.Proofs.YtmijanocljmaeaaGreat
set_option linter.unusedVariables false
set_option linter.unusedSimpArgs false
open Go.RowKit

section
variable {v : World} {x1 x2 : Option Addr} {n1 y1 n2 y2 kk : Nat} {U : Tr} {er : Int}
set_option maxRecDepth 100000 in
set_option maxHeartbeats 16000000 in
theorem zero_1 {Q : Exit → Act → World → Prop} {t0 t2 t3 t4 t5 t6 t7 t8 t9 t10 t11 t12 t13 t14 t15 t16 t17 t18 t19 t20 t21 t22 t23 t24 t25 t26 t27 t28 t29 t30 t31 t32 t33 t34 t35 t36 t37 t38 t39 t40 t41 t42 t43 t44 t45 t46 t47 t48 t49 : Value} (HC : Hid (∀ {w' : World}, Below v.heap.size v w' → w'.cell? ⟨kk, 0, none⟩ = some (.slice x1 n1 y1) ∧ w'.cell? ⟨kk, 1, none⟩ = some (.slice x2 n2 y2)))
    (KT : Hid (∀ u (ds0 : List Int) ea ec, Hid (ds0 = [(1 : Int)]) → Rd u.heap.size u (.slice ea ds0.length ec) ds0 → Below v.heap.size v u → Calls Tryz.prog 11 #[.agg #[.int .i64 1, .bool false, .slice none 0 0, .slice ea ds0.length ec, .int .i64 0], .int .i32 45, .agg #[.slice x1 n1 y1, .slice x2 n2 y2]] u fun e w' => (∃ x5 n5 y5 b3 m d3, e = .returned (.tuple #[.agg #[.slice x5 n5 y5, .slice b3 m d3], .int .i64 er]) ∧ OutR u.heap.size w' er U x5 n5 y5 b3 m d3) ∧ Below u.heap.size u w'))
    (hQ : ∀ A (ds0 : List Int) ea ec x5 n5 y5 b3 m d3 w', BoxA w' A 25 #[.slice x5 n5 y5, .slice b3 m d3] → v.heap.size ≤ A → Hid (OutR v.heap.size w' er U x5 n5 y5 b3 m d3) → Below v.heap.size v w' → Q .normal { tmps := #[t0, .pointer (some ⟨kk, 0, none⟩), t2, .pointer (some ⟨A, 0, none⟩), .int .i64 er, t5, t6, t7, t8, .tuple #[.agg #[.slice x5 n5 y5, .slice b3 m d3], .int .i64 er], .agg #[.int .i64 1, .bool false, .slice none 0 0, .slice ea ds0.length ec, .int .i64 0], .agg #[.slice x1 n1 y1, .slice x2 n2 y2], .tuple #[.agg #[.slice x5 n5 y5, .slice b3 m d3], .int .i64 er], .agg #[.slice x5 n5 y5, .slice b3 m d3], .int .i64 er, t15, t16, t17, t18, t19, t20, t21, t22, t23, t24, t25, t26, t27, t28, t29, t30, t31, t32, t33, t34, t35, t36, t37, t38, t39, t40, t41, t42, t43, t44, t45, t46, t47, t48, t49], defers := [] } w') (hP : ∀ c a d x w, Q (.panic c) (Act.put a d x) w → Q (.panic c) a w) :
    (Code.region 1 #[{ dst := some 10, op := Op.call { callee := Callee.value (Operand.func 8), args := #[], argTypes := #[] }, type := 35, pos := "law.go:81", after := #[], guard := none }, { dst := some 11, op := Op.load 25 (Operand.tmp 1), type := 25, pos := "law.go:81", after := #[], guard := none }, { dst := some 12, op := Op.call { callee := Callee.value (Operand.func 11), args := #[Operand.tmp 10, Operand.const (Value.int IntKind.i32 45), Operand.tmp 11], argTypes := #[35, 21, 25] }, type := 29, pos := "law.go:81", after := #[{ on := 0, ground := Ground.data }, { on := 1, ground := Ground.data }, { on := 0, ground := Ground.chain }], guard := none }, { dst := some 9, op := Op.move (Operand.tmp 12), type := 29, pos := "law.go:81", after := #[{ on := 2, ground := Ground.data }], guard := none }, { dst := some 13, op := Op.extract (Operand.tmp 9) 0, type := 25, pos := "law.go:81", after := #[{ on := 3, ground := Ground.data }], guard := none }, { dst := some 14, op := Op.extract (Operand.tmp 9) 1, type := 28, pos := "law.go:81", after := #[{ on := 3, ground := Ground.data }, { on := 7, ground := Ground.gcOnly Departure.lateStores }], guard := none }, { dst := some 3, op := Op.alloc 25, type := 0, pos := "law.go:81", after := #[], guard := none }, { dst := none, op := Op.store 25 (Operand.tmp 3) (Operand.tmp 13), type := 0, pos := "law.go:81", after := #[{ on := 6, ground := Ground.data }, { on := 4, ground := Ground.data }, { on := 2, ground := Ground.chain }, { on := 0, ground := Ground.phase }, { on := 1, ground := Ground.phase }, { on := 2, ground := Ground.phase }, { on := 3, ground := Ground.phase }, { on := 4, ground := Ground.phase }, { on := 5, ground := Ground.textOnly Departure.lateStores }, { on := 6, ground := Ground.phase }], guard := none }, { dst := some 4, op := Op.assign (Operand.tmp 14), type := 28, pos := "law.go:81", after := #[{ on := 5, ground := Ground.data }, { on := 7, ground := Ground.chain }, { on := 0, ground := Ground.phase }, { on := 1, ground := Ground.phase }, { on := 2, ground := Ground.phase }, { on := 3, ground := Ground.phase }, { on := 4, ground := Ground.phase }, { on := 5, ground := Ground.phase }, { on := 6, ground := Ground.phase }, { on := 7, ground := Ground.phase }], guard := none }] true).wp Tryz.prog Q { tmps := #[t0, .pointer (some ⟨kk, 0, none⟩), t2, t3, t4, t5, t6, t7, t8, t9, t10, t11, t12, t13, t14, t15, t16, t17, t18, t19, t20, t21, t22, t23, t24, t25, t26, t27, t28, t29, t30, t31, t32, t33, t34, t35, t36, t37, t38, t39, t40, t41, t42, t43, t44, t45, t46, t47, t48, t49], defers := [] } v := by
 have d1 : Below v.heap.size v v.drew := ⟨rfl, rfl, rfl, Nat.le_refl _, fun _ _ => rfl⟩
 have j0 := HC.out d1
 refine wp_region_held_drew (S := (fun w' => w'.cell? ⟨kk, 0, none⟩ = some (.slice x1 n1 y1) ∧ w'.cell? ⟨kk, 1, none⟩ = some (.slice x2 n2 y2))) (by kernel_rfl) j0 (fun hS => ?_)
 refine wpAnyH_take (i := 1) (oi := { dst := some 11, op := Op.load 25 (Operand.tmp 1), type := 25, pos := "law.go:81", after := #[], guard := none }) (v := .agg #[.slice x1 n1 y1, .slice x2 n2 y2]) rfl (by kernel_rfl) (by kernel_rfl) (by kernel_rfl) (fun _ _ _ h => hP _ _ _ _ _ h) (Or.inl ⟨by rfl, (by intro w hSw; (try dsimp only at hSw); go_simp)⟩) (by assumption) ?_
 simp only [Act.put, List.setIfInBounds_toArray, List.set_cons_zero, List.set_cons_succ]
 refine wpAnyH_ready (rs := [0, 6]) (by kernel_rfl) (by simp) ?_
 refine (AllReadyH.cons (o := { dst := some 10, op := Op.call { callee := Callee.value (Operand.func 8), args := #[], argTypes := #[] }, type := 35, pos := "law.go:81", after := #[], guard := none }) rfl (fun K hK => ?_) (AllReadyH.cons (o := { dst := some 3, op := Op.alloc 25, type := 0, pos := "law.go:81", after := #[], guard := none }) rfl (fun K hK => ?_) AllReadyH.nil))
 · go_simp
   refine (env_any _).mono ?_
   rintro e wE ⟨ds0, ea, ec, hd, rfl, ho, pE⟩
   have kE : Below v.heap.size v wE := d1.trans (pE.mono d1.size)
   have jE := HC.out kE
   have hrE := ho.rd
   clear ho
   go_simp
   refine hK.out _ _ (jE) (fun _ => ?_)
   clear hK K
   refine wpAnyH_ready (rs := [2, 6]) (by kernel_rfl) (by simp) ?_
   refine (AllReadyH.cons (o := { dst := some 12, op := Op.call { callee := Callee.value (Operand.func 11), args := #[Operand.tmp 10, Operand.const (Value.int IntKind.i32 45), Operand.tmp 11], argTypes := #[35, 21, 25] }, type := 29, pos := "law.go:81", after := #[{ on := 0, ground := Ground.data }, { on := 1, ground := Ground.data }, { on := 0, ground := Ground.chain }], guard := none }) rfl (fun K hK => ?_) (AllReadyH.cons (o := { dst := some 3, op := Op.alloc 25, type := 0, pos := "law.go:81", after := #[], guard := none }) rfl (fun K hK => ?_) AllReadyH.nil))
   · go_simp
     have sC : v.heap.size ≤ wE.heap.size := kE.size
     refine (KT.out _ ds0 ea ec hd hrE kE).mono ?_
     rintro e wT ⟨⟨x5, n5, y5, b3, m, d3, rfl, hv⟩, pT⟩
     have kT : Below v.heap.size v wT := kE.trans (pT.mono kE.size)
     have jT := HC.out kT
     have HV : Hid (OutR wE.heap.size wT er U x5 n5 y5 b3 m d3) := hv
     clear hv hrE
     go_simp
     refine hK.out _ _ (jT) (fun _ => ?_)
     clear hK K
     refine wpAnyH_take (i := 3) (oi := { dst := some 9, op := Op.move (Operand.tmp 12), type := 29, pos := "law.go:81", after := #[{ on := 2, ground := Ground.data }], guard := none }) (v := .tuple #[.agg #[.slice x5 n5 y5, .slice b3 m d3], .int .i64 er]) rfl (by kernel_rfl) (by kernel_rfl) (by kernel_rfl) (fun _ _ _ h => hP _ _ _ _ _ h) (Or.inl ⟨by rfl, (by intro w hSw; (try dsimp only at hSw); go_simp)⟩) (by assumption) ?_
     simp only [Act.put, List.setIfInBounds_toArray, List.set_cons_zero, List.set_cons_succ]
     refine wpAnyH_take (i := 4) (oi := { dst := some 13, op := Op.extract (Operand.tmp 9) 0, type := 25, pos := "law.go:81", after := #[{ on := 3, ground := Ground.data }], guard := none }) (v := .agg #[.slice x5 n5 y5, .slice b3 m d3]) rfl (by kernel_rfl) (by kernel_rfl) (by kernel_rfl) (fun _ _ _ h => hP _ _ _ _ _ h) (Or.inl ⟨by rfl, (by intro w hSw; (try dsimp only at hSw); go_simp)⟩) (by assumption) ?_
     simp only [Act.put, List.setIfInBounds_toArray, List.set_cons_zero, List.set_cons_succ]
     refine wpAnyH_take (i := 5) (oi := { dst := some 14, op := Op.extract (Operand.tmp 9) 1, type := 28, pos := "law.go:81", after := #[{ on := 3, ground := Ground.data }, { on := 7, ground := Ground.gcOnly Departure.lateStores }], guard := none }) (v := .int .i64 er) rfl (by kernel_rfl) (by kernel_rfl) (by kernel_rfl) (fun _ _ _ h => hP _ _ _ _ _ h) (Or.inl ⟨by rfl, (by intro w hSw; (try dsimp only at hSw); go_simp)⟩) (by assumption) ?_
     simp only [Act.put, List.setIfInBounds_toArray, List.set_cons_zero, List.set_cons_succ]
     refine wpAnyH_ready (rs := [6]) (by kernel_rfl) (by simp) ?_
     refine (AllReadyH.cons (o := { dst := some 3, op := Op.alloc 25, type := 0, pos := "law.go:81", after := #[], guard := none }) rfl (fun K hK => ?_) AllReadyH.nil)
     go_simp
     have kA : Below v.heap.size v (wT.alloc (.cells #[.slice none 0 0, .slice none 0 0] 25)) := kT.trans ((below_alloc wT (.cells #[.slice none 0 0, .slice none 0 0] 25)).mono kT.size)
     have jA := HC.out kA
     have BA : BoxA (wT.alloc (.cells #[.slice none 0 0, .slice none 0 0] 25)) wT.heap.size 25 #[.slice none 0 0, .slice none 0 0] := boxA_new wT #[.slice none 0 0, .slice none 0 0] 25
     have nA : v.heap.size ≤ wT.heap.size := kT.size
     go_simp
     refine hK.out _ _ (jA) (fun _ => ?_)
     clear hK K
     refine wpAnyH_ready (rs := [7]) (by kernel_rfl) (by simp) ?_
     refine (AllReadyH.cons (o := { dst := none, op := Op.store 25 (Operand.tmp 3) (Operand.tmp 13), type := 0, pos := "law.go:81", after := #[{ on := 6, ground := Ground.data }, { on := 4, ground := Ground.data }, { on := 2, ground := Ground.chain }, { on := 0, ground := Ground.phase }, { on := 1, ground := Ground.phase }, { on := 2, ground := Ground.phase }, { on := 3, ground := Ground.phase }, { on := 4, ground := Ground.phase }, { on := 5, ground := Ground.textOnly Departure.lateStores }, { on := 6, ground := Ground.phase }], guard := none }) rfl (fun K hK => ?_) AllReadyH.nil)
     go_simp
     have r0 := BA.cell 0 rfl
     have r1 := BA.cell 1 rfl
     have f0 := BA.frozen 0
     have f1 := BA.frozen 1
     have BS := boxA_new wT #[.slice x5 n5 y5, .slice b3 m d3] 25
     have kS : Below v.heap.size v (wT.alloc (.cells #[.slice x5 n5 y5, .slice b3 m d3] 25)) := kT.trans ((below_alloc wT (.cells #[.slice x5 n5 y5, .slice b3 m d3] 25)).mono kT.size)
     have jS := HC.out kS
     have HVS : Hid (OutR v.heap.size (wT.alloc (.cells #[.slice x5 n5 y5, .slice b3 m d3] 25)) er U x5 n5 y5 b3 m d3) := HV.out.imp sC ((below_alloc wT (.cells #[.slice x5 n5 y5, .slice b3 m d3] 25)).size) (fun q hq => (below_alloc wT (.cells #[.slice x5 n5 y5, .slice b3 m d3] 25)).block q hq.2)
     go_simp
     refine hK.out _ _ (jS) (fun _ => ?_)
     clear hK K
     refine wpAnyH_take (i := 8) (oi := { dst := some 4, op := Op.assign (Operand.tmp 14), type := 28, pos := "law.go:81", after := #[{ on := 5, ground := Ground.data }, { on := 7, ground := Ground.chain }, { on := 0, ground := Ground.phase }, { on := 1, ground := Ground.phase }, { on := 2, ground := Ground.phase }, { on := 3, ground := Ground.phase }, { on := 4, ground := Ground.phase }, { on := 5, ground := Ground.phase }, { on := 6, ground := Ground.phase }, { on := 7, ground := Ground.phase }], guard := none }) (v := .int .i64 er) rfl (by kernel_rfl) (by kernel_rfl) (by kernel_rfl) (fun _ _ _ h => hP _ _ _ _ _ h) (Or.inl ⟨by rfl, (by intro w hSw; (try dsimp only at hSw); go_simp)⟩) (by assumption) ?_
     simp only [Act.put, List.setIfInBounds_toArray, List.set_cons_zero, List.set_cons_succ]
     refine wpAnyH_done (by kernel_rfl) ?_ _
     exact hQ _ ds0 ea ec x5 n5 y5 b3 m d3 _ BS nA HVS kS
   · go_simp
     have kA : Below v.heap.size v (wE.alloc (.cells #[.slice none 0 0, .slice none 0 0] 25)) := kE.trans ((below_alloc wE (.cells #[.slice none 0 0, .slice none 0 0] 25)).mono kE.size)
     have jA := HC.out kA
     have BA : BoxA (wE.alloc (.cells #[.slice none 0 0, .slice none 0 0] 25)) wE.heap.size 25 #[.slice none 0 0, .slice none 0 0] := boxA_new wE #[.slice none 0 0, .slice none 0 0] 25
     have nA : v.heap.size ≤ wE.heap.size := kE.size
     replace hrE := (hrE.below (below_alloc wE (.cells #[.slice none 0 0, .slice none 0 0] 25))).mono (below_alloc wE (.cells #[.slice none 0 0, .slice none 0 0] 25)).size
     go_simp
     refine hK.out _ _ (jA) (fun _ => ?_)
     clear hK K
     refine wpAnyH_ready (rs := [2]) (by kernel_rfl) (by simp) ?_
     refine (AllReadyH.cons (o := { dst := some 12, op := Op.call { callee := Callee.value (Operand.func 11), args := #[Operand.tmp 10, Operand.const (Value.int IntKind.i32 45), Operand.tmp 11], argTypes := #[35, 21, 25] }, type := 29, pos := "law.go:81", after := #[{ on := 0, ground := Ground.data }, { on := 1, ground := Ground.data }, { on := 0, ground := Ground.chain }], guard := none }) rfl (fun K hK => ?_) AllReadyH.nil)
     go_simp
     have sC : v.heap.size ≤ (wE.alloc (.cells #[.slice none 0 0, .slice none 0 0] 25)).heap.size := kA.size
     have lBA := BA.lt
     refine (KT.out _ ds0 ea ec hd hrE kA).mono ?_
     rintro e wT ⟨⟨x5, n5, y5, b3, m, d3, rfl, hv⟩, pT⟩
     have kT : Below v.heap.size v wT := kA.trans (pT.mono kA.size)
     have jT := HC.out kT
     have HV : Hid (OutR (wE.alloc (.cells #[.slice none 0 0, .slice none 0 0] 25)).heap.size wT er U x5 n5 y5 b3 m d3) := hv
     clear hv hrE
     replace BA := BA.below pT lBA
     go_simp
     refine hK.out _ _ (jT) (fun _ => ?_)
     clear hK K
     refine wpAnyH_take (i := 3) (oi := { dst := some 9, op := Op.move (Operand.tmp 12), type := 29, pos := "law.go:81", after := #[{ on := 2, ground := Ground.data }], guard := none }) (v := .tuple #[.agg #[.slice x5 n5 y5, .slice b3 m d3], .int .i64 er]) rfl (by kernel_rfl) (by kernel_rfl) (by kernel_rfl) (fun _ _ _ h => hP _ _ _ _ _ h) (Or.inl ⟨by rfl, (by intro w hSw; (try dsimp only at hSw); go_simp)⟩) (by assumption) ?_
     simp only [Act.put, List.setIfInBounds_toArray, List.set_cons_zero, List.set_cons_succ]
     refine wpAnyH_take (i := 4) (oi := { dst := some 13, op := Op.extract (Operand.tmp 9) 0, type := 25, pos := "law.go:81", after := #[{ on := 3, ground := Ground.data }], guard := none }) (v := .agg #[.slice x5 n5 y5, .slice b3 m d3]) rfl (by kernel_rfl) (by kernel_rfl) (by kernel_rfl) (fun _ _ _ h => hP _ _ _ _ _ h) (Or.inl ⟨by rfl, (by intro w hSw; (try dsimp only at hSw); go_simp)⟩) (by assumption) ?_
     simp only [Act.put, List.setIfInBounds_toArray, List.set_cons_zero, List.set_cons_succ]
     refine wpAnyH_take (i := 5) (oi := { dst := some 14, op := Op.extract (Operand.tmp 9) 1, type := 28, pos := "law.go:81", after := #[{ on := 3, ground := Ground.data }, { on := 7, ground := Ground.gcOnly Departure.lateStores }], guard := none }) (v := .int .i64 er) rfl (by kernel_rfl) (by kernel_rfl) (by kernel_rfl) (fun _ _ _ h => hP _ _ _ _ _ h) (Or.inl ⟨by rfl, (by intro w hSw; (try dsimp only at hSw); go_simp)⟩) (by assumption) ?_
     simp only [Act.put, List.setIfInBounds_toArray, List.set_cons_zero, List.set_cons_succ]
     refine wpAnyH_ready (rs := [7]) (by kernel_rfl) (by simp) ?_
     refine (AllReadyH.cons (o := { dst := none, op := Op.store 25 (Operand.tmp 3) (Operand.tmp 13), type := 0, pos := "law.go:81", after := #[{ on := 6, ground := Ground.data }, { on := 4, ground := Ground.data }, { on := 2, ground := Ground.chain }, { on := 0, ground := Ground.phase }, { on := 1, ground := Ground.phase }, { on := 2, ground := Ground.phase }, { on := 3, ground := Ground.phase }, { on := 4, ground := Ground.phase }, { on := 5, ground := Ground.textOnly Departure.lateStores }, { on := 6, ground := Ground.phase }], guard := none }) rfl (fun K hK => ?_) AllReadyH.nil)
     go_simp
     have r0 := BA.cell 0 rfl
     have r1 := BA.cell 1 rfl
     have f0 := BA.frozen 0
     have f1 := BA.frozen 1
     have BS := boxA_s1 (boxA_s0 BA (.slice x5 n5 y5)) (.slice b3 m d3)
     have kS := Below.set2 kT nA (.slice x5 n5 y5) (.slice b3 m d3)
     have jS := HC.out kS
     have lU : wE.heap.size < wT.heap.size := BA.lt
     have HVS : Hid (OutR v.heap.size ((wT.setCell ⟨wE.heap.size, 0, none⟩ (.slice x5 n5 y5)).setCell ⟨wE.heap.size, 1, none⟩ (.slice b3 m d3)) er U x5 n5 y5 b3 m d3) := HV.out.imp sC (by rw [set1_size, set1_size]; exact Nat.le_refl _) (fun q hq => by rw [set1_other (by show ¬ wE.heap.size = q; have := hq.1; omega), set1_other (by show ¬ wE.heap.size = q; have := hq.1; omega)])
     go_simp
     refine hK.out _ _ (jS) (fun _ => ?_)
     clear hK K
     refine wpAnyH_take (i := 8) (oi := { dst := some 4, op := Op.assign (Operand.tmp 14), type := 28, pos := "law.go:81", after := #[{ on := 5, ground := Ground.data }, { on := 7, ground := Ground.chain }, { on := 0, ground := Ground.phase }, { on := 1, ground := Ground.phase }, { on := 2, ground := Ground.phase }, { on := 3, ground := Ground.phase }, { on := 4, ground := Ground.phase }, { on := 5, ground := Ground.phase }, { on := 6, ground := Ground.phase }, { on := 7, ground := Ground.phase }], guard := none }) (v := .int .i64 er) rfl (by kernel_rfl) (by kernel_rfl) (by kernel_rfl) (fun _ _ _ h => hP _ _ _ _ _ h) (Or.inl ⟨by rfl, (by intro w hSw; (try dsimp only at hSw); go_simp)⟩) (by assumption) ?_
     simp only [Act.put, List.setIfInBounds_toArray, List.set_cons_zero, List.set_cons_succ]
     refine wpAnyH_done (by kernel_rfl) ?_ _
     exact hQ _ ds0 ea ec x5 n5 y5 b3 m d3 _ BS nA HVS kS
 · go_simp
   have kA : Below v.heap.size v (v.drew.alloc (.cells #[.slice none 0 0, .slice none 0 0] 25)) := d1.trans ((below_alloc v.drew (.cells #[.slice none 0 0, .slice none 0 0] 25)).mono d1.size)
   have jA := HC.out kA
   have BA : BoxA (v.drew.alloc (.cells #[.slice none 0 0, .slice none 0 0] 25)) v.heap.size 25 #[.slice none 0 0, .slice none 0 0] := boxA_new v.drew #[.slice none 0 0, .slice none 0 0] 25
   have nA : v.heap.size ≤ v.heap.size := d1.size
   go_simp
   refine hK.out _ _ (jA) (fun _ => ?_)
   clear hK K
   refine wpAnyH_ready (rs := [0]) (by kernel_rfl) (by simp) ?_
   refine (AllReadyH.cons (o := { dst := some 10, op := Op.call { callee := Callee.value (Operand.func 8), args := #[], argTypes := #[] }, type := 35, pos := "law.go:81", after := #[], guard := none }) rfl (fun K hK => ?_) AllReadyH.nil)
   go_simp
   refine (env_any _).mono ?_
   rintro e wE ⟨ds0, ea, ec, hd, rfl, ho, pE⟩
   have kE : Below v.heap.size v wE := kA.trans (pE.mono kA.size)
   have jE := HC.out kE
   have hrE := ho.rd
   clear ho
   have lBA := BA.lt
   replace BA := BA.below pE lBA
   clear lBA
   go_simp
   refine hK.out _ _ (jE) (fun _ => ?_)
   clear hK K
   refine wpAnyH_ready (rs := [2]) (by kernel_rfl) (by simp) ?_
   refine (AllReadyH.cons (o := { dst := some 12, op := Op.call { callee := Callee.value (Operand.func 11), args := #[Operand.tmp 10, Operand.const (Value.int IntKind.i32 45), Operand.tmp 11], argTypes := #[35, 21, 25] }, type := 29, pos := "law.go:81", after := #[{ on := 0, ground := Ground.data }, { on := 1, ground := Ground.data }, { on := 0, ground := Ground.chain }], guard := none }) rfl (fun K hK => ?_) AllReadyH.nil)
   go_simp
   have sC : v.heap.size ≤ wE.heap.size := kE.size
   have lBA := BA.lt
   refine (KT.out _ ds0 ea ec hd hrE kE).mono ?_
   rintro e wT ⟨⟨x5, n5, y5, b3, m, d3, rfl, hv⟩, pT⟩
   have kT : Below v.heap.size v wT := kE.trans (pT.mono kE.size)
   have jT := HC.out kT
   have HV : Hid (OutR wE.heap.size wT er U x5 n5 y5 b3 m d3) := hv
   clear hv hrE
   replace BA := BA.below pT lBA
   go_simp
   refine hK.out _ _ (jT) (fun _ => ?_)
   clear hK K
   refine wpAnyH_take (i := 3) (oi := { dst := some 9, op := Op.move (Operand.tmp 12), type := 29, pos := "law.go:81", after := #[{ on := 2, ground := Ground.data }], guard := none }) (v := .tuple #[.agg #[.slice x5 n5 y5, .slice b3 m d3], .int .i64 er]) rfl (by kernel_rfl) (by kernel_rfl) (by kernel_rfl) (fun _ _ _ h => hP _ _ _ _ _ h) (Or.inl ⟨by rfl, (by intro w hSw; (try dsimp only at hSw); go_simp)⟩) (by assumption) ?_
   simp only [Act.put, List.setIfInBounds_toArray, List.set_cons_zero, List.set_cons_succ]
   refine wpAnyH_take (i := 4) (oi := { dst := some 13, op := Op.extract (Operand.tmp 9) 0, type := 25, pos := "law.go:81", after := #[{ on := 3, ground := Ground.data }], guard := none }) (v := .agg #[.slice x5 n5 y5, .slice b3 m d3]) rfl (by kernel_rfl) (by kernel_rfl) (by kernel_rfl) (fun _ _ _ h => hP _ _ _ _ _ h) (Or.inl ⟨by rfl, (by intro w hSw; (try dsimp only at hSw); go_simp)⟩) (by assumption) ?_
   simp only [Act.put, List.setIfInBounds_toArray, List.set_cons_zero, List.set_cons_succ]
   refine wpAnyH_take (i := 5) (oi := { dst := some 14, op := Op.extract (Operand.tmp 9) 1, type := 28, pos := "law.go:81", after := #[{ on := 3, ground := Ground.data }, { on := 7, ground := Ground.gcOnly Departure.lateStores }], guard := none }) (v := .int .i64 er) rfl (by kernel_rfl) (by kernel_rfl) (by kernel_rfl) (fun _ _ _ h => hP _ _ _ _ _ h) (Or.inl ⟨by rfl, (by intro w hSw; (try dsimp only at hSw); go_simp)⟩) (by assumption) ?_
   simp only [Act.put, List.setIfInBounds_toArray, List.set_cons_zero, List.set_cons_succ]
   refine wpAnyH_ready (rs := [7]) (by kernel_rfl) (by simp) ?_
   refine (AllReadyH.cons (o := { dst := none, op := Op.store 25 (Operand.tmp 3) (Operand.tmp 13), type := 0, pos := "law.go:81", after := #[{ on := 6, ground := Ground.data }, { on := 4, ground := Ground.data }, { on := 2, ground := Ground.chain }, { on := 0, ground := Ground.phase }, { on := 1, ground := Ground.phase }, { on := 2, ground := Ground.phase }, { on := 3, ground := Ground.phase }, { on := 4, ground := Ground.phase }, { on := 5, ground := Ground.textOnly Departure.lateStores }, { on := 6, ground := Ground.phase }], guard := none }) rfl (fun K hK => ?_) AllReadyH.nil)
   go_simp
   have r0 := BA.cell 0 rfl
   have r1 := BA.cell 1 rfl
   have f0 := BA.frozen 0
   have f1 := BA.frozen 1
   have BS := boxA_s1 (boxA_s0 BA (.slice x5 n5 y5)) (.slice b3 m d3)
   have kS := Below.set2 kT nA (.slice x5 n5 y5) (.slice b3 m d3)
   have jS := HC.out kS
   have lU : v.heap.size < wT.heap.size := BA.lt
   have HVS : Hid (OutR v.heap.size ((wT.setCell ⟨v.heap.size, 0, none⟩ (.slice x5 n5 y5)).setCell ⟨v.heap.size, 1, none⟩ (.slice b3 m d3)) er U x5 n5 y5 b3 m d3) := HV.out.imp sC (by rw [set1_size, set1_size]; exact Nat.le_refl _) (fun q hq => by rw [set1_other (by show ¬ v.heap.size = q; have := hq.1; omega), set1_other (by show ¬ v.heap.size = q; have := hq.1; omega)])
   go_simp
   refine hK.out _ _ (jS) (fun _ => ?_)
   clear hK K
   refine wpAnyH_take (i := 8) (oi := { dst := some 4, op := Op.assign (Operand.tmp 14), type := 28, pos := "law.go:81", after := #[{ on := 5, ground := Ground.data }, { on := 7, ground := Ground.chain }, { on := 0, ground := Ground.phase }, { on := 1, ground := Ground.phase }, { on := 2, ground := Ground.phase }, { on := 3, ground := Ground.phase }, { on := 4, ground := Ground.phase }, { on := 5, ground := Ground.phase }, { on := 6, ground := Ground.phase }, { on := 7, ground := Ground.phase }], guard := none }) (v := .int .i64 er) rfl (by kernel_rfl) (by kernel_rfl) (by kernel_rfl) (fun _ _ _ h => hP _ _ _ _ _ h) (Or.inl ⟨by rfl, (by intro w hSw; (try dsimp only at hSw); go_simp)⟩) (by assumption) ?_
   simp only [Act.put, List.setIfInBounds_toArray, List.set_cons_zero, List.set_cons_succ]
   refine wpAnyH_done (by kernel_rfl) ?_ _
   exact hQ _ ds0 ea ec x5 n5 y5 b3 m d3 _ BS nA HVS kS
end
section
variable {v : World} {x1 x2 x3 x4 : Option Addr} {n1 y1 n2 y2 n3 y3 n4 y4 kk kb : Nat} {U : Tr} {er : Int}
set_option maxRecDepth 100000 in
set_option maxHeartbeats 16000000 in
theorem zero_4 {Q : Exit → Act → World → Prop} {t0 t2 t4 t5 t6 t7 t8 t9 t10 t11 t12 t13 t14 t15 t16 t17 t18 t19 t20 t21 t22 t23 t24 t25 t26 t27 t28 t29 t30 t31 t32 t33 t34 t35 t36 t37 t38 t39 t40 t41 t42 t43 t44 t45 t46 t47 t48 t49 : Value} (HC : Hid (∀ {w' : World}, Below v.heap.size v w' → w'.cell? ⟨kk, 0, none⟩ = some (.slice x1 n1 y1) ∧ w'.cell? ⟨kk, 1, none⟩ = some (.slice x2 n2 y2) ∧ w'.cell? ⟨kb, 0, none⟩ = some (.slice x3 n3 y3) ∧ w'.cell? ⟨kb, 1, none⟩ = some (.slice x4 n4 y4)))
    (KT : Hid (∀ u (ds0 : List Int) ea ec, Hid (ds0 = [(1 : Int)]) → Rd u.heap.size u (.slice ea ds0.length ec) ds0 → Below v.heap.size v u → Calls Tryz.prog 7 #[.agg #[.int .i64 1, .bool false, .slice none 0 0, .slice ea ds0.length ec, .int .i64 0], .int .i32 43, .agg #[.slice x1 n1 y1, .slice x2 n2 y2], .agg #[.slice x3 n3 y3, .slice x4 n4 y4]] u fun e w' => (∃ x5 n5 y5 b3 m d3, e = .returned (.tuple #[.agg #[.slice x5 n5 y5, .slice b3 m d3], .int .i64 er]) ∧ OutR u.heap.size w' er U x5 n5 y5 b3 m d3) ∧ Below u.heap.size u w'))
    (hQ : ∀ A (ds0 : List Int) ea ec x5 n5 y5 b3 m d3 w', BoxA w' A 25 #[.slice x5 n5 y5, .slice b3 m d3] → v.heap.size ≤ A → Hid (OutR v.heap.size w' er U x5 n5 y5 b3 m d3) → Below v.heap.size v w' → Q .normal { tmps := #[t0, .pointer (some ⟨kk, 0, none⟩), t2, .pointer (some ⟨kb, 0, none⟩), t4, .pointer (some ⟨A, 0, none⟩), .int .i64 er, t7, t8, t9, t10, t11, t12, t13, t14, t15, t16, t17, .tuple #[.agg #[.slice x5 n5 y5, .slice b3 m d3], .int .i64 er], .agg #[.int .i64 1, .bool false, .slice none 0 0, .slice ea ds0.length ec, .int .i64 0], .agg #[.slice x1 n1 y1, .slice x2 n2 y2], .agg #[.slice x3 n3 y3, .slice x4 n4 y4], .tuple #[.agg #[.slice x5 n5 y5, .slice b3 m d3], .int .i64 er], .agg #[.slice x5 n5 y5, .slice b3 m d3], .int .i64 er, t25, t26, t27, t28, t29, t30, t31, t32, t33, t34, t35, t36, t37, t38, t39, t40, t41, t42, t43, t44, t45, t46, t47, t48, t49], defers := [] } w') (hP : ∀ c a d x w, Q (.panic c) (Act.put a d x) w → Q (.panic c) a w) :
    (Code.region 4 #[{ dst := some 19, op := Op.call { callee := Callee.value (Operand.func 8), args := #[], argTypes := #[] }, type := 35, pos := "law.go:85", after := #[], guard := none }, { dst := some 20, op := Op.load 25 (Operand.tmp 1), type := 25, pos := "law.go:85", after := #[], guard := none }, { dst := some 21, op := Op.load 25 (Operand.tmp 3), type := 25, pos := "law.go:85", after := #[], guard := none }, { dst := some 22, op := Op.call { callee := Callee.value (Operand.func 7), args := #[Operand.tmp 19, Operand.const (Value.int IntKind.i32 43), Operand.tmp 20, Operand.tmp 21], argTypes := #[35, 21, 25, 25] }, type := 29, pos := "law.go:85", after := #[{ on := 0, ground := Ground.data }, { on := 1, ground := Ground.data }, { on := 2, ground := Ground.data }, { on := 0, ground := Ground.chain }], guard := none }, { dst := some 18, op := Op.move (Operand.tmp 22), type := 29, pos := "law.go:85", after := #[{ on := 3, ground := Ground.data }], guard := none }, { dst := some 23, op := Op.extract (Operand.tmp 18) 0, type := 25, pos := "law.go:85", after := #[{ on := 4, ground := Ground.data }], guard := none }, { dst := some 24, op := Op.extract (Operand.tmp 18) 1, type := 28, pos := "law.go:85", after := #[{ on := 4, ground := Ground.data }, { on := 8, ground := Ground.gcOnly Departure.lateStores }], guard := none }, { dst := some 5, op := Op.alloc 25, type := 0, pos := "law.go:85", after := #[], guard := none }, { dst := none, op := Op.store 25 (Operand.tmp 5) (Operand.tmp 23), type := 0, pos := "law.go:85", after := #[{ on := 7, ground := Ground.data }, { on := 5, ground := Ground.data }, { on := 3, ground := Ground.chain }, { on := 0, ground := Ground.phase }, { on := 1, ground := Ground.phase }, { on := 2, ground := Ground.phase }, { on := 3, ground := Ground.phase }, { on := 4, ground := Ground.phase }, { on := 5, ground := Ground.phase }, { on := 6, ground := Ground.textOnly Departure.lateStores }, { on := 7, ground := Ground.phase }], guard := none }, { dst := some 6, op := Op.assign (Operand.tmp 24), type := 28, pos := "law.go:85", after := #[{ on := 6, ground := Ground.data }, { on := 8, ground := Ground.chain }, { on := 0, ground := Ground.phase }, { on := 1, ground := Ground.phase }, { on := 2, ground := Ground.phase }, { on := 3, ground := Ground.phase }, { on := 4, ground := Ground.phase }, { on := 5, ground := Ground.phase }, { on := 6, ground := Ground.phase }, { on := 7, ground := Ground.phase }, { on := 8, ground := Ground.phase }], guard := none }] true).wp Tryz.prog Q { tmps := #[t0, .pointer (some ⟨kk, 0, none⟩), t2, .pointer (some ⟨kb, 0, none⟩), t4, t5, t6, t7, t8, t9, t10, t11, t12, t13, t14, t15, t16, t17, t18, t19, t20, t21, t22, t23, t24, t25, t26, t27, t28, t29, t30, t31, t32, t33, t34, t35, t36, t37, t38, t39, t40, t41, t42, t43, t44, t45, t46, t47, t48, t49], defers := [] } v := by
 have d1 : Below v.heap.size v v.drew := ⟨rfl, rfl, rfl, Nat.le_refl _, fun _ _ => rfl⟩
 have j0 := HC.out d1
 refine wp_region_held_drew (S := (fun w' => w'.cell? ⟨kk, 0, none⟩ = some (.slice x1 n1 y1) ∧ w'.cell? ⟨kk, 1, none⟩ = some (.slice x2 n2 y2) ∧ w'.cell? ⟨kb, 0, none⟩ = some (.slice x3 n3 y3) ∧ w'.cell? ⟨kb, 1, none⟩ = some (.slice x4 n4 y4))) (by kernel_rfl) j0 (fun hS => ?_)
 refine wpAnyH_take (i := 1) (oi := { dst := some 20, op := Op.load 25 (Operand.tmp 1), type := 25, pos := "law.go:85", after := #[], guard := none }) (v := .agg #[.slice x1 n1 y1, .slice x2 n2 y2]) rfl (by kernel_rfl) (by kernel_rfl) (by kernel_rfl) (fun _ _ _ h => hP _ _ _ _ _ h) (Or.inl ⟨by rfl, (by intro w hSw; (try dsimp only at hSw); go_simp)⟩) (by assumption) ?_
 simp only [Act.put, List.setIfInBounds_toArray, List.set_cons_zero, List.set_cons_succ]
 refine wpAnyH_take (i := 2) (oi := { dst := some 21, op := Op.load 25 (Operand.tmp 3), type := 25, pos := "law.go:85", after := #[], guard := none }) (v := .agg #[.slice x3 n3 y3, .slice x4 n4 y4]) rfl (by kernel_rfl) (by kernel_rfl) (by kernel_rfl) (fun _ _ _ h => hP _ _ _ _ _ h) (Or.inl ⟨by rfl, (by intro w hSw; (try dsimp only at hSw); go_simp)⟩) (by assumption) ?_
 simp only [Act.put, List.setIfInBounds_toArray, List.set_cons_zero, List.set_cons_succ]
 refine wpAnyH_ready (rs := [0, 7]) (by kernel_rfl) (by simp) ?_
 refine (AllReadyH.cons (o := { dst := some 19, op := Op.call { callee := Callee.value (Operand.func 8), args := #[], argTypes := #[] }, type := 35, pos := "law.go:85", after := #[], guard := none }) rfl (fun K hK => ?_) (AllReadyH.cons (o := { dst := some 5, op := Op.alloc 25, type := 0, pos := "law.go:85", after := #[], guard := none }) rfl (fun K hK => ?_) AllReadyH.nil))
 · go_simp
   refine (env_any _).mono ?_
   rintro e wE ⟨ds0, ea, ec, hd, rfl, ho, pE⟩
   have kE : Below v.heap.size v wE := d1.trans (pE.mono d1.size)
   have jE := HC.out kE
   have hrE := ho.rd
   clear ho
   go_simp
   refine hK.out _ _ (jE) (fun _ => ?_)
   clear hK K
   refine wpAnyH_ready (rs := [3, 7]) (by kernel_rfl) (by simp) ?_
   refine (AllReadyH.cons (o := { dst := some 22, op := Op.call { callee := Callee.value (Operand.func 7), args := #[Operand.tmp 19, Operand.const (Value.int IntKind.i32 43), Operand.tmp 20, Operand.tmp 21], argTypes := #[35, 21, 25, 25] }, type := 29, pos := "law.go:85", after := #[{ on := 0, ground := Ground.data }, { on := 1, ground := Ground.data }, { on := 2, ground := Ground.data }, { on := 0, ground := Ground.chain }], guard := none }) rfl (fun K hK => ?_) (AllReadyH.cons (o := { dst := some 5, op := Op.alloc 25, type := 0, pos := "law.go:85", after := #[], guard := none }) rfl (fun K hK => ?_) AllReadyH.nil))
   · go_simp
     have sC : v.heap.size ≤ wE.heap.size := kE.size
     refine (KT.out _ ds0 ea ec hd hrE kE).mono ?_
     rintro e wT ⟨⟨x5, n5, y5, b3, m, d3, rfl, hv⟩, pT⟩
     have kT : Below v.heap.size v wT := kE.trans (pT.mono kE.size)
     have jT := HC.out kT
     have HV : Hid (OutR wE.heap.size wT er U x5 n5 y5 b3 m d3) := hv
     clear hv hrE
     go_simp
     refine hK.out _ _ (jT) (fun _ => ?_)
     clear hK K
     refine wpAnyH_take (i := 4) (oi := { dst := some 18, op := Op.move (Operand.tmp 22), type := 29, pos := "law.go:85", after := #[{ on := 3, ground := Ground.data }], guard := none }) (v := .tuple #[.agg #[.slice x5 n5 y5, .slice b3 m d3], .int .i64 er]) rfl (by kernel_rfl) (by kernel_rfl) (by kernel_rfl) (fun _ _ _ h => hP _ _ _ _ _ h) (Or.inl ⟨by rfl, (by intro w hSw; (try dsimp only at hSw); go_simp)⟩) (by assumption) ?_
     simp only [Act.put, List.setIfInBounds_toArray, List.set_cons_zero, List.set_cons_succ]
     refine wpAnyH_take (i := 5) (oi := { dst := some 23, op := Op.extract (Operand.tmp 18) 0, type := 25, pos := "law.go:85", after := #[{ on := 4, ground := Ground.data }], guard := none }) (v := .agg #[.slice x5 n5 y5, .slice b3 m d3]) rfl (by kernel_rfl) (by kernel_rfl) (by kernel_rfl) (fun _ _ _ h => hP _ _ _ _ _ h) (Or.inl ⟨by rfl, (by intro w hSw; (try dsimp only at hSw); go_simp)⟩) (by assumption) ?_
     simp only [Act.put, List.setIfInBounds_toArray, List.set_cons_zero, List.set_cons_succ]
     refine wpAnyH_take (i := 6) (oi := { dst := some 24, op := Op.extract (Operand.tmp 18) 1, type := 28, pos := "law.go:85", after := #[{ on := 4, ground := Ground.data }, { on := 8, ground := Ground.gcOnly Departure.lateStores }], guard := none }) (v := .int .i64 er) rfl (by kernel_rfl) (by kernel_rfl) (by kernel_rfl) (fun _ _ _ h => hP _ _ _ _ _ h) (Or.inl ⟨by rfl, (by intro w hSw; (try dsimp only at hSw); go_simp)⟩) (by assumption) ?_
     simp only [Act.put, List.setIfInBounds_toArray, List.set_cons_zero, List.set_cons_succ]
     refine wpAnyH_ready (rs := [7]) (by kernel_rfl) (by simp) ?_
     refine (AllReadyH.cons (o := { dst := some 5, op := Op.alloc 25, type := 0, pos := "law.go:85", after := #[], guard := none }) rfl (fun K hK => ?_) AllReadyH.nil)
     go_simp
     have kA : Below v.heap.size v (wT.alloc (.cells #[.slice none 0 0, .slice none 0 0] 25)) := kT.trans ((below_alloc wT (.cells #[.slice none 0 0, .slice none 0 0] 25)).mono kT.size)
     have jA := HC.out kA
     have BA : BoxA (wT.alloc (.cells #[.slice none 0 0, .slice none 0 0] 25)) wT.heap.size 25 #[.slice none 0 0, .slice none 0 0] := boxA_new wT #[.slice none 0 0, .slice none 0 0] 25
     have nA : v.heap.size ≤ wT.heap.size := kT.size
     go_simp
     refine hK.out _ _ (jA) (fun _ => ?_)
     clear hK K
     refine wpAnyH_ready (rs := [8]) (by kernel_rfl) (by simp) ?_
     refine (AllReadyH.cons (o := { dst := none, op := Op.store 25 (Operand.tmp 5) (Operand.tmp 23), type := 0, pos := "law.go:85", after := #[{ on := 7, ground := Ground.data }, { on := 5, ground := Ground.data }, { on := 3, ground := Ground.chain }, { on := 0, ground := Ground.phase }, { on := 1, ground := Ground.phase }, { on := 2, ground := Ground.phase }, { on := 3, ground := Ground.phase }, { on := 4, ground := Ground.phase }, { on := 5, ground := Ground.phase }, { on := 6, ground := Ground.textOnly Departure.lateStores }, { on := 7, ground := Ground.phase }], guard := none }) rfl (fun K hK => ?_) AllReadyH.nil)
     go_simp
     have r0 := BA.cell 0 rfl
     have r1 := BA.cell 1 rfl
     have f0 := BA.frozen 0
     have f1 := BA.frozen 1
     have BS := boxA_new wT #[.slice x5 n5 y5, .slice b3 m d3] 25
     have kS : Below v.heap.size v (wT.alloc (.cells #[.slice x5 n5 y5, .slice b3 m d3] 25)) := kT.trans ((below_alloc wT (.cells #[.slice x5 n5 y5, .slice b3 m d3] 25)).mono kT.size)
     have jS := HC.out kS
     have HVS : Hid (OutR v.heap.size (wT.alloc (.cells #[.slice x5 n5 y5, .slice b3 m d3] 25)) er U x5 n5 y5 b3 m d3) := HV.out.imp sC ((below_alloc wT (.cells #[.slice x5 n5 y5, .slice b3 m d3] 25)).size) (fun q hq => (below_alloc wT (.cells #[.slice x5 n5 y5, .slice b3 m d3] 25)).block q hq.2)
     go_simp
     refine hK.out _ _ (jS) (fun _ => ?_)
     clear hK K
     refine wpAnyH_take (i := 9) (oi := { dst := some 6, op := Op.assign (Operand.tmp 24), type := 28, pos := "law.go:85", after := #[{ on := 6, ground := Ground.data }, { on := 8, ground := Ground.chain }, { on := 0, ground := Ground.phase }, { on := 1, ground := Ground.phase }, { on := 2, ground := Ground.phase }, { on := 3, ground := Ground.phase }, { on := 4, ground := Ground.phase }, { on := 5, ground := Ground.phase }, { on := 6, ground := Ground.phase }, { on := 7, ground := Ground.phase }, { on := 8, ground := Ground.phase }], guard := none }) (v := .int .i64 er) rfl (by kernel_rfl) (by kernel_rfl) (by kernel_rfl) (fun _ _ _ h => hP _ _ _ _ _ h) (Or.inl ⟨by rfl, (by intro w hSw; (try dsimp only at hSw); go_simp)⟩) (by assumption) ?_
     simp only [Act.put, List.setIfInBounds_toArray, List.set_cons_zero, List.set_cons_succ]
     refine wpAnyH_done (by kernel_rfl) ?_ _
     exact hQ _ ds0 ea ec x5 n5 y5 b3 m d3 _ BS nA HVS kS
   · go_simp
     have kA : Below v.heap.size v (wE.alloc (.cells #[.slice none 0 0, .slice none 0 0] 25)) := kE.trans ((below_alloc wE (.cells #[.slice none 0 0, .slice none 0 0] 25)).mono kE.size)
     have jA := HC.out kA
     have BA : BoxA (wE.alloc (.cells #[.slice none 0 0, .slice none 0 0] 25)) wE.heap.size 25 #[.slice none 0 0, .slice none 0 0] := boxA_new wE #[.slice none 0 0, .slice none 0 0] 25
     have nA : v.heap.size ≤ wE.heap.size := kE.size
     replace hrE := (hrE.below (below_alloc wE (.cells #[.slice none 0 0, .slice none 0 0] 25))).mono (below_alloc wE (.cells #[.slice none 0 0, .slice none 0 0] 25)).size
     go_simp
     refine hK.out _ _ (jA) (fun _ => ?_)
     clear hK K
     refine wpAnyH_ready (rs := [3]) (by kernel_rfl) (by simp) ?_
     refine (AllReadyH.cons (o := { dst := some 22, op := Op.call { callee := Callee.value (Operand.func 7), args := #[Operand.tmp 19, Operand.const (Value.int IntKind.i32 43), Operand.tmp 20, Operand.tmp 21], argTypes := #[35, 21, 25, 25] }, type := 29, pos := "law.go:85", after := #[{ on := 0, ground := Ground.data }, { on := 1, ground := Ground.data }, { on := 2, ground := Ground.data }, { on := 0, ground := Ground.chain }], guard := none }) rfl (fun K hK => ?_) AllReadyH.nil)
     go_simp
     have sC : v.heap.size ≤ (wE.alloc (.cells #[.slice none 0 0, .slice none 0 0] 25)).heap.size := kA.size
     have lBA := BA.lt
     refine (KT.out _ ds0 ea ec hd hrE kA).mono ?_
     rintro e wT ⟨⟨x5, n5, y5, b3, m, d3, rfl, hv⟩, pT⟩
     have kT : Below v.heap.size v wT := kA.trans (pT.mono kA.size)
     have jT := HC.out kT
     have HV : Hid (OutR (wE.alloc (.cells #[.slice none 0 0, .slice none 0 0] 25)).heap.size wT er U x5 n5 y5 b3 m d3) := hv
     clear hv hrE
     replace BA := BA.below pT lBA
     go_simp
     refine hK.out _ _ (jT) (fun _ => ?_)
     clear hK K
     refine wpAnyH_take (i := 4) (oi := { dst := some 18, op := Op.move (Operand.tmp 22), type := 29, pos := "law.go:85", after := #[{ on := 3, ground := Ground.data }], guard := none }) (v := .tuple #[.agg #[.slice x5 n5 y5, .slice b3 m d3], .int .i64 er]) rfl (by kernel_rfl) (by kernel_rfl) (by kernel_rfl) (fun _ _ _ h => hP _ _ _ _ _ h) (Or.inl ⟨by rfl, (by intro w hSw; (try dsimp only at hSw); go_simp)⟩) (by assumption) ?_
     simp only [Act.put, List.setIfInBounds_toArray, List.set_cons_zero, List.set_cons_succ]
     refine wpAnyH_take (i := 5) (oi := { dst := some 23, op := Op.extract (Operand.tmp 18) 0, type := 25, pos := "law.go:85", after := #[{ on := 4, ground := Ground.data }], guard := none }) (v := .agg #[.slice x5 n5 y5, .slice b3 m d3]) rfl (by kernel_rfl) (by kernel_rfl) (by kernel_rfl) (fun _ _ _ h => hP _ _ _ _ _ h) (Or.inl ⟨by rfl, (by intro w hSw; (try dsimp only at hSw); go_simp)⟩) (by assumption) ?_
     simp only [Act.put, List.setIfInBounds_toArray, List.set_cons_zero, List.set_cons_succ]
     refine wpAnyH_take (i := 6) (oi := { dst := some 24, op := Op.extract (Operand.tmp 18) 1, type := 28, pos := "law.go:85", after := #[{ on := 4, ground := Ground.data }, { on := 8, ground := Ground.gcOnly Departure.lateStores }], guard := none }) (v := .int .i64 er) rfl (by kernel_rfl) (by kernel_rfl) (by kernel_rfl) (fun _ _ _ h => hP _ _ _ _ _ h) (Or.inl ⟨by rfl, (by intro w hSw; (try dsimp only at hSw); go_simp)⟩) (by assumption) ?_
     simp only [Act.put, List.setIfInBounds_toArray, List.set_cons_zero, List.set_cons_succ]
     refine wpAnyH_ready (rs := [8]) (by kernel_rfl) (by simp) ?_
     refine (AllReadyH.cons (o := { dst := none, op := Op.store 25 (Operand.tmp 5) (Operand.tmp 23), type := 0, pos := "law.go:85", after := #[{ on := 7, ground := Ground.data }, { on := 5, ground := Ground.data }, { on := 3, ground := Ground.chain }, { on := 0, ground := Ground.phase }, { on := 1, ground := Ground.phase }, { on := 2, ground := Ground.phase }, { on := 3, ground := Ground.phase }, { on := 4, ground := Ground.phase }, { on := 5, ground := Ground.phase }, { on := 6, ground := Ground.textOnly Departure.lateStores }, { on := 7, ground := Ground.phase }], guard := none }) rfl (fun K hK => ?_) AllReadyH.nil)
     go_simp
     have r0 := BA.cell 0 rfl
     have r1 := BA.cell 1 rfl
     have f0 := BA.frozen 0
     have f1 := BA.frozen 1
     have BS := boxA_s1 (boxA_s0 BA (.slice x5 n5 y5)) (.slice b3 m d3)
     have kS := Below.set2 kT nA (.slice x5 n5 y5) (.slice b3 m d3)
     have jS := HC.out kS
     have lU : wE.heap.size < wT.heap.size := BA.lt
     have HVS : Hid (OutR v.heap.size ((wT.setCell ⟨wE.heap.size, 0, none⟩ (.slice x5 n5 y5)).setCell ⟨wE.heap.size, 1, none⟩ (.slice b3 m d3)) er U x5 n5 y5 b3 m d3) := HV.out.imp sC (by rw [set1_size, set1_size]; exact Nat.le_refl _) (fun q hq => by rw [set1_other (by show ¬ wE.heap.size = q; have := hq.1; omega), set1_other (by show ¬ wE.heap.size = q; have := hq.1; omega)])
     go_simp
     refine hK.out _ _ (jS) (fun _ => ?_)
     clear hK K
     refine wpAnyH_take (i := 9) (oi := { dst := some 6, op := Op.assign (Operand.tmp 24), type := 28, pos := "law.go:85", after := #[{ on := 6, ground := Ground.data }, { on := 8, ground := Ground.chain }, { on := 0, ground := Ground.phase }, { on := 1, ground := Ground.phase }, { on := 2, ground := Ground.phase }, { on := 3, ground := Ground.phase }, { on := 4, ground := Ground.phase }, { on := 5, ground := Ground.phase }, { on := 6, ground := Ground.phase }, { on := 7, ground := Ground.phase }, { on := 8, ground := Ground.phase }], guard := none }) (v := .int .i64 er) rfl (by kernel_rfl) (by kernel_rfl) (by kernel_rfl) (fun _ _ _ h => hP _ _ _ _ _ h) (Or.inl ⟨by rfl, (by intro w hSw; (try dsimp only at hSw); go_simp)⟩) (by assumption) ?_
     simp only [Act.put, List.setIfInBounds_toArray, List.set_cons_zero, List.set_cons_succ]
     refine wpAnyH_done (by kernel_rfl) ?_ _
     exact hQ _ ds0 ea ec x5 n5 y5 b3 m d3 _ BS nA HVS kS
 · go_simp
   have kA : Below v.heap.size v (v.drew.alloc (.cells #[.slice none 0 0, .slice none 0 0] 25)) := d1.trans ((below_alloc v.drew (.cells #[.slice none 0 0, .slice none 0 0] 25)).mono d1.size)
   have jA := HC.out kA
   have BA : BoxA (v.drew.alloc (.cells #[.slice none 0 0, .slice none 0 0] 25)) v.heap.size 25 #[.slice none 0 0, .slice none 0 0] := boxA_new v.drew #[.slice none 0 0, .slice none 0 0] 25
   have nA : v.heap.size ≤ v.heap.size := d1.size
   go_simp
   refine hK.out _ _ (jA) (fun _ => ?_)
   clear hK K
   refine wpAnyH_ready (rs := [0]) (by kernel_rfl) (by simp) ?_
   refine (AllReadyH.cons (o := { dst := some 19, op := Op.call { callee := Callee.value (Operand.func 8), args := #[], argTypes := #[] }, type := 35, pos := "law.go:85", after := #[], guard := none }) rfl (fun K hK => ?_) AllReadyH.nil)
   go_simp
   refine (env_any _).mono ?_
   rintro e wE ⟨ds0, ea, ec, hd, rfl, ho, pE⟩
   have kE : Below v.heap.size v wE := kA.trans (pE.mono kA.size)
   have jE := HC.out kE
   have hrE := ho.rd
   clear ho
   have lBA := BA.lt
   replace BA := BA.below pE lBA
   clear lBA
   go_simp
   refine hK.out _ _ (jE) (fun _ => ?_)
   clear hK K
   refine wpAnyH_ready (rs := [3]) (by kernel_rfl) (by simp) ?_
   refine (AllReadyH.cons (o := { dst := some 22, op := Op.call { callee := Callee.value (Operand.func 7), args := #[Operand.tmp 19, Operand.const (Value.int IntKind.i32 43), Operand.tmp 20, Operand.tmp 21], argTypes := #[35, 21, 25, 25] }, type := 29, pos := "law.go:85", after := #[{ on := 0, ground := Ground.data }, { on := 1, ground := Ground.data }, { on := 2, ground := Ground.data }, { on := 0, ground := Ground.chain }], guard := none }) rfl (fun K hK => ?_) AllReadyH.nil)
   go_simp
   have sC : v.heap.size ≤ wE.heap.size := kE.size
   have lBA := BA.lt
   refine (KT.out _ ds0 ea ec hd hrE kE).mono ?_
   rintro e wT ⟨⟨x5, n5, y5, b3, m, d3, rfl, hv⟩, pT⟩
   have kT : Below v.heap.size v wT := kE.trans (pT.mono kE.size)
   have jT := HC.out kT
   have HV : Hid (OutR wE.heap.size wT er U x5 n5 y5 b3 m d3) := hv
   clear hv hrE
   replace BA := BA.below pT lBA
   go_simp
   refine hK.out _ _ (jT) (fun _ => ?_)
   clear hK K
   refine wpAnyH_take (i := 4) (oi := { dst := some 18, op := Op.move (Operand.tmp 22), type := 29, pos := "law.go:85", after := #[{ on := 3, ground := Ground.data }], guard := none }) (v := .tuple #[.agg #[.slice x5 n5 y5, .slice b3 m d3], .int .i64 er]) rfl (by kernel_rfl) (by kernel_rfl) (by kernel_rfl) (fun _ _ _ h => hP _ _ _ _ _ h) (Or.inl ⟨by rfl, (by intro w hSw; (try dsimp only at hSw); go_simp)⟩) (by assumption) ?_
   simp only [Act.put, List.setIfInBounds_toArray, List.set_cons_zero, List.set_cons_succ]
   refine wpAnyH_take (i := 5) (oi := { dst := some 23, op := Op.extract (Operand.tmp 18) 0, type := 25, pos := "law.go:85", after := #[{ on := 4, ground := Ground.data }], guard := none }) (v := .agg #[.slice x5 n5 y5, .slice b3 m d3]) rfl (by kernel_rfl) (by kernel_rfl) (by kernel_rfl) (fun _ _ _ h => hP _ _ _ _ _ h) (Or.inl ⟨by rfl, (by intro w hSw; (try dsimp only at hSw); go_simp)⟩) (by assumption) ?_
   simp only [Act.put, List.setIfInBounds_toArray, List.set_cons_zero, List.set_cons_succ]
   refine wpAnyH_take (i := 6) (oi := { dst := some 24, op := Op.extract (Operand.tmp 18) 1, type := 28, pos := "law.go:85", after := #[{ on := 4, ground := Ground.data }, { on := 8, ground := Ground.gcOnly Departure.lateStores }], guard := none }) (v := .int .i64 er) rfl (by kernel_rfl) (by kernel_rfl) (by kernel_rfl) (fun _ _ _ h => hP _ _ _ _ _ h) (Or.inl ⟨by rfl, (by intro w hSw; (try dsimp only at hSw); go_simp)⟩) (by assumption) ?_
   simp only [Act.put, List.setIfInBounds_toArray, List.set_cons_zero, List.set_cons_succ]
   refine wpAnyH_ready (rs := [8]) (by kernel_rfl) (by simp) ?_
   refine (AllReadyH.cons (o := { dst := none, op := Op.store 25 (Operand.tmp 5) (Operand.tmp 23), type := 0, pos := "law.go:85", after := #[{ on := 7, ground := Ground.data }, { on := 5, ground := Ground.data }, { on := 3, ground := Ground.chain }, { on := 0, ground := Ground.phase }, { on := 1, ground := Ground.phase }, { on := 2, ground := Ground.phase }, { on := 3, ground := Ground.phase }, { on := 4, ground := Ground.phase }, { on := 5, ground := Ground.phase }, { on := 6, ground := Ground.textOnly Departure.lateStores }, { on := 7, ground := Ground.phase }], guard := none }) rfl (fun K hK => ?_) AllReadyH.nil)
   go_simp
   have r0 := BA.cell 0 rfl
   have r1 := BA.cell 1 rfl
   have f0 := BA.frozen 0
   have f1 := BA.frozen 1
   have BS := boxA_s1 (boxA_s0 BA (.slice x5 n5 y5)) (.slice b3 m d3)
   have kS := Below.set2 kT nA (.slice x5 n5 y5) (.slice b3 m d3)
   have jS := HC.out kS
   have lU : v.heap.size < wT.heap.size := BA.lt
   have HVS : Hid (OutR v.heap.size ((wT.setCell ⟨v.heap.size, 0, none⟩ (.slice x5 n5 y5)).setCell ⟨v.heap.size, 1, none⟩ (.slice b3 m d3)) er U x5 n5 y5 b3 m d3) := HV.out.imp sC (by rw [set1_size, set1_size]; exact Nat.le_refl _) (fun q hq => by rw [set1_other (by show ¬ v.heap.size = q; have := hq.1; omega), set1_other (by show ¬ v.heap.size = q; have := hq.1; omega)])
   go_simp
   refine hK.out _ _ (jS) (fun _ => ?_)
   clear hK K
   refine wpAnyH_take (i := 9) (oi := { dst := some 6, op := Op.assign (Operand.tmp 24), type := 28, pos := "law.go:85", after := #[{ on := 6, ground := Ground.data }, { on := 8, ground := Ground.chain }, { on := 0, ground := Ground.phase }, { on := 1, ground := Ground.phase }, { on := 2, ground := Ground.phase }, { on := 3, ground := Ground.phase }, { on := 4, ground := Ground.phase }, { on := 5, ground := Ground.phase }, { on := 6, ground := Ground.phase }, { on := 7, ground := Ground.phase }, { on := 8, ground := Ground.phase }], guard := none }) (v := .int .i64 er) rfl (by kernel_rfl) (by kernel_rfl) (by kernel_rfl) (fun _ _ _ h => hP _ _ _ _ _ h) (Or.inl ⟨by rfl, (by intro w hSw; (try dsimp only at hSw); go_simp)⟩) (by assumption) ?_
   simp only [Act.put, List.setIfInBounds_toArray, List.set_cons_zero, List.set_cons_succ]
   refine wpAnyH_done (by kernel_rfl) ?_ _
   exact hQ _ ds0 ea ec x5 n5 y5 b3 m d3 _ BS nA HVS kS
end
section
variable {v : World} {x1 x2 : Option Addr} {n1 y1 n2 y2 kk : Nat} {U : Tr} {er : Int}
set_option maxRecDepth 100000 in
set_option maxHeartbeats 16000000 in
theorem zero_5 {Q : Exit → Act → World → Prop} {t0 t2 t3 t4 t5 t6 t7 t8 t9 t10 t11 t12 t13 t14 t15 t16 t17 t18 t19 t20 t21 t22 t23 t24 t25 t26 t27 t28 t29 t30 t31 t32 t33 t34 t35 t36 t37 t38 t39 t40 t41 t42 t43 t44 t45 t46 t47 t48 t49 : Value} (HC : Hid (∀ {w' : World}, Below v.heap.size v w' → w'.cell? ⟨kk, 0, none⟩ = some (.slice x1 n1 y1) ∧ w'.cell? ⟨kk, 1, none⟩ = some (.slice x2 n2 y2)))
    (KT : Hid (∀ u (ds0 : List Int) ea ec ki, Hid (ds0 = [(1 : Int)]) → Rd u.heap.size u (.slice ea ds0.length ec) ds0 → ArV 1 (Fr v.heap.size u.heap.size) u (.slice none 0 0) (.slice (some ⟨ki, 0, none⟩) 1 1) (arrT [] [wholeT 0]) → Below v.heap.size v u → Calls Tryz.prog 7 #[.agg #[.int .i64 1, .bool false, .slice none 0 0, .slice ea ds0.length ec, .int .i64 0], .int .i32 215, .agg #[.slice x1 n1 y1, .slice x2 n2 y2], .agg #[.slice none 0 0, .slice (some ⟨ki, 0, none⟩) 1 1]] u fun e w' => (∃ x5 n5 y5 b3 m d3, e = .returned (.tuple #[.agg #[.slice x5 n5 y5, .slice b3 m d3], .int .i64 er]) ∧ OutR u.heap.size w' er U x5 n5 y5 b3 m d3) ∧ Below u.heap.size u w'))
    (hQ : ∀ A (ds0 : List Int) ea ec ki x5 n5 y5 b3 m d3 w', BoxA w' A 25 #[.slice x5 n5 y5, .slice b3 m d3] → v.heap.size ≤ A → Hid (OutR v.heap.size w' er U x5 n5 y5 b3 m d3) → Below v.heap.size v w' → Q .normal { tmps := #[t0, .pointer (some ⟨kk, 0, none⟩), t2, t3, t4, t5, t6, .pointer (some ⟨A, 0, none⟩), .int .i64 er, t9, t10, t11, t12, t13, t14, t15, t16, t17, t18, t19, t20, t21, t22, t23, t24, .tuple #[.agg #[.slice x5 n5 y5, .slice b3 m d3], .int .i64 er], .agg #[.int .i64 1, .bool false, .slice none 0 0, .slice ea ds0.length ec, .int .i64 0], .agg #[.slice x1 n1 y1, .slice x2 n2 y2], .agg #[.slice none 0 0, .slice (some ⟨ki, 0, none⟩) 1 1], .tuple #[.agg #[.slice x5 n5 y5, .slice b3 m d3], .int .i64 er], .agg #[.slice x5 n5 y5, .slice b3 m d3], .int .i64 er, t32, t33, t34, t35, t36, t37, t38, t39, t40, t41, t42, t43, t44, t45, t46, t47, t48, t49], defers := [] } w') (hP : ∀ c a d x w, Q (.panic c) (Act.put a d x) w → Q (.panic c) a w) :
    (Code.region 5 #[{ dst := some 26, op := Op.call { callee := Callee.value (Operand.func 8), args := #[], argTypes := #[] }, type := 35, pos := "law.go:86", after := #[], guard := none }, { dst := some 27, op := Op.load 25 (Operand.tmp 1), type := 25, pos := "law.go:86", after := #[], guard := none }, { dst := some 28, op := Op.call { callee := Callee.value (Operand.func 12), args := #[Operand.const (Value.int IntKind.i64 0)], argTypes := #[3] }, type := 25, pos := "law.go:86", after := #[{ on := 0, ground := Ground.chain }], guard := none }, { dst := some 29, op := Op.call { callee := Callee.value (Operand.func 7), args := #[Operand.tmp 26, Operand.const (Value.int IntKind.i32 215), Operand.tmp 27, Operand.tmp 28], argTypes := #[35, 21, 25, 25] }, type := 29, pos := "law.go:86", after := #[{ on := 0, ground := Ground.data }, { on := 1, ground := Ground.data }, { on := 2, ground := Ground.data }, { on := 2, ground := Ground.chain }], guard := none }, { dst := some 25, op := Op.move (Operand.tmp 29), type := 29, pos := "law.go:86", after := #[{ on := 3, ground := Ground.data }], guard := none }, { dst := some 30, op := Op.extract (Operand.tmp 25) 0, type := 25, pos := "law.go:86", after := #[{ on := 4, ground := Ground.data }], guard := none }, { dst := some 31, op := Op.extract (Operand.tmp 25) 1, type := 28, pos := "law.go:86", after := #[{ on := 4, ground := Ground.data }, { on := 8, ground := Ground.gcOnly Departure.lateStores }], guard := none }, { dst := some 7, op := Op.alloc 25, type := 0, pos := "law.go:86", after := #[], guard := none }, { dst := none, op := Op.store 25 (Operand.tmp 7) (Operand.tmp 30), type := 0, pos := "law.go:86", after := #[{ on := 7, ground := Ground.data }, { on := 5, ground := Ground.data }, { on := 3, ground := Ground.chain }, { on := 0, ground := Ground.phase }, { on := 1, ground := Ground.phase }, { on := 2, ground := Ground.phase }, { on := 3, ground := Ground.phase }, { on := 4, ground := Ground.phase }, { on := 5, ground := Ground.phase }, { on := 6, ground := Ground.textOnly Departure.lateStores }, { on := 7, ground := Ground.phase }], guard := none }, { dst := some 8, op := Op.assign (Operand.tmp 31), type := 28, pos := "law.go:86", after := #[{ on := 6, ground := Ground.data }, { on := 8, ground := Ground.chain }, { on := 0, ground := Ground.phase }, { on := 1, ground := Ground.phase }, { on := 2, ground := Ground.phase }, { on := 3, ground := Ground.phase }, { on := 4, ground := Ground.phase }, { on := 5, ground := Ground.phase }, { on := 6, ground := Ground.phase }, { on := 7, ground := Ground.phase }, { on := 8, ground := Ground.phase }], guard := none }] true).wp Tryz.prog Q { tmps := #[t0, .pointer (some ⟨kk, 0, none⟩), t2, t3, t4, t5, t6, t7, t8, t9, t10, t11, t12, t13, t14, t15, t16, t17, t18, t19, t20, t21, t22, t23, t24, t25, t26, t27, t28, t29, t30, t31, t32, t33, t34, t35, t36, t37, t38, t39, t40, t41, t42, t43, t44, t45, t46, t47, t48, t49], defers := [] } v := by
 have d1 : Below v.heap.size v v.drew := ⟨rfl, rfl, rfl, Nat.le_refl _, fun _ _ => rfl⟩
 have j0 := HC.out d1
 refine wp_region_held_drew (S := (fun w' => w'.cell? ⟨kk, 0, none⟩ = some (.slice x1 n1 y1) ∧ w'.cell? ⟨kk, 1, none⟩ = some (.slice x2 n2 y2))) (by kernel_rfl) j0 (fun hS => ?_)
 refine wpAnyH_take (i := 1) (oi := { dst := some 27, op := Op.load 25 (Operand.tmp 1), type := 25, pos := "law.go:86", after := #[], guard := none }) (v := .agg #[.slice x1 n1 y1, .slice x2 n2 y2]) rfl (by kernel_rfl) (by kernel_rfl) (by kernel_rfl) (fun _ _ _ h => hP _ _ _ _ _ h) (Or.inl ⟨by rfl, (by intro w hSw; (try dsimp only at hSw); go_simp)⟩) (by assumption) ?_
 simp only [Act.put, List.setIfInBounds_toArray, List.set_cons_zero, List.set_cons_succ]
 refine wpAnyH_ready (rs := [0, 7]) (by kernel_rfl) (by simp) ?_
 refine (AllReadyH.cons (o := { dst := some 26, op := Op.call { callee := Callee.value (Operand.func 8), args := #[], argTypes := #[] }, type := 35, pos := "law.go:86", after := #[], guard := none }) rfl (fun K hK => ?_) (AllReadyH.cons (o := { dst := some 7, op := Op.alloc 25, type := 0, pos := "law.go:86", after := #[], guard := none }) rfl (fun K hK => ?_) AllReadyH.nil))
 · go_simp
   refine (env_any _).mono ?_
   rintro e wE ⟨ds0, ea, ec, hd, rfl, ho, pE⟩
   have kE : Below v.heap.size v wE := d1.trans (pE.mono d1.size)
   have jE := HC.out kE
   have hrE := ho.rd
   clear ho
   go_simp
   refine hK.out _ _ (jE) (fun _ => ?_)
   clear hK K
   refine wpAnyH_ready (rs := [2, 7]) (by kernel_rfl) (by simp) ?_
   refine (AllReadyH.cons (o := { dst := some 28, op := Op.call { callee := Callee.value (Operand.func 12), args := #[Operand.const (Value.int IntKind.i64 0)], argTypes := #[3] }, type := 25, pos := "law.go:86", after := #[{ on := 0, ground := Ground.chain }], guard := none }) rfl (fun K hK => ?_) (AllReadyH.cons (o := { dst := some 7, op := Op.alloc 25, type := 0, pos := "law.go:86", after := #[], guard := none }) rfl (fun K hK => ?_) AllReadyH.nil))
   · go_simp
     refine (int_lit 0 (by omega) (by omega) _).mono ?_
     rintro e wI ⟨ki, rfl, hi, pI⟩
     have kI : Below v.heap.size v wI := kE.trans (pI.mono kE.size)
     have jI := HC.out kI
     have HI : Hid (ArV 1 (Fr v.heap.size wI.heap.size) wI (.slice none 0 0) (.slice (some ⟨ki, 0, none⟩) 1 1) (arrT [] [wholeT 0])) := hi.mono (fun q hq => ⟨Nat.le_trans kE.size hq.1, hq.2⟩)
     clear hi
     replace hrE := (hrE.below pI).mono pI.size
     go_simp
     refine hK.out _ _ (jI) (fun _ => ?_)
     clear hK K
     refine wpAnyH_ready (rs := [3, 7]) (by kernel_rfl) (by simp) ?_
     refine (AllReadyH.cons (o := { dst := some 29, op := Op.call { callee := Callee.value (Operand.func 7), args := #[Operand.tmp 26, Operand.const (Value.int IntKind.i32 215), Operand.tmp 27, Operand.tmp 28], argTypes := #[35, 21, 25, 25] }, type := 29, pos := "law.go:86", after := #[{ on := 0, ground := Ground.data }, { on := 1, ground := Ground.data }, { on := 2, ground := Ground.data }, { on := 2, ground := Ground.chain }], guard := none }) rfl (fun K hK => ?_) (AllReadyH.cons (o := { dst := some 7, op := Op.alloc 25, type := 0, pos := "law.go:86", after := #[], guard := none }) rfl (fun K hK => ?_) AllReadyH.nil))
     · go_simp
       have sC : v.heap.size ≤ wI.heap.size := kI.size
       refine (KT.out _ ds0 ea ec ki hd hrE HI.out kI).mono ?_
       rintro e wT ⟨⟨x5, n5, y5, b3, m, d3, rfl, hv⟩, pT⟩
       have kT : Below v.heap.size v wT := kI.trans (pT.mono kI.size)
       have jT := HC.out kT
       have HV : Hid (OutR wI.heap.size wT er U x5 n5 y5 b3 m d3) := hv
       clear hv hrE
       go_simp
       refine hK.out _ _ (jT) (fun _ => ?_)
       clear hK K
       refine wpAnyH_take (i := 4) (oi := { dst := some 25, op := Op.move (Operand.tmp 29), type := 29, pos := "law.go:86", after := #[{ on := 3, ground := Ground.data }], guard := none }) (v := .tuple #[.agg #[.slice x5 n5 y5, .slice b3 m d3], .int .i64 er]) rfl (by kernel_rfl) (by kernel_rfl) (by kernel_rfl) (fun _ _ _ h => hP _ _ _ _ _ h) (Or.inl ⟨by rfl, (by intro w hSw; (try dsimp only at hSw); go_simp)⟩) (by assumption) ?_
       simp only [Act.put, List.setIfInBounds_toArray, List.set_cons_zero, List.set_cons_succ]
       refine wpAnyH_take (i := 5) (oi := { dst := some 30, op := Op.extract (Operand.tmp 25) 0, type := 25, pos := "law.go:86", after := #[{ on := 4, ground := Ground.data }], guard := none }) (v := .agg #[.slice x5 n5 y5, .slice b3 m d3]) rfl (by kernel_rfl) (by kernel_rfl) (by kernel_rfl) (fun _ _ _ h => hP _ _ _ _ _ h) (Or.inl ⟨by rfl, (by intro w hSw; (try dsimp only at hSw); go_simp)⟩) (by assumption) ?_
       simp only [Act.put, List.setIfInBounds_toArray, List.set_cons_zero, List.set_cons_succ]
       refine wpAnyH_take (i := 6) (oi := { dst := some 31, op := Op.extract (Operand.tmp 25) 1, type := 28, pos := "law.go:86", after := #[{ on := 4, ground := Ground.data }, { on := 8, ground := Ground.gcOnly Departure.lateStores }], guard := none }) (v := .int .i64 er) rfl (by kernel_rfl) (by kernel_rfl) (by kernel_rfl) (fun _ _ _ h => hP _ _ _ _ _ h) (Or.inl ⟨by rfl, (by intro w hSw; (try dsimp only at hSw); go_simp)⟩) (by assumption) ?_
       simp only [Act.put, List.setIfInBounds_toArray, List.set_cons_zero, List.set_cons_succ]
       refine wpAnyH_ready (rs := [7]) (by kernel_rfl) (by simp) ?_
       refine (AllReadyH.cons (o := { dst := some 7, op := Op.alloc 25, type := 0, pos := "law.go:86", after := #[], guard := none }) rfl (fun K hK => ?_) AllReadyH.nil)
       go_simp
       have kA : Below v.heap.size v (wT.alloc (.cells #[.slice none 0 0, .slice none 0 0] 25)) := kT.trans ((below_alloc wT (.cells #[.slice none 0 0, .slice none 0 0] 25)).mono kT.size)
       have jA := HC.out kA
       have BA : BoxA (wT.alloc (.cells #[.slice none 0 0, .slice none 0 0] 25)) wT.heap.size 25 #[.slice none 0 0, .slice none 0 0] := boxA_new wT #[.slice none 0 0, .slice none 0 0] 25
       have nA : v.heap.size ≤ wT.heap.size := kT.size
       go_simp
       refine hK.out _ _ (jA) (fun _ => ?_)
       clear hK K
       refine wpAnyH_ready (rs := [8]) (by kernel_rfl) (by simp) ?_
       refine (AllReadyH.cons (o := { dst := none, op := Op.store 25 (Operand.tmp 7) (Operand.tmp 30), type := 0, pos := "law.go:86", after := #[{ on := 7, ground := Ground.data }, { on := 5, ground := Ground.data }, { on := 3, ground := Ground.chain }, { on := 0, ground := Ground.phase }, { on := 1, ground := Ground.phase }, { on := 2, ground := Ground.phase }, { on := 3, ground := Ground.phase }, { on := 4, ground := Ground.phase }, { on := 5, ground := Ground.phase }, { on := 6, ground := Ground.textOnly Departure.lateStores }, { on := 7, ground := Ground.phase }], guard := none }) rfl (fun K hK => ?_) AllReadyH.nil)
       go_simp
       have r0 := BA.cell 0 rfl
       have r1 := BA.cell 1 rfl
       have f0 := BA.frozen 0
       have f1 := BA.frozen 1
       have BS := boxA_new wT #[.slice x5 n5 y5, .slice b3 m d3] 25
       have kS : Below v.heap.size v (wT.alloc (.cells #[.slice x5 n5 y5, .slice b3 m d3] 25)) := kT.trans ((below_alloc wT (.cells #[.slice x5 n5 y5, .slice b3 m d3] 25)).mono kT.size)
       have jS := HC.out kS
       have HVS : Hid (OutR v.heap.size (wT.alloc (.cells #[.slice x5 n5 y5, .slice b3 m d3] 25)) er U x5 n5 y5 b3 m d3) := HV.out.imp sC ((below_alloc wT (.cells #[.slice x5 n5 y5, .slice b3 m d3] 25)).size) (fun q hq => (below_alloc wT (.cells #[.slice x5 n5 y5, .slice b3 m d3] 25)).block q hq.2)
       go_simp
       refine hK.out _ _ (jS) (fun _ => ?_)
       clear hK K
       refine wpAnyH_take (i := 9) (oi := { dst := some 8, op := Op.assign (Operand.tmp 31), type := 28, pos := "law.go:86", after := #[{ on := 6, ground := Ground.data }, { on := 8, ground := Ground.chain }, { on := 0, ground := Ground.phase }, { on := 1, ground := Ground.phase }, { on := 2, ground := Ground.phase }, { on := 3, ground := Ground.phase }, { on := 4, ground := Ground.phase }, { on := 5, ground := Ground.phase }, { on := 6, ground := Ground.phase }, { on := 7, ground := Ground.phase }, { on := 8, ground := Ground.phase }], guard := none }) (v := .int .i64 er) rfl (by kernel_rfl) (by kernel_rfl) (by kernel_rfl) (fun _ _ _ h => hP _ _ _ _ _ h) (Or.inl ⟨by rfl, (by intro w hSw; (try dsimp only at hSw); go_simp)⟩) (by assumption) ?_
       simp only [Act.put, List.setIfInBounds_toArray, List.set_cons_zero, List.set_cons_succ]
       refine wpAnyH_done (by kernel_rfl) ?_ _
       exact hQ _ ds0 ea ec ki x5 n5 y5 b3 m d3 _ BS nA HVS kS
     · go_simp
       have kA : Below v.heap.size v (wI.alloc (.cells #[.slice none 0 0, .slice none 0 0] 25)) := kI.trans ((below_alloc wI (.cells #[.slice none 0 0, .slice none 0 0] 25)).mono kI.size)
       have jA := HC.out kA
       have BA : BoxA (wI.alloc (.cells #[.slice none 0 0, .slice none 0 0] 25)) wI.heap.size 25 #[.slice none 0 0, .slice none 0 0] := boxA_new wI #[.slice none 0 0, .slice none 0 0] 25
       have nA : v.heap.size ≤ wI.heap.size := kI.size
       have HI : Hid (ArV 1 (Fr v.heap.size (wI.alloc (.cells #[.slice none 0 0, .slice none 0 0] 25)).heap.size) (wI.alloc (.cells #[.slice none 0 0, .slice none 0 0] 25)) (.slice none 0 0) (.slice (some ⟨ki, 0, none⟩) 1 1) (arrT [] [wholeT 0])) := (HI.out.agree (Agree.of (below_alloc wI (.cells #[.slice none 0 0, .slice none 0 0] 25)) (fun q hq => hq.2))).mono (fun q hq => ⟨hq.1, Nat.lt_of_lt_of_le hq.2 (below_alloc wI (.cells #[.slice none 0 0, .slice none 0 0] 25)).size⟩)
       replace hrE := (hrE.below (below_alloc wI (.cells #[.slice none 0 0, .slice none 0 0] 25))).mono (below_alloc wI (.cells #[.slice none 0 0, .slice none 0 0] 25)).size
       go_simp
       refine hK.out _ _ (jA) (fun _ => ?_)
       clear hK K
       refine wpAnyH_ready (rs := [3]) (by kernel_rfl) (by simp) ?_
       refine (AllReadyH.cons (o := { dst := some 29, op := Op.call { callee := Callee.value (Operand.func 7), args := #[Operand.tmp 26, Operand.const (Value.int IntKind.i32 215), Operand.tmp 27, Operand.tmp 28], argTypes := #[35, 21, 25, 25] }, type := 29, pos := "law.go:86", after := #[{ on := 0, ground := Ground.data }, { on := 1, ground := Ground.data }, { on := 2, ground := Ground.data }, { on := 2, ground := Ground.chain }], guard := none }) rfl (fun K hK => ?_) AllReadyH.nil)
       go_simp
       have sC : v.heap.size ≤ (wI.alloc (.cells #[.slice none 0 0, .slice none 0 0] 25)).heap.size := kA.size
       have lBA := BA.lt
       refine (KT.out _ ds0 ea ec ki hd hrE HI.out kA).mono ?_
       rintro e wT ⟨⟨x5, n5, y5, b3, m, d3, rfl, hv⟩, pT⟩
       have kT : Below v.heap.size v wT := kA.trans (pT.mono kA.size)
       have jT := HC.out kT
       have HV : Hid (OutR (wI.alloc (.cells #[.slice none 0 0, .slice none 0 0] 25)).heap.size wT er U x5 n5 y5 b3 m d3) := hv
       clear hv hrE
       replace BA := BA.below pT lBA
       go_simp
       refine hK.out _ _ (jT) (fun _ => ?_)
       clear hK K
       refine wpAnyH_take (i := 4) (oi := { dst := some 25, op := Op.move (Operand.tmp 29), type := 29, pos := "law.go:86", after := #[{ on := 3, ground := Ground.data }], guard := none }) (v := .tuple #[.agg #[.slice x5 n5 y5, .slice b3 m d3], .int .i64 er]) rfl (by kernel_rfl) (by kernel_rfl) (by kernel_rfl) (fun _ _ _ h => hP _ _ _ _ _ h) (Or.inl ⟨by rfl, (by intro w hSw; (try dsimp only at hSw); go_simp)⟩) (by assumption) ?_
       simp only [Act.put, List.setIfInBounds_toArray, List.set_cons_zero, List.set_cons_succ]
       refine wpAnyH_take (i := 5) (oi := { dst := some 30, op := Op.extract (Operand.tmp 25) 0, type := 25, pos := "law.go:86", after := #[{ on := 4, ground := Ground.data }], guard := none }) (v := .agg #[.slice x5 n5 y5, .slice b3 m d3]) rfl (by kernel_rfl) (by kernel_rfl) (by kernel_rfl) (fun _ _ _ h => hP _ _ _ _ _ h) (Or.inl ⟨by rfl, (by intro w hSw; (try dsimp only at hSw); go_simp)⟩) (by assumption) ?_
       simp only [Act.put, List.setIfInBounds_toArray, List.set_cons_zero, List.set_cons_succ]
       refine wpAnyH_take (i := 6) (oi := { dst := some 31, op := Op.extract (Operand.tmp 25) 1, type := 28, pos := "law.go:86", after := #[{ on := 4, ground := Ground.data }, { on := 8, ground := Ground.gcOnly Departure.lateStores }], guard := none }) (v := .int .i64 er) rfl (by kernel_rfl) (by kernel_rfl) (by kernel_rfl) (fun _ _ _ h => hP _ _ _ _ _ h) (Or.inl ⟨by rfl, (by intro w hSw; (try dsimp only at hSw); go_simp)⟩) (by assumption) ?_
       simp only [Act.put, List.setIfInBounds_toArray, List.set_cons_zero, List.set_cons_succ]
       refine wpAnyH_ready (rs := [8]) (by kernel_rfl) (by simp) ?_
       refine (AllReadyH.cons (o := { dst := none, op := Op.store 25 (Operand.tmp 7) (Operand.tmp 30), type := 0, pos := "law.go:86", after := #[{ on := 7, ground := Ground.data }, { on := 5, ground := Ground.data }, { on := 3, ground := Ground.chain }, { on := 0, ground := Ground.phase }, { on := 1, ground := Ground.phase }, { on := 2, ground := Ground.phase }, { on := 3, ground := Ground.phase }, { on := 4, ground := Ground.phase }, { on := 5, ground := Ground.phase }, { on := 6, ground := Ground.textOnly Departure.lateStores }, { on := 7, ground := Ground.phase }], guard := none }) rfl (fun K hK => ?_) AllReadyH.nil)
       go_simp
       have r0 := BA.cell 0 rfl
       have r1 := BA.cell 1 rfl
       have f0 := BA.frozen 0
       have f1 := BA.frozen 1
       have BS := boxA_s1 (boxA_s0 BA (.slice x5 n5 y5)) (.slice b3 m d3)
       have kS := Below.set2 kT nA (.slice x5 n5 y5) (.slice b3 m d3)
       have jS := HC.out kS
       have lU : wI.heap.size < wT.heap.size := BA.lt
       have HVS : Hid (OutR v.heap.size ((wT.setCell ⟨wI.heap.size, 0, none⟩ (.slice x5 n5 y5)).setCell ⟨wI.heap.size, 1, none⟩ (.slice b3 m d3)) er U x5 n5 y5 b3 m d3) := HV.out.imp sC (by rw [set1_size, set1_size]; exact Nat.le_refl _) (fun q hq => by rw [set1_other (by show ¬ wI.heap.size = q; have := hq.1; omega), set1_other (by show ¬ wI.heap.size = q; have := hq.1; omega)])
       go_simp
       refine hK.out _ _ (jS) (fun _ => ?_)
       clear hK K
       refine wpAnyH_take (i := 9) (oi := { dst := some 8, op := Op.assign (Operand.tmp 31), type := 28, pos := "law.go:86", after := #[{ on := 6, ground := Ground.data }, { on := 8, ground := Ground.chain }, { on := 0, ground := Ground.phase }, { on := 1, ground := Ground.phase }, { on := 2, ground := Ground.phase }, { on := 3, ground := Ground.phase }, { on := 4, ground := Ground.phase }, { on := 5, ground := Ground.phase }, { on := 6, ground := Ground.phase }, { on := 7, ground := Ground.phase }, { on := 8, ground := Ground.phase }], guard := none }) (v := .int .i64 er) rfl (by kernel_rfl) (by kernel_rfl) (by kernel_rfl) (fun _ _ _ h => hP _ _ _ _ _ h) (Or.inl ⟨by rfl, (by intro w hSw; (try dsimp only at hSw); go_simp)⟩) (by assumption) ?_
       simp only [Act.put, List.setIfInBounds_toArray, List.set_cons_zero, List.set_cons_succ]
       refine wpAnyH_done (by kernel_rfl) ?_ _
       exact hQ _ ds0 ea ec ki x5 n5 y5 b3 m d3 _ BS nA HVS kS
   · go_simp
     have kA : Below v.heap.size v (wE.alloc (.cells #[.slice none 0 0, .slice none 0 0] 25)) := kE.trans ((below_alloc wE (.cells #[.slice none 0 0, .slice none 0 0] 25)).mono kE.size)
     have jA := HC.out kA
     have BA : BoxA (wE.alloc (.cells #[.slice none 0 0, .slice none 0 0] 25)) wE.heap.size 25 #[.slice none 0 0, .slice none 0 0] := boxA_new wE #[.slice none 0 0, .slice none 0 0] 25
     have nA : v.heap.size ≤ wE.heap.size := kE.size
     replace hrE := (hrE.below (below_alloc wE (.cells #[.slice none 0 0, .slice none 0 0] 25))).mono (below_alloc wE (.cells #[.slice none 0 0, .slice none 0 0] 25)).size
     go_simp
     refine hK.out _ _ (jA) (fun _ => ?_)
     clear hK K
     refine wpAnyH_ready (rs := [2]) (by kernel_rfl) (by simp) ?_
     refine (AllReadyH.cons (o := { dst := some 28, op := Op.call { callee := Callee.value (Operand.func 12), args := #[Operand.const (Value.int IntKind.i64 0)], argTypes := #[3] }, type := 25, pos := "law.go:86", after := #[{ on := 0, ground := Ground.chain }], guard := none }) rfl (fun K hK => ?_) AllReadyH.nil)
     go_simp
     have lBA := BA.lt
     refine (int_lit 0 (by omega) (by omega) _).mono ?_
     rintro e wI ⟨ki, rfl, hi, pI⟩
     have kI : Below v.heap.size v wI := kA.trans (pI.mono kA.size)
     have jI := HC.out kI
     have HI : Hid (ArV 1 (Fr v.heap.size wI.heap.size) wI (.slice none 0 0) (.slice (some ⟨ki, 0, none⟩) 1 1) (arrT [] [wholeT 0])) := hi.mono (fun q hq => ⟨Nat.le_trans kA.size hq.1, hq.2⟩)
     clear hi
     replace hrE := (hrE.below pI).mono pI.size
     replace BA := BA.below pI lBA
     clear lBA
     go_simp
     refine hK.out _ _ (jI) (fun _ => ?_)
     clear hK K
     refine wpAnyH_ready (rs := [3]) (by kernel_rfl) (by simp) ?_
     refine (AllReadyH.cons (o := { dst := some 29, op := Op.call { callee := Callee.value (Operand.func 7), args := #[Operand.tmp 26, Operand.const (Value.int IntKind.i32 215), Operand.tmp 27, Operand.tmp 28], argTypes := #[35, 21, 25, 25] }, type := 29, pos := "law.go:86", after := #[{ on := 0, ground := Ground.data }, { on := 1, ground := Ground.data }, { on := 2, ground := Ground.data }, { on := 2, ground := Ground.chain }], guard := none }) rfl (fun K hK => ?_) AllReadyH.nil)
     go_simp
     have sC : v.heap.size ≤ wI.heap.size := kI.size
     have lBA := BA.lt
     refine (KT.out _ ds0 ea ec ki hd hrE HI.out kI).mono ?_
     rintro e wT ⟨⟨x5, n5, y5, b3, m, d3, rfl, hv⟩, pT⟩
     have kT : Below v.heap.size v wT := kI.trans (pT.mono kI.size)
     have jT := HC.out kT
     have HV : Hid (OutR wI.heap.size wT er U x5 n5 y5 b3 m d3) := hv
     clear hv hrE
     replace BA := BA.below pT lBA
     go_simp
     refine hK.out _ _ (jT) (fun _ => ?_)
     clear hK K
     refine wpAnyH_take (i := 4) (oi := { dst := some 25, op := Op.move (Operand.tmp 29), type := 29, pos := "law.go:86", after := #[{ on := 3, ground := Ground.data }], guard := none }) (v := .tuple #[.agg #[.slice x5 n5 y5, .slice b3 m d3], .int .i64 er]) rfl (by kernel_rfl) (by kernel_rfl) (by kernel_rfl) (fun _ _ _ h => hP _ _ _ _ _ h) (Or.inl ⟨by rfl, (by intro w hSw; (try dsimp only at hSw); go_simp)⟩) (by assumption) ?_
     simp only [Act.put, List.setIfInBounds_toArray, List.set_cons_zero, List.set_cons_succ]
     refine wpAnyH_take (i := 5) (oi := { dst := some 30, op := Op.extract (Operand.tmp 25) 0, type := 25, pos := "law.go:86", after := #[{ on := 4, ground := Ground.data }], guard := none }) (v := .agg #[.slice x5 n5 y5, .slice b3 m d3]) rfl (by kernel_rfl) (by kernel_rfl) (by kernel_rfl) (fun _ _ _ h => hP _ _ _ _ _ h) (Or.inl ⟨by rfl, (by intro w hSw; (try dsimp only at hSw); go_simp)⟩) (by assumption) ?_
     simp only [Act.put, List.setIfInBounds_toArray, List.set_cons_zero, List.set_cons_succ]
     refine wpAnyH_take (i := 6) (oi := { dst := some 31, op := Op.extract (Operand.tmp 25) 1, type := 28, pos := "law.go:86", after := #[{ on := 4, ground := Ground.data }, { on := 8, ground := Ground.gcOnly Departure.lateStores }], guard := none }) (v := .int .i64 er) rfl (by kernel_rfl) (by kernel_rfl) (by kernel_rfl) (fun _ _ _ h => hP _ _ _ _ _ h) (Or.inl ⟨by rfl, (by intro w hSw; (try dsimp only at hSw); go_simp)⟩) (by assumption) ?_
     simp only [Act.put, List.setIfInBounds_toArray, List.set_cons_zero, List.set_cons_succ]
     refine wpAnyH_ready (rs := [8]) (by kernel_rfl) (by simp) ?_
     refine (AllReadyH.cons (o := { dst := none, op := Op.store 25 (Operand.tmp 7) (Operand.tmp 30), type := 0, pos := "law.go:86", after := #[{ on := 7, ground := Ground.data }, { on := 5, ground := Ground.data }, { on := 3, ground := Ground.chain }, { on := 0, ground := Ground.phase }, { on := 1, ground := Ground.phase }, { on := 2, ground := Ground.phase }, { on := 3, ground := Ground.phase }, { on := 4, ground := Ground.phase }, { on := 5, ground := Ground.phase }, { on := 6, ground := Ground.textOnly Departure.lateStores }, { on := 7, ground := Ground.phase }], guard := none }) rfl (fun K hK => ?_) AllReadyH.nil)
     go_simp
     have r0 := BA.cell 0 rfl
     have r1 := BA.cell 1 rfl
     have f0 := BA.frozen 0
     have f1 := BA.frozen 1
     have BS := boxA_s1 (boxA_s0 BA (.slice x5 n5 y5)) (.slice b3 m d3)
     have kS := Below.set2 kT nA (.slice x5 n5 y5) (.slice b3 m d3)
     have jS := HC.out kS
     have lU : wE.heap.size < wT.heap.size := BA.lt
     have HVS : Hid (OutR v.heap.size ((wT.setCell ⟨wE.heap.size, 0, none⟩ (.slice x5 n5 y5)).setCell ⟨wE.heap.size, 1, none⟩ (.slice b3 m d3)) er U x5 n5 y5 b3 m d3) := HV.out.imp sC (by rw [set1_size, set1_size]; exact Nat.le_refl _) (fun q hq => by rw [set1_other (by show ¬ wE.heap.size = q; have := hq.1; omega), set1_other (by show ¬ wE.heap.size = q; have := hq.1; omega)])
     go_simp
     refine hK.out _ _ (jS) (fun _ => ?_)
     clear hK K
     refine wpAnyH_take (i := 9) (oi := { dst := some 8, op := Op.assign (Operand.tmp 31), type := 28, pos := "law.go:86", after := #[{ on := 6, ground := Ground.data }, { on := 8, ground := Ground.chain }, { on := 0, ground := Ground.phase }, { on := 1, ground := Ground.phase }, { on := 2, ground := Ground.phase }, { on := 3, ground := Ground.phase }, { on := 4, ground := Ground.phase }, { on := 5, ground := Ground.phase }, { on := 6, ground := Ground.phase }, { on := 7, ground := Ground.phase }, { on := 8, ground := Ground.phase }], guard := none }) (v := .int .i64 er) rfl (by kernel_rfl) (by kernel_rfl) (by kernel_rfl) (fun _ _ _ h => hP _ _ _ _ _ h) (Or.inl ⟨by rfl, (by intro w hSw; (try dsimp only at hSw); go_simp)⟩) (by assumption) ?_
     simp only [Act.put, List.setIfInBounds_toArray, List.set_cons_zero, List.set_cons_succ]
     refine wpAnyH_done (by kernel_rfl) ?_ _
     exact hQ _ ds0 ea ec ki x5 n5 y5 b3 m d3 _ BS nA HVS kS
 · go_simp
   have kA : Below v.heap.size v (v.drew.alloc (.cells #[.slice none 0 0, .slice none 0 0] 25)) := d1.trans ((below_alloc v.drew (.cells #[.slice none 0 0, .slice none 0 0] 25)).mono d1.size)
   have jA := HC.out kA
   have BA : BoxA (v.drew.alloc (.cells #[.slice none 0 0, .slice none 0 0] 25)) v.heap.size 25 #[.slice none 0 0, .slice none 0 0] := boxA_new v.drew #[.slice none 0 0, .slice none 0 0] 25
   have nA : v.heap.size ≤ v.heap.size := d1.size
   go_simp
   refine hK.out _ _ (jA) (fun _ => ?_)
   clear hK K
   refine wpAnyH_ready (rs := [0]) (by kernel_rfl) (by simp) ?_
   refine (AllReadyH.cons (o := { dst := some 26, op := Op.call { callee := Callee.value (Operand.func 8), args := #[], argTypes := #[] }, type := 35, pos := "law.go:86", after := #[], guard := none }) rfl (fun K hK => ?_) AllReadyH.nil)
   go_simp
   refine (env_any _).mono ?_
   rintro e wE ⟨ds0, ea, ec, hd, rfl, ho, pE⟩
   have kE : Below v.heap.size v wE := kA.trans (pE.mono kA.size)
   have jE := HC.out kE
   have hrE := ho.rd
   clear ho
   have lBA := BA.lt
   replace BA := BA.below pE lBA
   clear lBA
   go_simp
   refine hK.out _ _ (jE) (fun _ => ?_)
   clear hK K
   refine wpAnyH_ready (rs := [2]) (by kernel_rfl) (by simp) ?_
   refine (AllReadyH.cons (o := { dst := some 28, op := Op.call { callee := Callee.value (Operand.func 12), args := #[Operand.const (Value.int IntKind.i64 0)], argTypes := #[3] }, type := 25, pos := "law.go:86", after := #[{ on := 0, ground := Ground.chain }], guard := none }) rfl (fun K hK => ?_) AllReadyH.nil)
   go_simp
   have lBA := BA.lt
   refine (int_lit 0 (by omega) (by omega) _).mono ?_
   rintro e wI ⟨ki, rfl, hi, pI⟩
   have kI : Below v.heap.size v wI := kE.trans (pI.mono kE.size)
   have jI := HC.out kI
   have HI : Hid (ArV 1 (Fr v.heap.size wI.heap.size) wI (.slice none 0 0) (.slice (some ⟨ki, 0, none⟩) 1 1) (arrT [] [wholeT 0])) := hi.mono (fun q hq => ⟨Nat.le_trans kE.size hq.1, hq.2⟩)
   clear hi
   replace hrE := (hrE.below pI).mono pI.size
   replace BA := BA.below pI lBA
   clear lBA
   go_simp
   refine hK.out _ _ (jI) (fun _ => ?_)
   clear hK K
   refine wpAnyH_ready (rs := [3]) (by kernel_rfl) (by simp) ?_
   refine (AllReadyH.cons (o := { dst := some 29, op := Op.call { callee := Callee.value (Operand.func 7), args := #[Operand.tmp 26, Operand.const (Value.int IntKind.i32 215), Operand.tmp 27, Operand.tmp 28], argTypes := #[35, 21, 25, 25] }, type := 29, pos := "law.go:86", after := #[{ on := 0, ground := Ground.data }, { on := 1, ground := Ground.data }, { on := 2, ground := Ground.data }, { on := 2, ground := Ground.chain }], guard := none }) rfl (fun K hK => ?_) AllReadyH.nil)
   go_simp
   have sC : v.heap.size ≤ wI.heap.size := kI.size
   have lBA := BA.lt
   refine (KT.out _ ds0 ea ec ki hd hrE HI.out kI).mono ?_
   rintro e wT ⟨⟨x5, n5, y5, b3, m, d3, rfl, hv⟩, pT⟩
   have kT : Below v.heap.size v wT := kI.trans (pT.mono kI.size)
   have jT := HC.out kT
   have HV : Hid (OutR wI.heap.size wT er U x5 n5 y5 b3 m d3) := hv
   clear hv hrE
   replace BA := BA.below pT lBA
   go_simp
   refine hK.out _ _ (jT) (fun _ => ?_)
   clear hK K
   refine wpAnyH_take (i := 4) (oi := { dst := some 25, op := Op.move (Operand.tmp 29), type := 29, pos := "law.go:86", after := #[{ on := 3, ground := Ground.data }], guard := none }) (v := .tuple #[.agg #[.slice x5 n5 y5, .slice b3 m d3], .int .i64 er]) rfl (by kernel_rfl) (by kernel_rfl) (by kernel_rfl) (fun _ _ _ h => hP _ _ _ _ _ h) (Or.inl ⟨by rfl, (by intro w hSw; (try dsimp only at hSw); go_simp)⟩) (by assumption) ?_
   simp only [Act.put, List.setIfInBounds_toArray, List.set_cons_zero, List.set_cons_succ]
   refine wpAnyH_take (i := 5) (oi := { dst := some 30, op := Op.extract (Operand.tmp 25) 0, type := 25, pos := "law.go:86", after := #[{ on := 4, ground := Ground.data }], guard := none }) (v := .agg #[.slice x5 n5 y5, .slice b3 m d3]) rfl (by kernel_rfl) (by kernel_rfl) (by kernel_rfl) (fun _ _ _ h => hP _ _ _ _ _ h) (Or.inl ⟨by rfl, (by intro w hSw; (try dsimp only at hSw); go_simp)⟩) (by assumption) ?_
   simp only [Act.put, List.setIfInBounds_toArray, List.set_cons_zero, List.set_cons_succ]
   refine wpAnyH_take (i := 6) (oi := { dst := some 31, op := Op.extract (Operand.tmp 25) 1, type := 28, pos := "law.go:86", after := #[{ on := 4, ground := Ground.data }, { on := 8, ground := Ground.gcOnly Departure.lateStores }], guard := none }) (v := .int .i64 er) rfl (by kernel_rfl) (by kernel_rfl) (by kernel_rfl) (fun _ _ _ h => hP _ _ _ _ _ h) (Or.inl ⟨by rfl, (by intro w hSw; (try dsimp only at hSw); go_simp)⟩) (by assumption) ?_
   simp only [Act.put, List.setIfInBounds_toArray, List.set_cons_zero, List.set_cons_succ]
   refine wpAnyH_ready (rs := [8]) (by kernel_rfl) (by simp) ?_
   refine (AllReadyH.cons (o := { dst := none, op := Op.store 25 (Operand.tmp 7) (Operand.tmp 30), type := 0, pos := "law.go:86", after := #[{ on := 7, ground := Ground.data }, { on := 5, ground := Ground.data }, { on := 3, ground := Ground.chain }, { on := 0, ground := Ground.phase }, { on := 1, ground := Ground.phase }, { on := 2, ground := Ground.phase }, { on := 3, ground := Ground.phase }, { on := 4, ground := Ground.phase }, { on := 5, ground := Ground.phase }, { on := 6, ground := Ground.textOnly Departure.lateStores }, { on := 7, ground := Ground.phase }], guard := none }) rfl (fun K hK => ?_) AllReadyH.nil)
   go_simp
   have r0 := BA.cell 0 rfl
   have r1 := BA.cell 1 rfl
   have f0 := BA.frozen 0
   have f1 := BA.frozen 1
   have BS := boxA_s1 (boxA_s0 BA (.slice x5 n5 y5)) (.slice b3 m d3)
   have kS := Below.set2 kT nA (.slice x5 n5 y5) (.slice b3 m d3)
   have jS := HC.out kS
   have lU : v.heap.size < wT.heap.size := BA.lt
   have HVS : Hid (OutR v.heap.size ((wT.setCell ⟨v.heap.size, 0, none⟩ (.slice x5 n5 y5)).setCell ⟨v.heap.size, 1, none⟩ (.slice b3 m d3)) er U x5 n5 y5 b3 m d3) := HV.out.imp sC (by rw [set1_size, set1_size]; exact Nat.le_refl _) (fun q hq => by rw [set1_other (by show ¬ v.heap.size = q; have := hq.1; omega), set1_other (by show ¬ v.heap.size = q; have := hq.1; omega)])
   go_simp
   refine hK.out _ _ (jS) (fun _ => ?_)
   clear hK K
   refine wpAnyH_take (i := 9) (oi := { dst := some 8, op := Op.assign (Operand.tmp 31), type := 28, pos := "law.go:86", after := #[{ on := 6, ground := Ground.data }, { on := 8, ground := Ground.chain }, { on := 0, ground := Ground.phase }, { on := 1, ground := Ground.phase }, { on := 2, ground := Ground.phase }, { on := 3, ground := Ground.phase }, { on := 4, ground := Ground.phase }, { on := 5, ground := Ground.phase }, { on := 6, ground := Ground.phase }, { on := 7, ground := Ground.phase }, { on := 8, ground := Ground.phase }], guard := none }) (v := .int .i64 er) rfl (by kernel_rfl) (by kernel_rfl) (by kernel_rfl) (fun _ _ _ h => hP _ _ _ _ _ h) (Or.inl ⟨by rfl, (by intro w hSw; (try dsimp only at hSw); go_simp)⟩) (by assumption) ?_
   simp only [Act.put, List.setIfInBounds_toArray, List.set_cons_zero, List.set_cons_succ]
   refine wpAnyH_done (by kernel_rfl) ?_ _
   exact hQ _ ds0 ea ec ki x5 n5 y5 b3 m d3 _ BS nA HVS kS
end
end Go.Proofs.YtmijanocljmaeaaGreat
