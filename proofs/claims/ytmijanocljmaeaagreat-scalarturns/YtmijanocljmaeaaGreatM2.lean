/- scalar.logical's functions, of bits. -/
import Derived.Test.YtmijanocljmaeaaGreatM1
import Derived.Test.YtmijanocljmaeaaGreatKS3
import Derived.Test.YtmijanocljmaeaaGreatKS1
namespace Go.Proofs.YtmijanocljmaeaaGreat
set_option linter.unusedVariables false
set_option linter.unusedSimpArgs false
open Go.RowKit

/-- What a function of two truths tells. -/
def HoldB (kf : Nat) (op : Bool → Bool → Bool) : Prop := (∀ a b w, Calls Tryz.prog kf #[.bool a, .bool b] w fun e w' => e = .returned (.bool (op a b)) ∧ w' = w) ∧ ∀ args w, Sem.run Tryz.prog (callFunc kf args) w = .ok (.enter kf args) w
theorem enterB {f : FuncId} {fn : Func} (hf : Tryz.prog.funcs[f]? = some fn) (hn : (fn.name == "runtime.NumGoroutine") = false) (hb : fn.body.isNone = false) (args : Array Value) (w : World) : Sem.run Tryz.prog (callFunc f args) w = .ok (.enter f args) w := by
 have h1 : fn.name ≠ "runtime.NumGoroutine" := by simpa using hn
 have h2 : fn.body ≠ none := fun h => by rw [h] at hb; cases hb
 simp [callFunc, hf, h1, h2]
set_option maxRecDepth 100000 in
set_option maxHeartbeats 16000000 in
theorem holdB_10 : HoldB 95 (fun a b => a && b) := by
 refine ⟨?_, enterB Tryz.func95 (by kernel_rfl) (by kernel_rfl)⟩
 intro a b w
 cases a <;> cases b
 all_goals
  go_enter Tryz.func95, Tryz.ntmps95
  go_wp2
  go_ret
  exact ⟨rfl, rfl⟩
set_option maxRecDepth 100000 in
set_option maxHeartbeats 16000000 in
theorem holdB_11 : HoldB 96 (fun a b => a || b) := by
 refine ⟨?_, enterB Tryz.func96 (by kernel_rfl) (by kernel_rfl)⟩
 intro a b w
 cases a <;> cases b
 all_goals
  go_enter Tryz.func96, Tryz.ntmps96
  go_wp2
  go_ret
  exact ⟨rfl, rfl⟩
section
variable {kf : Nat} {op : Bool → Bool → Bool} {w : World} {h k : Bool} {a1 a2 a3 a4 : Option Addr} {c1 c2 c3 c4 : Nat} {v : World} {bh : Nat}
set_option maxRecDepth 100000 in
set_option maxHeartbeats 16000000 in
theorem logreg {Q : Exit → Act → World → Prop} {t6 t7 t8 t9 t10 t11 t12 t13 t14 t15 t16 t17 t18 t19 t20 : Value} {zx zy : Bool} (HO : Hid (HoldB kf op)) (HC : Hid (∀ {w' : World}, Below v.heap.size v w' → w'.cell? ⟨bh, 0, none⟩ = some (.func (.func kf) #[] #[]) ∧ w'.cell? ⟨w.heap.size, 1, none⟩ = some (.slice a1 (bitL h).length c1) ∧ w'.cell? ⟨w.heap.size + 1, 1, none⟩ = some (.slice a3 (bitL k).length c3))) (HRW : Hid (∀ {w' : World}, Below v.heap.size v w' → BoxA w' (w.heap.size + 1 + 1) 33 #[.bool false, .slice none 0 0, .slice none 0 0])) (KX : Hid (∀ {w' : World}, Below v.heap.size v w' → Calls Tryz.prog 106 #[.pointer (some ⟨w.heap.size, 0, none⟩)] w' fun e w'' => e = .returned (.bool zx) ∧ w'' = w')) (KY : Hid (∀ {w' : World}, Below v.heap.size v w' → Calls Tryz.prog 106 #[.pointer (some ⟨w.heap.size + 1, 0, none⟩)] w' fun e w'' => e = .returned (.bool zy) ∧ w'' = w')) (nb : bh ≠ w.heap.size + 1 + 1)
    (hQ : ∀ b z1 ns u1 z2 ds u2 w4, Own v.heap.size w4 (.slice z1 ns.length u1) ns → Own v.heap.size w4 (.slice z2 ds.length u2) ds → Hid (numT b ns ds = wholeT (bitI (op (!zx) (!zy)))) → Below v.heap.size v w4 → Q .normal { tmps := #[.agg #[.bool false, .slice a1 (bitL h).length c1, .slice a2 1 c2], .agg #[.bool false, .slice a3 (bitL k).length c3, .slice a4 1 c4], .pointer (some ⟨bh, 0, none⟩), .pointer (some ⟨w.heap.size, 0, none⟩), .pointer (some ⟨w.heap.size + 1, 0, none⟩), .pointer (some ⟨w.heap.size + 1 + 1, 0, none⟩), .int .i64 0, t7, t8, t9, t10, t11, t12, t13, .func (.func kf) #[] #[], .bool zx, .bool (!zx), .bool zy, .bool (!zy), .bool (op (!zx) (!zy)), .agg #[.bool b, .slice z1 ns.length u1, .slice z2 ds.length u2]], defers := [] } (((w4.setCell ⟨w.heap.size + 1 + 1, 0, none⟩ (.bool b)).setCell ⟨w.heap.size + 1 + 1, 1, none⟩ (.slice z1 ns.length u1)).setCell ⟨w.heap.size + 1 + 1, 2, none⟩ (.slice z2 ds.length u2))) (hP : ∀ c a d x w, Q (.panic c) (Act.put a d x) w → Q (.panic c) a w) :
    (Code.region 3 #[{ dst := some 14, op := Op.load 115 (Operand.tmp 2), type := 115, pos := "numbers.go:104", after := #[], guard := none }, { dst := some 15, op := Op.call { callee := Callee.value (Operand.func 106), args := #[Operand.tmp 3], argTypes := #[117] }, type := 4, pos := "numbers.go:104", after := #[], guard := none }, { dst := some 16, op := Op.unOp UnOp.not 4 (Operand.tmp 15), type := 4, pos := "numbers.go:104", after := #[{ on := 1, ground := Ground.data }], guard := none }, { dst := some 17, op := Op.call { callee := Callee.value (Operand.func 106), args := #[Operand.tmp 4], argTypes := #[117] }, type := 4, pos := "numbers.go:104", after := #[{ on := 1, ground := Ground.chain }], guard := none }, { dst := some 18, op := Op.unOp UnOp.not 4 (Operand.tmp 17), type := 4, pos := "numbers.go:104", after := #[{ on := 3, ground := Ground.data }], guard := none }, { dst := some 19, op := Op.call { callee := Callee.value (Operand.tmp 14), args := #[Operand.tmp 16, Operand.tmp 18], argTypes := #[4, 4] }, type := 4, pos := "numbers.go:104", after := #[{ on := 0, ground := Ground.data }, { on := 2, ground := Ground.data }, { on := 4, ground := Ground.data }, { on := 3, ground := Ground.chain }], guard := none }, { dst := some 20, op := Op.call { callee := Callee.value (Operand.func 75), args := #[Operand.tmp 19], argTypes := #[4] }, type := 33, pos := "numbers.go:104", after := #[{ on := 5, ground := Ground.data }, { on := 5, ground := Ground.chain }], guard := none }, { dst := none, op := Op.store 33 (Operand.tmp 5) (Operand.tmp 20), type := 0, pos := "numbers.go:104", after := #[{ on := 6, ground := Ground.data }, { on := 6, ground := Ground.chain }, { on := 0, ground := Ground.phase }, { on := 1, ground := Ground.phase }, { on := 2, ground := Ground.phase }, { on := 3, ground := Ground.phase }, { on := 4, ground := Ground.phase }, { on := 5, ground := Ground.phase }, { on := 6, ground := Ground.phase }], guard := none }, { dst := some 6, op := Op.assign (Operand.const (Value.int IntKind.i64 0)), type := 28, pos := "numbers.go:104", after := #[{ on := 7, ground := Ground.chain }, { on := 0, ground := Ground.phase }, { on := 1, ground := Ground.phase }, { on := 2, ground := Ground.phase }, { on := 3, ground := Ground.phase }, { on := 4, ground := Ground.phase }, { on := 5, ground := Ground.phase }, { on := 6, ground := Ground.phase }, { on := 7, ground := Ground.phase }], guard := none }] true).wp Tryz.prog Q { tmps := #[.agg #[.bool false, .slice a1 (bitL h).length c1, .slice a2 1 c2], .agg #[.bool false, .slice a3 (bitL k).length c3, .slice a4 1 c4], .pointer (some ⟨bh, 0, none⟩), .pointer (some ⟨w.heap.size, 0, none⟩), .pointer (some ⟨w.heap.size + 1, 0, none⟩), .pointer (some ⟨w.heap.size + 1 + 1, 0, none⟩), t6, t7, t8, t9, t10, t11, t12, t13, t14, t15, t16, t17, t18, t19, t20], defers := [] } v := by
 have d1 : Below v.heap.size v v.drew := ⟨rfl, rfl, rfl, Nat.le_refl _, fun _ _ => rfl⟩
 have j0 := HC.out d1
 refine wp_region_held_drew (S := (fun w' => w'.cell? ⟨bh, 0, none⟩ = some (.func (.func kf) #[] #[]) ∧ w'.cell? ⟨w.heap.size, 1, none⟩ = some (.slice a1 (bitL h).length c1) ∧ w'.cell? ⟨w.heap.size + 1, 1, none⟩ = some (.slice a3 (bitL k).length c3))) (by kernel_rfl) j0 (fun hS => ?_)
 refine wpAnyH_take (i := 0) (oi := { dst := some 14, op := Op.load 115 (Operand.tmp 2), type := 115, pos := "numbers.go:104", after := #[], guard := none }) (v := .func (.func kf) #[] #[]) rfl (by kernel_rfl) (by kernel_rfl) (by kernel_rfl) (fun _ _ _ h => hP _ _ _ _ _ h) (Or.inl ⟨by rfl, (by intro w hSw; (try dsimp only at hSw); go_simp)⟩) (by assumption) ?_
 simp only [Act.put, List.setIfInBounds_toArray, List.set_cons_zero, List.set_cons_succ]
 refine wpAnyH_ready (rs := [1]) (by kernel_rfl) (by simp) ?_
 refine (AllReadyH.cons (o := { dst := some 15, op := Op.call { callee := Callee.value (Operand.func 106), args := #[Operand.tmp 3], argTypes := #[117] }, type := 4, pos := "numbers.go:104", after := #[], guard := none }) rfl (fun K hK => ?_) AllReadyH.nil)
 go_simp
 refine (KX.out d1).mono ?_
 rintro e w2 ⟨rfl, hw2⟩
 obtain rfl := hw2.symm
 clear hw2
 go_simp
 refine hK.out _ _ (j0) (fun _ => ?_)
 clear hK K
 refine wpAnyH_take (i := 2) (oi := { dst := some 16, op := Op.unOp UnOp.not 4 (Operand.tmp 15), type := 4, pos := "numbers.go:104", after := #[{ on := 1, ground := Ground.data }], guard := none }) (v := .bool (!zx)) rfl (by kernel_rfl) (by kernel_rfl) (by kernel_rfl) (fun _ _ _ h => hP _ _ _ _ _ h) (Or.inl ⟨by rfl, (by intro w hSw; (try dsimp only at hSw); go_simp)⟩) (by assumption) ?_
 simp only [Act.put, List.setIfInBounds_toArray, List.set_cons_zero, List.set_cons_succ]
 refine wpAnyH_ready (rs := [3]) (by kernel_rfl) (by simp) ?_
 refine (AllReadyH.cons (o := { dst := some 17, op := Op.call { callee := Callee.value (Operand.func 106), args := #[Operand.tmp 4], argTypes := #[117] }, type := 4, pos := "numbers.go:104", after := #[{ on := 1, ground := Ground.chain }], guard := none }) rfl (fun K hK => ?_) AllReadyH.nil)
 go_simp
 refine (KY.out d1).mono ?_
 rintro e w3 ⟨rfl, hw3⟩
 obtain rfl := hw3.symm
 clear hw3
 go_simp
 refine hK.out _ _ (j0) (fun _ => ?_)
 clear hK K
 refine wpAnyH_take (i := 4) (oi := { dst := some 18, op := Op.unOp UnOp.not 4 (Operand.tmp 17), type := 4, pos := "numbers.go:104", after := #[{ on := 3, ground := Ground.data }], guard := none }) (v := .bool (!zy)) rfl (by kernel_rfl) (by kernel_rfl) (by kernel_rfl) (fun _ _ _ h => hP _ _ _ _ _ h) (Or.inl ⟨by rfl, (by intro w hSw; (try dsimp only at hSw); go_simp)⟩) (by assumption) ?_
 simp only [Act.put, List.setIfInBounds_toArray, List.set_cons_zero, List.set_cons_succ]
 refine wpAnyH_ready (rs := [5]) (by kernel_rfl) (by simp) ?_
 refine (AllReadyH.cons (o := { dst := some 19, op := Op.call { callee := Callee.value (Operand.tmp 14), args := #[Operand.tmp 16, Operand.tmp 18], argTypes := #[4, 4] }, type := 4, pos := "numbers.go:104", after := #[{ on := 0, ground := Ground.data }, { on := 2, ground := Ground.data }, { on := 4, ground := Ground.data }, { on := 3, ground := Ground.chain }], guard := none }) rfl (fun K hK => ?_) AllReadyH.nil)
 go_simp
 rw [HO.out.2, Oper.upon_enter]; refine (HO.out.1 _ _ _).mono ?_
 rintro e w3 ⟨rfl, hw3⟩
 obtain rfl := hw3.symm
 go_simp
 refine hK.out _ _ (j0) (fun _ => ?_)
 clear hK K
 refine wpAnyH_ready (rs := [6]) (by kernel_rfl) (by simp) ?_
 refine (AllReadyH.cons (o := { dst := some 20, op := Op.call { callee := Callee.value (Operand.func 75), args := #[Operand.tmp 19], argTypes := #[4] }, type := 33, pos := "numbers.go:104", after := #[{ on := 5, ground := Ground.data }, { on := 5, ground := Ground.chain }], guard := none }) rfl (fun K hK => ?_) AllReadyH.nil)
 go_simp
 refine (truth_bit _ _).mono ?_
 rintro e w4 ⟨⟨b, z1, ns, u1, z2, ds, u2, rfl, ho1, ho2, hT⟩, q4⟩
 have kk4 : Below v.heap.size v w4 := d1.trans (q4.mono d1.size)
 have j4 := HC.out kk4
 have R2 := HRW.out kk4
 have r0 := R2.cell 0 rfl
 have r1 := R2.cell 1 rfl
 have r2 := R2.cell 2 rfl
 have f0 := R2.frozen 0
 have f1 := R2.frozen 1
 have f2 := R2.frozen 2
 have kS : Kp (w.heap.size + 1 + 1) w4 (((w4.setCell ⟨w.heap.size + 1 + 1, 0, none⟩ (.bool b)).setCell ⟨w.heap.size + 1 + 1, 1, none⟩ (.slice z1 ns.length u1)).setCell ⟨w.heap.size + 1 + 1, 2, none⟩ (.slice z2 ds.length u2)) := ((Kp.set _ _ _).trans (Kp.set _ _ _)).trans (Kp.set _ _ _)
 have j5 := And.intro (kS.cell nb j4.1) (And.intro (kS.cell (by omega) j4.2.1) (kS.cell (by omega) j4.2.2))
 have HO1 : Hid (Own v.drew.heap.size w4 (.slice z1 ns.length u1) ns) := ho1
 have HO2 : Hid (Own v.drew.heap.size w4 (.slice z2 ds.length u2) ds) := ho2
 clear ho1 ho2
 go_simp
 refine hK.out _ _ (j4) (fun _ => ?_)
 clear hK K
 refine wpAnyH_ready (rs := [7]) (by kernel_rfl) (by simp) ?_
 refine (AllReadyH.cons (o := { dst := none, op := Op.store 33 (Operand.tmp 5) (Operand.tmp 20), type := 0, pos := "numbers.go:104", after := #[{ on := 6, ground := Ground.data }, { on := 6, ground := Ground.chain }, { on := 0, ground := Ground.phase }, { on := 1, ground := Ground.phase }, { on := 2, ground := Ground.phase }, { on := 3, ground := Ground.phase }, { on := 4, ground := Ground.phase }, { on := 5, ground := Ground.phase }, { on := 6, ground := Ground.phase }], guard := none }) rfl (fun K hK => ?_) AllReadyH.nil)
 go_simp
 skip
 go_simp
 refine hK.out _ _ (j5) (fun _ => ?_)
 clear hK K
 refine wpAnyH_take (i := 8) (oi := { dst := some 6, op := Op.assign (Operand.const (Value.int IntKind.i64 0)), type := 28, pos := "numbers.go:104", after := #[{ on := 7, ground := Ground.chain }, { on := 0, ground := Ground.phase }, { on := 1, ground := Ground.phase }, { on := 2, ground := Ground.phase }, { on := 3, ground := Ground.phase }, { on := 4, ground := Ground.phase }, { on := 5, ground := Ground.phase }, { on := 6, ground := Ground.phase }, { on := 7, ground := Ground.phase }], guard := none }) (v := .int .i64 0) rfl (by kernel_rfl) (by kernel_rfl) (by kernel_rfl) (fun _ _ _ h => hP _ _ _ _ _ h) (Or.inl ⟨by rfl, (by intro w hSw; (try dsimp only at hSw); go_simp)⟩) (by assumption) ?_
 simp only [Act.put, List.setIfInBounds_toArray, List.set_cons_zero, List.set_cons_succ]
 refine wpAnyH_done (by kernel_rfl) ?_ _
 exact hQ b z1 ns u1 z2 ds u2 w4 (HO1.out.mono d1.size) (HO2.out.mono d1.size) hT kk4
end
section
variable {kf : Nat} {op : Bool → Bool → Bool} {w : World} {h k : Bool} {a1 a2 a3 a4 : Option Addr} {c1 c2 c3 c4 : Nat} {bh : Nat}
set_option maxRecDepth 100000 in
set_option maxHeartbeats 16000000 in
theorem log_bits (HO : Hid (HoldB kf op)) (hf : w.cell? ⟨bh, 0, none⟩ = some (.func (.func kf) #[] #[])) (h1 : Rd w.heap.size w (.slice a1 (bitL h).length c1) (bitL h)) (h2 : Rd w.heap.size w (.slice a2 1 c2) [1]) (h3 : Rd w.heap.size w (.slice a3 (bitL k).length c3) (bitL k)) (h4 : Rd w.heap.size w (.slice a4 1 c4) [1]) :
    Calls Tryz.prog 137 #[.agg #[.bool false, .slice a1 (bitL h).length c1, .slice a2 1 c2], .agg #[.bool false, .slice a3 (bitL k).length c3, .slice a4 1 c4], .pointer (some ⟨bh, 0, none⟩)] w fun e w' => NumR w.heap.size (fun b ns ds => numT b ns ds = wholeT (bitI (op h k))) e w' ∧ Below w.heap.size w w' := by
 have k1 := below_alloc w (.cells #[.bool false, .slice a1 (bitL h).length c1, .slice a2 1 c2] 33)
 have k2 := below_alloc (w.alloc (.cells #[.bool false, .slice a1 (bitL h).length c1, .slice a2 1 c2] 33)) (.cells #[.bool false, .slice a3 (bitL k).length c3, .slice a4 1 c4] 33)
 have k3 := below_alloc ((w.alloc (.cells #[.bool false, .slice a1 (bitL h).length c1, .slice a2 1 c2] 33)).alloc (.cells #[.bool false, .slice a3 (bitL k).length c3, .slice a4 1 c4] 33)) (.cells #[.bool false, .slice none 0 0, .slice none 0 0] 33)
 have k23 : Below (w.alloc (.cells #[.bool false, .slice a1 (bitL h).length c1, .slice a2 1 c2] 33)).heap.size (w.alloc (.cells #[.bool false, .slice a1 (bitL h).length c1, .slice a2 1 c2] 33)) (((w.alloc (.cells #[.bool false, .slice a1 (bitL h).length c1, .slice a2 1 c2] 33)).alloc (.cells #[.bool false, .slice a3 (bitL k).length c3, .slice a4 1 c4] 33)).alloc (.cells #[.bool false, .slice none 0 0, .slice none 0 0] 33)) := k2.trans (k3.mono (by simp))
 have g : Below w.heap.size w (((w.alloc (.cells #[.bool false, .slice a1 (bitL h).length c1, .slice a2 1 c2] 33)).alloc (.cells #[.bool false, .slice a3 (bitL k).length c3, .slice a4 1 c4] 33)).alloc (.cells #[.bool false, .slice none 0 0, .slice none 0 0] 33)) := k1.trans (k23.mono (by simp))
 have Xb := (boxA_new w #[.bool false, .slice a1 (bitL h).length c1, .slice a2 1 c2] 33).below k23 (by simp)
 have Yb := (boxA_new (w.alloc (.cells #[.bool false, .slice a1 (bitL h).length c1, .slice a2 1 c2] 33)) #[.bool false, .slice a3 (bitL k).length c3, .slice a4 1 c4] 33).below k3 (by simp)
 have R := boxA_new ((w.alloc (.cells #[.bool false, .slice a1 (bitL h).length c1, .slice a2 1 c2] 33)).alloc (.cells #[.bool false, .slice a3 (bitL k).length c3, .slice a4 1 c4] 33)) #[.bool false, .slice none 0 0, .slice none 0 0] 33
 rw [World.size_alloc] at Yb
 have sz : ((w.alloc (.cells #[.bool false, .slice a1 (bitL h).length c1, .slice a2 1 c2] 33)).alloc (.cells #[.bool false, .slice a3 (bitL k).length c3, .slice a4 1 c4] 33)).heap.size = w.heap.size + 1 + 1 := by simp
 have sz3 : (((w.alloc (.cells #[.bool false, .slice a1 (bitL h).length c1, .slice a2 1 c2] 33)).alloc (.cells #[.bool false, .slice a3 (bitL k).length c3, .slice a4 1 c4] 33)).alloc (.cells #[.bool false, .slice none 0 0, .slice none 0 0] 33)).heap.size = w.heap.size + 1 + 1 + 1 := by simp
 rw [sz] at R
 have l1 := lt_of_cellT hf
 have r1 := (h1.below g).mono g.size
 have r2 := (h2.below g).mono g.size
 have r3 := (h3.below g).mono g.size
 have r4 := (h4.below g).mono g.size
 have hfv := (g.cell (p := ⟨bh, 0, none⟩) l1).trans hf
 clear k1 k2 k3 k23 h1 h2 h3 h4
 go_enter Tryz.func137, Tryz.ntmps137
 go_wp2_with fail
 generalize hA : ((w.alloc (.cells #[.bool false, .slice a1 (bitL h).length c1, .slice a2 1 c2] 33)).alloc (.cells #[.bool false, .slice a3 (bitL k).length c3, .slice a4 1 c4] 33)).alloc (.cells #[.bool false, .slice none 0 0, .slice none 0 0] 33) = v at *
 clear hA
 have C1 := isBit_bit (h := h) (Xb.cell 0 rfl) (Xb.cell 1 rfl) (Xb.cell 2 rfl) r1 r2
 have C2 := isBit_bit (h := k) (Yb.cell 0 rfl) (Yb.cell 1 rfl) (Yb.cell 2 rfl) r3 r4
 clear r1 r2 r3 r4
 refine C1.mono ?_
 rintro e w1 ⟨rfl, hw1⟩
 obtain rfl := hw1.symm
 clear hw1 C1
 go_wp2_with fail
 refine C2.mono ?_
 rintro e w1 ⟨rfl, hw1⟩
 obtain rfl := hw1.symm
 clear hw1 C2
 go_upto_region 3 with fail
 have HCe : Hid (∀ {w' : World}, Below v.heap.size v w' → w'.cell? ⟨bh, 0, none⟩ = some (.func (.func kf) #[] #[]) ∧ w'.cell? ⟨w.heap.size, 1, none⟩ = some (.slice a1 (bitL h).length c1) ∧ w'.cell? ⟨w.heap.size + 1, 1, none⟩ = some (.slice a3 (bitL k).length c3)) := fun q => ⟨((q.cell (p := ⟨bh, 0, none⟩) (by show bh < _; omega))).trans hfv, (Xb.below q (by omega)).cell 1 rfl, (Yb.below q (by omega)).cell 1 rfl⟩
 have HRW : Hid (∀ {w' : World}, Below v.heap.size v w' → BoxA w' (w.heap.size + 1 + 1) 33 #[.bool false, .slice none 0 0, .slice none 0 0]) := fun q => R.below q (by omega)
 have KX : Hid (∀ {w' : World}, Below v.heap.size v w' → Calls Tryz.prog 106 #[.pointer (some ⟨w.heap.size, 0, none⟩)] w' fun e w'' => e = .returned (.bool (!h)) ∧ w'' = w') := fun q => isZero_bit (HCe.out q).2.1
 have KY : Hid (∀ {w' : World}, Below v.heap.size v w' → Calls Tryz.prog 106 #[.pointer (some ⟨w.heap.size + 1, 0, none⟩)] w' fun e w'' => e = .returned (.bool (!k)) ∧ w'' = w') := fun q => isZero_bit (HCe.out q).2.2
 refine wp_region_noPanic ?_
 refine logreg (w := w) (v := v) (bh := bh) (h := h) (k := k) (a1 := a1) (a2 := a2) (a3 := a3) (a4 := a4) (c1 := c1) (c2 := c2) (c3 := c3) (c4 := c4) HO HCe HRW KX KY (by omega) ?hq (fun _ _ _ _ _ h => h)
 intro b z1 ns u1 z2 ds u2 w4 ho1 ho2 hT kk4
 refine NoPanic.normal ?_
 simp only [Exit.then]
 have R2 := HRW.out kk4
 have R3 := ((R2.put 0 (.bool b)).put 1 (.slice z1 ns.length u1)).put 2 (.slice z2 ds.length u2)
 have y0 := R3.cell 0 rfl
 have y1 := R3.cell 1 rfl
 have y2 := R3.cell 2 rfl
 have HO1 : Hid (Own v.heap.size w4 (.slice z1 ns.length u1) ns) := ho1
 have HO2 : Hid (Own v.heap.size w4 (.slice z2 ds.length u2) ds) := ho2
 clear ho1 ho2
 go_wp2
 refine bodyPost_ret (v := .tuple #[.agg #[.bool b, .slice z1 ns.length u1, .slice z2 ds.length u2], .int .i64 0]) (by simp [results, Tryz.results137, go_sem, y0, y1, y2]) rfl ?_
 refine ⟨⟨b, z1, ns, u1, z2, ds, u2, rfl, (HO1.out.set3 (by omega) _ _ _).mono (by omega), (HO2.out.set3 (by omega) _ _ _).mono (by omega), ?_⟩, Below.set3 (g.trans (kk4.mono g.size)) (by omega) _ _ _⟩
 have hT' := hT.out
 simp only [Bool.not_not] at hT'
 exact hT'
end
end Go.Proofs.YtmijanocljmaeaaGreat

/- pairing.numbers at and, or, nand, of bits. -/
namespace Go.Proofs.YtmijanocljmaeaaGreat
set_option linter.unusedVariables false
set_option linter.unusedSimpArgs false
open Go.RowKit

section
variable {w : World} {h k : Bool} {a1 a2 a3 a4 : Option Addr} {c1 c2 c3 c4 : Nat} {p q bh kf : Nat} {op : Bool → Bool → Bool} {F : Value} {cc kk gl : Int}
end
end Go.Proofs.YtmijanocljmaeaaGreat

/- pairing.numbers at and, or, nand, of bits. -/
namespace Go.Proofs.YtmijanocljmaeaaGreat
set_option linter.unusedVariables false
set_option linter.unusedSimpArgs false
open Go.RowKit

section
variable {w : World} {h k : Bool} {a1 a2 a3 a4 : Option Addr} {c1 c2 c3 c4 : Nat} {p q bh kf : Nat} {op : Bool → Bool → Bool} {F : Value} {cc kk gl : Int}
end
end Go.Proofs.YtmijanocljmaeaaGreat

/- pairing.numbers at and, or, nand, of bits. -/
namespace Go.Proofs.YtmijanocljmaeaaGreat
set_option linter.unusedVariables false
set_option linter.unusedSimpArgs false
open Go.RowKit

section
variable {w : World} {h k : Bool} {a1 a2 a3 a4 : Option Addr} {c1 c2 c3 c4 : Nat} {p q bh kf : Nat} {op : Bool → Bool → Bool} {F : Value} {cc kk gl : Int}
end
end Go.Proofs.YtmijanocljmaeaaGreat
