/- Comparisons: a 1 or a 0. -/
import Derived.Test.YtmijanocljmaeaaGreatKS4
import Derived.Test.YtmijanocljmaeaaGreatKT
import Derived.Test.YtmijanocljmaeaaGreatM1
import Derived.Test.YtmijanocljmaeaaGreatP6
import Derived.Test.YtmijanocljmaeaaGreatP5
namespace Go.Proofs.YtmijanocljmaeaaGreat
set_option linter.unusedVariables false
set_option linter.unusedSimpArgs false
open Go.RowKit

theorem enterK {f : FuncId} {fn : Func} (hf : Tryz.prog.funcs[f]? = some fn) (hn : (fn.name == "runtime.NumGoroutine") = false) (hb : fn.body.isNone = false) (args : Array Value) (w : World) : Sem.run Tryz.prog (callFunc f args) w = .ok (.enter f args) w := by
 have h1 : fn.name ≠ "runtime.NumGoroutine" := by simpa using hn
 have h2 : fn.body ≠ none := fun h => by rw [h] at hb; cases hb
 simp [callFunc, hf, h1, h2]
/-- What a comparison of an int with 0 tells. -/
def HoldK (kf : Nat) (Rb : Int → Bool) : Prop := (∀ r w, Calls Tryz.prog kf #[.int .i64 r] w fun e w' => e = .returned (.bool (Rb r)) ∧ w' = w) ∧ ∀ args w, Sem.run Tryz.prog (callFunc kf args) w = .ok (.enter kf args) w
set_option maxRecDepth 100000 in
set_option maxHeartbeats 16000000 in
theorem hold_6 (r : Int) (w : World) : Calls Tryz.prog 90 #[.int .i64 r] w fun e w' => e = .returned (.bool (decide (r = 0))) ∧ w' = w := by
 go_enter Tryz.func90, Tryz.ntmps90
 go_wp2
 go_ret
 exact ⟨by first | (by_cases h : r = 0 <;> simp [h]; done) | (simp <;> omega), rfl⟩
theorem holdK_6 : HoldK 90 (fun r => decide (r = 0)) := ⟨hold_6, enterK Tryz.func90 (by kernel_rfl) (by kernel_rfl)⟩
set_option maxRecDepth 100000 in
set_option maxHeartbeats 16000000 in
theorem hold_9 (r : Int) (w : World) : Calls Tryz.prog 93 #[.int .i64 r] w fun e w' => e = .returned (.bool (!decide (r = 0))) ∧ w' = w := by
 go_enter Tryz.func93, Tryz.ntmps93
 go_wp2
 go_ret
 exact ⟨by first | (by_cases h : r = 0 <;> simp [h]; done) | (simp <;> omega), rfl⟩
theorem holdK_9 : HoldK 93 (fun r => !decide (r = 0)) := ⟨hold_9, enterK Tryz.func93 (by kernel_rfl) (by kernel_rfl)⟩
end Go.Proofs.YtmijanocljmaeaaGreat

/- A comparison of two numbers, whichever: just the 1 or the 0. -/
namespace Go.Proofs.YtmijanocljmaeaaGreat
set_option linter.unusedVariables false
set_option linter.unusedSimpArgs false
open Go.RowKit

section
variable {kf : Nat} {Rb : Int → Bool} {w : World} {bt bx cy : Bool} {a1 a2 a3 a4 a5 a6 : Option Addr} {tn td xn xd yn yd : List Int} {c1 c2 c3 c4 c5 c6 : Nat} {v : World} {bh b0 : Nat}
set_option maxRecDepth 100000 in
set_option maxHeartbeats 16000000 in
theorem cmpregT {Q : Exit → Act → World → Prop} {t7 t8 t9 t10 t11 t12 t13 t14 : Value} (HO : Hid (HoldK kf Rb)) (HC : Hid (∀ {w' : World}, Below v.heap.size v w' → w'.cell? ⟨bh, 0, none⟩ = some (.func (.func kf) #[] #[]) ∧ w'.cell? ⟨b0, 0, none⟩ = some (.bool bt) ∧ w'.cell? ⟨b0, 1, none⟩ = some (.slice a5 tn.length c5) ∧ w'.cell? ⟨b0, 2, none⟩ = some (.slice a6 td.length c6) ∧ w'.cell? ⟨w.heap.size, 0, none⟩ = some (.bool bx) ∧ w'.cell? ⟨w.heap.size, 1, none⟩ = some (.slice a1 xn.length c1) ∧ w'.cell? ⟨w.heap.size, 2, none⟩ = some (.slice a2 xd.length c2) ∧ w'.cell? ⟨w.heap.size + 1, 0, none⟩ = some (.bool cy) ∧ w'.cell? ⟨w.heap.size + 1, 1, none⟩ = some (.slice a3 yn.length c3) ∧ w'.cell? ⟨w.heap.size + 1, 2, none⟩ = some (.slice a4 yd.length c4))) (HRW : Hid (∀ {w' : World}, Below v.heap.size v w' → BoxA w' (w.heap.size + 1 + 1) 33 #[.bool false, .slice none 0 0, .slice none 0 0]))
    (K1 : Hid (Calls Tryz.prog 76 #[.agg #[.bool bt, .slice a5 tn.length c5, .slice a6 td.length c6], .agg #[.bool bx, .slice a1 xn.length c1, .slice a2 xd.length c2], .agg #[.bool cy, .slice a3 yn.length c3, .slice a4 yd.length c4]] v.drew fun e w' => Below v.drew.heap.size v.drew w' ∧ Tols (RightP bt tn td ∧ RightP bx xn xd ∧ RightP cy yn yd) (WithinI bt (val tn) (val td) (apartI bx (val xn) (val xd) cy (val yn) (val yd)) (val xn) (val xd) (val yn) (val yd)) (sg bx (val xn) * val yd) (sg cy (val yn) * val xd) e)) (nb : bh ≠ w.heap.size + 1 + 1) (n0 : b0 ≠ w.heap.size + 1 + 1)
    (hQ : ∀ r b z1 ns u1 z2 ds u2 w4, Hid (Own v.heap.size w4 (.slice z1 ns.length u1) ns) → Hid (Own v.heap.size w4 (.slice z2 ds.length u2) ds) → Hid (numT b ns ds = wholeT (bitI (Rb r))) → Hid (TolIs (RightP bt tn td ∧ RightP bx xn xd ∧ RightP cy yn yd) (WithinI bt (val tn) (val td) (apartI bx (val xn) (val xd) cy (val yn) (val yd)) (val xn) (val xd) (val yn) (val yd)) (sg bx (val xn) * val yd) (sg cy (val yn) * val xd) r) → Below v.heap.size v w4 → Q .normal { tmps := #[.agg #[.bool bx, .slice a1 xn.length c1, .slice a2 xd.length c2], .agg #[.bool cy, .slice a3 yn.length c3, .slice a4 yd.length c4], .pointer (some ⟨bh, 0, none⟩), .pointer (some ⟨b0, 0, none⟩), .pointer (some ⟨w.heap.size, 0, none⟩), .pointer (some ⟨w.heap.size + 1, 0, none⟩), .pointer (some ⟨w.heap.size + 1 + 1, 0, none⟩), .int .i64 0, .func (.func kf) #[] #[], .agg #[.bool bt, .slice a5 tn.length c5, .slice a6 td.length c6], .agg #[.bool bx, .slice a1 xn.length c1, .slice a2 xd.length c2], .agg #[.bool cy, .slice a3 yn.length c3, .slice a4 yd.length c4], .int .i64 r, .bool (Rb r), .agg #[.bool b, .slice z1 ns.length u1, .slice z2 ds.length u2]], defers := [] } (((w4.setCell ⟨w.heap.size + 1 + 1, 0, none⟩ (.bool b)).setCell ⟨w.heap.size + 1 + 1, 1, none⟩ (.slice z1 ns.length u1)).setCell ⟨w.heap.size + 1 + 1, 2, none⟩ (.slice z2 ds.length u2))) (hP : ∀ c a d x w, Q (.panic c) (Act.put a d x) w → Q (.panic c) a w) :
    (Code.region 1 #[{ dst := some 8, op := Op.load 109 (Operand.tmp 2), type := 109, pos := "numbers.go:34", after := #[], guard := none }, { dst := some 9, op := Op.load 33 (Operand.tmp 3), type := 33, pos := "numbers.go:34", after := #[], guard := none }, { dst := some 10, op := Op.load 33 (Operand.tmp 4), type := 33, pos := "numbers.go:34", after := #[], guard := none }, { dst := some 11, op := Op.load 33 (Operand.tmp 5), type := 33, pos := "numbers.go:34", after := #[], guard := none }, { dst := some 12, op := Op.call { callee := Callee.value (Operand.func 76), args := #[Operand.tmp 9, Operand.tmp 10, Operand.tmp 11], argTypes := #[33, 33, 33] }, type := 3, pos := "numbers.go:34", after := #[{ on := 1, ground := Ground.data }, { on := 2, ground := Ground.data }, { on := 3, ground := Ground.data }], guard := none }, { dst := some 13, op := Op.call { callee := Callee.value (Operand.tmp 8), args := #[Operand.tmp 12], argTypes := #[3] }, type := 4, pos := "numbers.go:34", after := #[{ on := 0, ground := Ground.data }, { on := 4, ground := Ground.data }, { on := 4, ground := Ground.chain }], guard := none }, { dst := some 14, op := Op.call { callee := Callee.value (Operand.func 75), args := #[Operand.tmp 13], argTypes := #[4] }, type := 33, pos := "numbers.go:34", after := #[{ on := 5, ground := Ground.data }, { on := 5, ground := Ground.chain }], guard := none }, { dst := none, op := Op.store 33 (Operand.tmp 6) (Operand.tmp 14), type := 0, pos := "numbers.go:34", after := #[{ on := 6, ground := Ground.data }, { on := 6, ground := Ground.chain }, { on := 0, ground := Ground.phase }, { on := 1, ground := Ground.phase }, { on := 2, ground := Ground.phase }, { on := 3, ground := Ground.phase }, { on := 4, ground := Ground.phase }, { on := 5, ground := Ground.phase }, { on := 6, ground := Ground.phase }], guard := none }, { dst := some 7, op := Op.assign (Operand.const (Value.int IntKind.i64 0)), type := 28, pos := "numbers.go:34", after := #[{ on := 7, ground := Ground.chain }, { on := 0, ground := Ground.phase }, { on := 1, ground := Ground.phase }, { on := 2, ground := Ground.phase }, { on := 3, ground := Ground.phase }, { on := 4, ground := Ground.phase }, { on := 5, ground := Ground.phase }, { on := 6, ground := Ground.phase }, { on := 7, ground := Ground.phase }], guard := none }] true).wp Tryz.prog Q { tmps := #[.agg #[.bool bx, .slice a1 xn.length c1, .slice a2 xd.length c2], .agg #[.bool cy, .slice a3 yn.length c3, .slice a4 yd.length c4], .pointer (some ⟨bh, 0, none⟩), .pointer (some ⟨b0, 0, none⟩), .pointer (some ⟨w.heap.size, 0, none⟩), .pointer (some ⟨w.heap.size + 1, 0, none⟩), .pointer (some ⟨w.heap.size + 1 + 1, 0, none⟩), t7, t8, t9, t10, t11, t12, t13, t14], defers := [] } v := by
 have d1 : Below v.heap.size v v.drew := ⟨rfl, rfl, rfl, Nat.le_refl _, fun _ _ => rfl⟩
 have j0 := HC.out d1
 refine wp_region_held_drew (S := (fun w' => w'.cell? ⟨bh, 0, none⟩ = some (.func (.func kf) #[] #[]) ∧ w'.cell? ⟨b0, 0, none⟩ = some (.bool bt) ∧ w'.cell? ⟨b0, 1, none⟩ = some (.slice a5 tn.length c5) ∧ w'.cell? ⟨b0, 2, none⟩ = some (.slice a6 td.length c6) ∧ w'.cell? ⟨w.heap.size, 0, none⟩ = some (.bool bx) ∧ w'.cell? ⟨w.heap.size, 1, none⟩ = some (.slice a1 xn.length c1) ∧ w'.cell? ⟨w.heap.size, 2, none⟩ = some (.slice a2 xd.length c2) ∧ w'.cell? ⟨w.heap.size + 1, 0, none⟩ = some (.bool cy) ∧ w'.cell? ⟨w.heap.size + 1, 1, none⟩ = some (.slice a3 yn.length c3) ∧ w'.cell? ⟨w.heap.size + 1, 2, none⟩ = some (.slice a4 yd.length c4))) (by kernel_rfl) j0 (fun hS => ?_)
 refine wpAnyH_take (i := 0) (oi := { dst := some 8, op := Op.load 109 (Operand.tmp 2), type := 109, pos := "numbers.go:34", after := #[], guard := none }) (v := .func (.func kf) #[] #[]) rfl (by kernel_rfl) (by kernel_rfl) (by kernel_rfl) (fun _ _ _ h => hP _ _ _ _ _ h) (Or.inl ⟨by rfl, (by intro w hSw; (try dsimp only at hSw); go_simp)⟩) (by assumption) ?_
 simp only [Act.put, List.setIfInBounds_toArray, List.set_cons_zero, List.set_cons_succ]
 refine wpAnyH_take (i := 1) (oi := { dst := some 9, op := Op.load 33 (Operand.tmp 3), type := 33, pos := "numbers.go:34", after := #[], guard := none }) (v := .agg #[.bool bt, .slice a5 tn.length c5, .slice a6 td.length c6]) rfl (by kernel_rfl) (by kernel_rfl) (by kernel_rfl) (fun _ _ _ h => hP _ _ _ _ _ h) (Or.inl ⟨by rfl, (by intro w hSw; (try dsimp only at hSw); go_simp)⟩) (by assumption) ?_
 simp only [Act.put, List.setIfInBounds_toArray, List.set_cons_zero, List.set_cons_succ]
 refine wpAnyH_take (i := 2) (oi := { dst := some 10, op := Op.load 33 (Operand.tmp 4), type := 33, pos := "numbers.go:34", after := #[], guard := none }) (v := .agg #[.bool bx, .slice a1 xn.length c1, .slice a2 xd.length c2]) rfl (by kernel_rfl) (by kernel_rfl) (by kernel_rfl) (fun _ _ _ h => hP _ _ _ _ _ h) (Or.inl ⟨by rfl, (by intro w hSw; (try dsimp only at hSw); go_simp)⟩) (by assumption) ?_
 simp only [Act.put, List.setIfInBounds_toArray, List.set_cons_zero, List.set_cons_succ]
 refine wpAnyH_take (i := 3) (oi := { dst := some 11, op := Op.load 33 (Operand.tmp 5), type := 33, pos := "numbers.go:34", after := #[], guard := none }) (v := .agg #[.bool cy, .slice a3 yn.length c3, .slice a4 yd.length c4]) rfl (by kernel_rfl) (by kernel_rfl) (by kernel_rfl) (fun _ _ _ h => hP _ _ _ _ _ h) (Or.inl ⟨by rfl, (by intro w hSw; (try dsimp only at hSw); go_simp)⟩) (by assumption) ?_
 simp only [Act.put, List.setIfInBounds_toArray, List.set_cons_zero, List.set_cons_succ]
 refine wpAnyH_ready (rs := [4]) (by kernel_rfl) (by simp) ?_
 refine (AllReadyH.cons (o := { dst := some 12, op := Op.call { callee := Callee.value (Operand.func 76), args := #[Operand.tmp 9, Operand.tmp 10, Operand.tmp 11], argTypes := #[33, 33, 33] }, type := 3, pos := "numbers.go:34", after := #[{ on := 1, ground := Ground.data }, { on := 2, ground := Ground.data }, { on := 3, ground := Ground.data }], guard := none }) rfl (fun K hK => ?_) AllReadyH.nil)
 go_simp
 refine K1.out.mono ?_
 rintro e w2 ⟨q2, r, rfl, hT⟩
 have kk2 : Below v.heap.size v w2 := d1.trans (q2.mono d1.size)
 have j2 := HC.out kk2
 go_simp
 refine hK.out _ _ (j2) (fun _ => ?_)
 clear hK K
 refine wpAnyH_ready (rs := [5]) (by kernel_rfl) (by simp) ?_
 refine (AllReadyH.cons (o := { dst := some 13, op := Op.call { callee := Callee.value (Operand.tmp 8), args := #[Operand.tmp 12], argTypes := #[3] }, type := 4, pos := "numbers.go:34", after := #[{ on := 0, ground := Ground.data }, { on := 4, ground := Ground.data }, { on := 4, ground := Ground.chain }], guard := none }) rfl (fun K hK => ?_) AllReadyH.nil)
 go_simp
 rw [HO.out.2, Oper.upon_enter]; refine (HO.out.1 r _).mono ?_
 rintro e w3 ⟨rfl, hw3⟩
 obtain rfl := hw3.symm
 go_simp
 refine hK.out _ _ (j2) (fun _ => ?_)
 clear hK K
 refine wpAnyH_ready (rs := [6]) (by kernel_rfl) (by simp) ?_
 refine (AllReadyH.cons (o := { dst := some 14, op := Op.call { callee := Callee.value (Operand.func 75), args := #[Operand.tmp 13], argTypes := #[4] }, type := 33, pos := "numbers.go:34", after := #[{ on := 5, ground := Ground.data }, { on := 5, ground := Ground.chain }], guard := none }) rfl (fun K hK => ?_) AllReadyH.nil)
 go_simp
 refine (truth_bit _ _).mono ?_
 rintro e w4 ⟨⟨b, z1, ns, u1, z2, ds, u2, rfl, hO1, hO2, hE⟩, q4⟩
 have kk4 : Below v.heap.size v w4 := kk2.trans (q4.mono kk2.size)
 have j4 := HC.out kk4
 have R2 := HRW.out kk4
 have r0 := R2.cell 0 rfl
 have r1 := R2.cell 1 rfl
 have r2 := R2.cell 2 rfl
 have f0 := R2.frozen 0
 have f1 := R2.frozen 1
 have f2 := R2.frozen 2
 have kS : Kp (w.heap.size + 1 + 1) w4 (((w4.setCell ⟨w.heap.size + 1 + 1, 0, none⟩ (.bool b)).setCell ⟨w.heap.size + 1 + 1, 1, none⟩ (.slice z1 ns.length u1)).setCell ⟨w.heap.size + 1 + 1, 2, none⟩ (.slice z2 ds.length u2)) := ((Kp.set _ _ _).trans (Kp.set _ _ _)).trans (Kp.set _ _ _)
 have j5 := And.intro (kS.cell nb j4.1) (And.intro (kS.cell n0 j4.2.1) (And.intro (kS.cell n0 j4.2.2.1) (And.intro (kS.cell n0 j4.2.2.2.1) (And.intro (kS.cell (by omega) j4.2.2.2.2.1) (And.intro (kS.cell (by omega) j4.2.2.2.2.2.1) (And.intro (kS.cell (by omega) j4.2.2.2.2.2.2.1) (And.intro (kS.cell (by omega) j4.2.2.2.2.2.2.2.1) (And.intro (kS.cell (by omega) j4.2.2.2.2.2.2.2.2.1) (kS.cell (by omega) j4.2.2.2.2.2.2.2.2.2)))))))))
 go_simp
 refine hK.out _ _ (j4) (fun _ => ?_)
 clear hK K
 refine wpAnyH_ready (rs := [7]) (by kernel_rfl) (by simp) ?_
 refine (AllReadyH.cons (o := { dst := none, op := Op.store 33 (Operand.tmp 6) (Operand.tmp 14), type := 0, pos := "numbers.go:34", after := #[{ on := 6, ground := Ground.data }, { on := 6, ground := Ground.chain }, { on := 0, ground := Ground.phase }, { on := 1, ground := Ground.phase }, { on := 2, ground := Ground.phase }, { on := 3, ground := Ground.phase }, { on := 4, ground := Ground.phase }, { on := 5, ground := Ground.phase }, { on := 6, ground := Ground.phase }], guard := none }) rfl (fun K hK => ?_) AllReadyH.nil)
 go_simp
 go_simp
 refine hK.out _ _ (j5) (fun _ => ?_)
 clear hK K
 refine wpAnyH_take (i := 8) (oi := { dst := some 7, op := Op.assign (Operand.const (Value.int IntKind.i64 0)), type := 28, pos := "numbers.go:34", after := #[{ on := 7, ground := Ground.chain }, { on := 0, ground := Ground.phase }, { on := 1, ground := Ground.phase }, { on := 2, ground := Ground.phase }, { on := 3, ground := Ground.phase }, { on := 4, ground := Ground.phase }, { on := 5, ground := Ground.phase }, { on := 6, ground := Ground.phase }, { on := 7, ground := Ground.phase }], guard := none }) (v := .int .i64 0) rfl (by kernel_rfl) (by kernel_rfl) (by kernel_rfl) (fun _ _ _ h => hP _ _ _ _ _ h) (Or.inl ⟨by rfl, (by intro w hSw; (try dsimp only at hSw); go_simp)⟩) (by assumption) ?_
 simp only [Act.put, List.setIfInBounds_toArray, List.set_cons_zero, List.set_cons_succ]
 refine wpAnyH_done (by kernel_rfl) ?_ _
 exact hQ r b z1 ns u1 z2 ds u2 w4 (hO1.mono kk2.size) (hO2.mono kk2.size) hE hT kk4
end
section
variable {kf : Nat} {Rb : Int → Bool} {w : World} {bt bx cy : Bool} {a1 a2 a3 a4 a5 a6 : Option Addr} {tn td xn xd yn yd : List Int} {c1 c2 c3 c4 c5 c6 : Nat} {bh b0 : Nat}
set_option maxRecDepth 100000 in
set_option maxHeartbeats 16000000 in
theorem cmpT (HO : Hid (HoldK kf Rb)) (hf : w.cell? ⟨bh, 0, none⟩ = some (.func (.func kf) #[] #[])) (t0 : w.cell? ⟨b0, 0, none⟩ = some (.bool bt)) (t1 : w.cell? ⟨b0, 1, none⟩ = some (.slice a5 tn.length c5)) (t2 : w.cell? ⟨b0, 2, none⟩ = some (.slice a6 td.length c6)) (h1 : Rd w.heap.size w (.slice a5 tn.length c5) tn) (h2 : Rd w.heap.size w (.slice a6 td.length c6) td) (h3 : Rd w.heap.size w (.slice a1 xn.length c1) xn) (h4 : Rd w.heap.size w (.slice a2 xd.length c2) xd) (h5 : Rd w.heap.size w (.slice a3 yn.length c3) yn) (h6 : Rd w.heap.size w (.slice a4 yd.length c4) yd) :
    Calls Tryz.prog 74 #[.agg #[.bool bx, .slice a1 xn.length c1, .slice a2 xd.length c2], .agg #[.bool cy, .slice a3 yn.length c3, .slice a4 yd.length c4], .pointer (some ⟨bh, 0, none⟩), .pointer (some ⟨b0, 0, none⟩)] w fun e w' => (∃ r b z1 ns u1 z2 ds u2, e = .returned (.tuple #[.agg #[.bool b, .slice z1 ns.length u1, .slice z2 ds.length u2], .int .i64 0]) ∧ Own w.heap.size w' (.slice z1 ns.length u1) ns ∧ Own w.heap.size w' (.slice z2 ds.length u2) ds ∧ Hid (numT b ns ds = wholeT (bitI (Rb r))) ∧ Hid (TolIs (RightP bt tn td ∧ RightP bx xn xd ∧ RightP cy yn yd) (WithinI bt (val tn) (val td) (apartI bx (val xn) (val xd) cy (val yn) (val yd)) (val xn) (val xd) (val yn) (val yd)) (sg bx (val xn) * val yd) (sg cy (val yn) * val xd) r)) ∧ Below w.heap.size w w' := by
 have k1 := below_alloc w (.cells #[.bool bx, .slice a1 xn.length c1, .slice a2 xd.length c2] 33)
 have k2 := below_alloc (w.alloc (.cells #[.bool bx, .slice a1 xn.length c1, .slice a2 xd.length c2] 33)) (.cells #[.bool cy, .slice a3 yn.length c3, .slice a4 yd.length c4] 33)
 have k3 := below_alloc ((w.alloc (.cells #[.bool bx, .slice a1 xn.length c1, .slice a2 xd.length c2] 33)).alloc (.cells #[.bool cy, .slice a3 yn.length c3, .slice a4 yd.length c4] 33)) (.cells #[.bool false, .slice none 0 0, .slice none 0 0] 33)
 have k23 : Below (w.alloc (.cells #[.bool bx, .slice a1 xn.length c1, .slice a2 xd.length c2] 33)).heap.size (w.alloc (.cells #[.bool bx, .slice a1 xn.length c1, .slice a2 xd.length c2] 33)) (((w.alloc (.cells #[.bool bx, .slice a1 xn.length c1, .slice a2 xd.length c2] 33)).alloc (.cells #[.bool cy, .slice a3 yn.length c3, .slice a4 yd.length c4] 33)).alloc (.cells #[.bool false, .slice none 0 0, .slice none 0 0] 33)) := k2.trans (k3.mono (by simp))
 have g : Below w.heap.size w (((w.alloc (.cells #[.bool bx, .slice a1 xn.length c1, .slice a2 xd.length c2] 33)).alloc (.cells #[.bool cy, .slice a3 yn.length c3, .slice a4 yd.length c4] 33)).alloc (.cells #[.bool false, .slice none 0 0, .slice none 0 0] 33)) := k1.trans (k23.mono (by simp))
 have Xb := (boxA_new w #[.bool bx, .slice a1 xn.length c1, .slice a2 xd.length c2] 33).below k23 (by simp)
 have Yb := (boxA_new (w.alloc (.cells #[.bool bx, .slice a1 xn.length c1, .slice a2 xd.length c2] 33)) #[.bool cy, .slice a3 yn.length c3, .slice a4 yd.length c4] 33).below k3 (by simp)
 have R := boxA_new ((w.alloc (.cells #[.bool bx, .slice a1 xn.length c1, .slice a2 xd.length c2] 33)).alloc (.cells #[.bool cy, .slice a3 yn.length c3, .slice a4 yd.length c4] 33)) #[.bool false, .slice none 0 0, .slice none 0 0] 33
 rw [World.size_alloc] at Yb
 have sz : ((w.alloc (.cells #[.bool bx, .slice a1 xn.length c1, .slice a2 xd.length c2] 33)).alloc (.cells #[.bool cy, .slice a3 yn.length c3, .slice a4 yd.length c4] 33)).heap.size = w.heap.size + 1 + 1 := by simp
 have sz3 : (((w.alloc (.cells #[.bool bx, .slice a1 xn.length c1, .slice a2 xd.length c2] 33)).alloc (.cells #[.bool cy, .slice a3 yn.length c3, .slice a4 yd.length c4] 33)).alloc (.cells #[.bool false, .slice none 0 0, .slice none 0 0] 33)).heap.size = w.heap.size + 1 + 1 + 1 := by simp
 rw [sz] at R
 have l1 := lt_of_cellT hf
 have l2 := lt_of_cellT t0
 have HCe : Hid (∀ {w' : World}, Below (((w.alloc (.cells #[.bool bx, .slice a1 xn.length c1, .slice a2 xd.length c2] 33)).alloc (.cells #[.bool cy, .slice a3 yn.length c3, .slice a4 yd.length c4] 33)).alloc (.cells #[.bool false, .slice none 0 0, .slice none 0 0] 33)).heap.size (((w.alloc (.cells #[.bool bx, .slice a1 xn.length c1, .slice a2 xd.length c2] 33)).alloc (.cells #[.bool cy, .slice a3 yn.length c3, .slice a4 yd.length c4] 33)).alloc (.cells #[.bool false, .slice none 0 0, .slice none 0 0] 33)) w' → w'.cell? ⟨bh, 0, none⟩ = some (.func (.func kf) #[] #[]) ∧ w'.cell? ⟨b0, 0, none⟩ = some (.bool bt) ∧ w'.cell? ⟨b0, 1, none⟩ = some (.slice a5 tn.length c5) ∧ w'.cell? ⟨b0, 2, none⟩ = some (.slice a6 td.length c6) ∧ w'.cell? ⟨w.heap.size, 0, none⟩ = some (.bool bx) ∧ w'.cell? ⟨w.heap.size, 1, none⟩ = some (.slice a1 xn.length c1) ∧ w'.cell? ⟨w.heap.size, 2, none⟩ = some (.slice a2 xd.length c2) ∧ w'.cell? ⟨w.heap.size + 1, 0, none⟩ = some (.bool cy) ∧ w'.cell? ⟨w.heap.size + 1, 1, none⟩ = some (.slice a3 yn.length c3) ∧ w'.cell? ⟨w.heap.size + 1, 2, none⟩ = some (.slice a4 yd.length c4)) := fun k => ⟨((g.trans (k.mono (by omega))).cell (p := ⟨bh, 0, none⟩) l1).trans hf, ((g.trans (k.mono (by omega))).cell (p := ⟨b0, 0, none⟩) l2).trans t0, ((g.trans (k.mono (by omega))).cell (p := ⟨b0, 1, none⟩) l2).trans t1, ((g.trans (k.mono (by omega))).cell (p := ⟨b0, 2, none⟩) l2).trans t2, (Xb.below k (by omega)).cell 0 rfl, (Xb.below k (by omega)).cell 1 rfl, (Xb.below k (by omega)).cell 2 rfl, (Yb.below k (by omega)).cell 0 rfl, (Yb.below k (by omega)).cell 1 rfl, (Yb.below k (by omega)).cell 2 rfl⟩
 have HR : Hid (Rd w.heap.size w (.slice a5 tn.length c5) tn ∧ Rd w.heap.size w (.slice a6 td.length c6) td ∧ Rd w.heap.size w (.slice a1 xn.length c1) xn ∧ Rd w.heap.size w (.slice a2 xd.length c2) xd ∧ Rd w.heap.size w (.slice a3 yn.length c3) yn ∧ Rd w.heap.size w (.slice a4 yd.length c4) yd) := ⟨h1, h2, h3, h4, h5, h6⟩
 clear h1 h2 h3 h4 h5 h6 hf t0 t1 t2 k1 k2 k3 k23
 go_enter Tryz.func74, Tryz.ntmps74
 go_upto_region 1 with fail
 generalize hA : ((w.alloc (.cells #[.bool bx, .slice a1 xn.length c1, .slice a2 xd.length c2] 33)).alloc (.cells #[.bool cy, .slice a3 yn.length c3, .slice a4 yd.length c4] 33)).alloc (.cells #[.bool false, .slice none 0 0, .slice none 0 0] 33) = v at *
 clear hA
 have d1 : Below v.heap.size v v.drew := ⟨rfl, rfl, rfl, Nat.le_refl _, fun _ _ => rfl⟩
 obtain ⟨e0, e1, e2, e3, e4, e5, e6, e7, e8, e9⟩ := HCe.out d1
 obtain ⟨e0', e1', e2', e3', e4', e5', e6', e7', e8', e9'⟩ := HCe.out (Below.refl _ v)
 have HRW : Hid (∀ {w' : World}, Below v.heap.size v w' → BoxA w' (w.heap.size + 1 + 1) 33 #[.bool false, .slice none 0 0, .slice none 0 0]) := fun k => R.below k (by omega)
 have gd : Below w.heap.size w v.drew := g.trans (d1.mono g.size)
 have sg' : w.heap.size ≤ v.drew.heap.size := gd.size
 have K1 : Hid (Calls Tryz.prog 76 #[.agg #[.bool bt, .slice a5 tn.length c5, .slice a6 td.length c6], .agg #[.bool bx, .slice a1 xn.length c1, .slice a2 xd.length c2], .agg #[.bool cy, .slice a3 yn.length c3, .slice a4 yd.length c4]] v.drew fun e w' => Below v.drew.heap.size v.drew w' ∧ Tols (RightP bt tn td ∧ RightP bx xn xd ∧ RightP cy yn yd) (WithinI bt (val tn) (val td) (apartI bx (val xn) (val xd) cy (val yn) (val yd)) (val xn) (val xd) (val yn) (val yd)) (sg bx (val xn) * val yd) (sg cy (val yn) * val xd) e) := tolerant_rat ((HR.out.1.below gd).mono sg') ((HR.out.2.1.below gd).mono sg') ((HR.out.2.2.1.below gd).mono sg') ((HR.out.2.2.2.1.below gd).mono sg') ((HR.out.2.2.2.2.1.below gd).mono sg') ((HR.out.2.2.2.2.2.below gd).mono sg')
 refine wp_region_noPanic ?_
 have HJ : Hid (Rd w.heap.size w (.slice a5 tn.length c5) tn) := HR.out.1
 refine cmpregT (w := w) (v := v) (bh := bh) (b0 := b0) (bt := bt) (bx := bx) (cy := cy) (a1 := a1) (a2 := a2) (a3 := a3) (a4 := a4) (a5 := a5) (a6 := a6) (tn := tn) (td := td) (xn := xn) (xd := xd) (yn := yn) (yd := yd) (c1 := c1) (c2 := c2) (c3 := c3) (c4 := c4) (c5 := c5) (c6 := c6) HO HCe HRW K1 (by omega) (by omega) ?hq (fun _ _ _ _ _ h => h)
 intro r b z1 ns u1 z2 ds u2 w4 hO1 hO2 hE hT kk4
 refine NoPanic.normal ?_
 simp only [Exit.then]
 have R2 := HRW.out kk4
 have R3 := ((R2.put 0 (.bool b)).put 1 (.slice z1 ns.length u1)).put 2 (.slice z2 ds.length u2)
 have y0 := R3.cell 0 rfl
 have y1 := R3.cell 1 rfl
 have y2 := R3.cell 2 rfl
 go_wp2
 refine bodyPost_ret (v := .tuple #[.agg #[.bool b, .slice z1 ns.length u1, .slice z2 ds.length u2], .int .i64 0]) (by simp [results, Tryz.results74, go_sem, y0, y1, y2]) rfl ?_
 exact ⟨⟨r, b, z1, ns, u1, z2, ds, u2, rfl, (hO1.out.set3 (by omega) _ _ _).mono (by omega), (hO2.out.set3 (by omega) _ _ _).mono (by omega), hE, hT⟩, Below.set3 (g.trans (kk4.mono g.size)) (by omega) _ _ _⟩
end
end Go.Proofs.YtmijanocljmaeaaGreat

/- = and ≠ as functions of two numbers, without tolerance. -/
namespace Go.Proofs.YtmijanocljmaeaaGreat
set_option linter.unusedVariables false
set_option linter.unusedSimpArgs false
open Go.RowKit

/-- Are two numbers the same? -/
def eqN (x y : Tr) : Bool := decide (sg x.b (val x.ns) * val y.ds = sg y.b (val y.ns) * val x.ds)
def eqD : Dy := ⟨61, fun _ _ => false, fun x y => (0, wholeT (bitI (eqN x y)))⟩
def neD : Dy := ⟨8800, fun _ _ => false, fun x y => (0, wholeT (bitI (!eqN x y)))⟩
theorem one_right9 : RightP false [] [(1 : Int)] := ⟨by simp, by simp, can_nil, can_one, by simp, by simp, by rw [one_val]; exact gI_one_right _⟩
theorem tol_zero {bx cy : Bool} {xn xd yn yd : List Int} {r : Int} (rx : RightP bx xn xd) (ry : RightP cy yn yd) (h : TolIs (RightP false [] [1] ∧ RightP bx xn xd ∧ RightP cy yn yd) (WithinI false (val []) (val [1]) (apartI bx (val xn) (val xd) cy (val yn) (val yd)) (val xn) (val xd) (val yn) (val yd)) (sg bx (val xn) * val yd) (sg cy (val yn) * val xd) r) : decide (r = 0) = eqN (numT bx xn xd) (numT cy yn yd) := by
 have p1 := den_pos rx
 have p2 := den_pos ry
 have hP : RightP false [] [1] ∧ RightP bx xn xd ∧ RightP cy yn yd := ⟨one_right9, rx, ry⟩
 have hv1 : val ([1] : List Int) = 1 := one_val
 have hv0 : val ([] : List Int) = 0 := rfl
 have hW : WithinI false (val []) (val [1]) (apartI bx (val xn) (val xd) cy (val yn) (val yd)) (val xn) (val xd) (val yn) (val yd) ↔ sg bx (val xn) * val yd = sg cy (val yn) * val xd := by
  unfold WithinI apartI
  rw [hv0, hv1]
  generalize sg bx (val xn) * val yd = a
  generalize sg cy (val yn) * val xd = b
  generalize hm : (if val xn * val yd < val yn * val xd then val yd else val xd) = m
  have hmp : 0 < m := by rw [← hm]; split <;> assumption
  constructor
  · rintro (⟨h, _⟩ | ⟨_, h⟩)
    · cases h
    · simp only [Int.mul_one, Int.zero_mul] at h
      by_cases hz : a = b
      · exact hz
      · exfalso
        have h1 : 0 < ((a - b).natAbs : Int) := by omega
        have := Int.mul_pos h1 hmp
        omega
  · intro h
    refine Or.inr ⟨rfl, ?_⟩
    rw [h]
    simp
 unfold eqN
 show decide (r = 0) = decide (sg bx (val xn) * val yd = sg cy (val yn) * val xd)
 by_cases hE : sg bx (val xn) * val yd = sg cy (val yn) * val xd
 · rw [h.2.1 hP (hW.2 hE), decide_eq_true hE, decide_eq_true rfl]
 · have hr := h.2.2 hP (fun hw => hE (hW.1 hw))
   rw [decide_eq_false hE, decide_eq_false ?_]
   rw [hr]
   rcases Int.lt_trichotomy (sg bx (val xn) * val yd) (sg cy (val yn) * val xd) with hl | hl | hl
   · rw [cmpI_lt hl]; decide
   · exact absurd hl hE
   · rw [cmpI_gt hl]; decide
theorem rd_kp {B p : Nat} {w w' : World} {v : Value} {xs : List Int} (h : Rd B w v xs) (k : Kp p w w') (hB : B ≤ w.heap.size) (hp : B ≤ p) : Rd w'.heap.size w' v xs := by
 obtain ⟨h0, a, cap, rfl, h1, h2, h3, h4⟩ := h
 refine ⟨h0, a, cap, rfl, h1, h2, h3, ?_⟩
 rcases h4 with h4 | ⟨b, off, rfl, hlt, hc⟩
 · exact Or.inl h4
 · exact Or.inr ⟨b, off, rfl, by have := k.size; omega, fun j hj => k.cell (by omega) (hc j hj)⟩
/-- A comparison that lies in the table, by the place of what holds. -/
theorem doOK_cmp {d : Dy} {kf o : Nat} {Rb : Int → Bool} (hH : HoldK kf Rb) (hop : ∀ bx xn xd cy yn yd (r : Int), RightP bx xn xd → RightP cy yn yd → decide (r = 0) = eqN (numT bx xn xd) (numT cy yn yd) → d.op (numT bx xn xd) (numT cy yn yd) = (0, wholeT (bitI (Rb r))))
    {w : World} {e1 e2 : Option Addr} {f1 f2 : Nat} (hn : Rd w.heap.size w (.slice e1 ([] : List Int).length f1) []) (hd : Rd w.heap.size w (.slice e2 ([1] : List Int).length f2) [1]) {b0 p : Nat} {u v : World} (hu : Below w.heap.size w u) (hb : b0 + o < u.heap.size) (hcf : u.cell? ⟨b0 + o, 0, none⟩ = some (.func (.func kf) #[] #[])) (hc0 : u.cell? ⟨b0, 0, none⟩ = some (.bool false)) (hc1 : u.cell? ⟨b0, 1, none⟩ = some (.slice e1 0 f1)) (hc2 : u.cell? ⟨b0, 2, none⟩ = some (.slice e2 1 f2)) (hv : Below u.heap.size u v) (hp : u.heap.size ≤ p) : DoOK d 74 #[.pointer (some ⟨b0 + o, 0, none⟩), .pointer (some ⟨b0, 0, none⟩)] p v := by
 refine ⟨?_, enterB Tryz.func74 (by kernel_rfl) (by kernel_rfl)⟩
 intro x kx bx cy a1 a2 a3 a4 xn xd yn yd c1 c2 c3 c4 rx ry h1 h2 h3 h4
 have cell : ∀ g o' q, g < u.heap.size → u.cell? ⟨g, o', none⟩ = some q → x.cell? ⟨g, o', none⟩ = some q := fun g o' q hg hq => kx.cell (by omega) ((hv.cell (p := ⟨g, o', none⟩) hg).trans hq)
 have su := hu.size
 have sv := hv.size
 have hn' := rd_kp ((hn.below (hu.trans (hv.mono su))).mono (Nat.le_refl _)) kx (by omega) (by omega)
 have hd' := rd_kp ((hd.below (hu.trans (hv.mono su))).mono (Nat.le_refl _)) kx (by omega) (by omega)
 refine (cmpT (tn := []) (td := [1]) hH (cell _ _ _ hb hcf) (cell _ _ _ (by omega) hc0) (cell _ _ _ (by omega) hc1) (cell _ _ _ (by omega) hc2) hn' hd' h1 h2 h3 h4).mono ?_
 rintro e w' ⟨⟨r, b, z1, ns, u1, z2, ds, u2, rfl, o1, o2, hE, hT⟩, hB⟩
 refine ⟨?_, hB⟩
 rw [hop bx xn xd cy yn yd r rx ry (tol_zero rx ry hT.out)]
 exact ⟨b, z1, ns, u1, z2, ds, u2, rfl, o1, o2, fun _ => hE.out⟩
end Go.Proofs.YtmijanocljmaeaaGreat
