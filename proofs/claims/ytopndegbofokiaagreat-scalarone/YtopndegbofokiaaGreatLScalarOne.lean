/- Comparisons: a 1 or a 0. -/
import Derived.Test.YtopndegbofokiaaGreatKS4
import Derived.Test.YtopndegbofokiaaGreatKT
import Derived.Test.YtopndegbofokiaaGreatKS5
import Derived.Test.YtopndegbofokiaaGreatJ6
namespace Go.Proofs.YtopndegbofokiaaGreat
set_option linter.unusedVariables false
set_option linter.unusedSimpArgs false
open Go.RowKit

theorem whole_len {h : Bool} {b : Bool} {ns ds : List Int} (hw : WholeIs (if h then 1 else 0) b ns ds) : ns.length = if h then 1 else 0 := by
  have h1 := wholeIs_eq (by split <;> omega) (by split <;> omega) hw
  have e : ns = (numT b ns ds).ns := rfl
  rw [e, h1]
  cases h <;> rfl
/-- A 1 or a 0, by its length. -/
def BitR (h : Bool) (e : Ending) : Prop := ∃ b z1 ns u1 z2 ds u2, e = .returned (.agg #[.bool b, .slice z1 ns.length u1, .slice z2 ds.length u2]) ∧ Hid ((ns : List Int).length = if h then 1 else 0) ∧ Hid ((ds : List Int).length = 1)
set_option maxRecDepth 100000 in
set_option maxHeartbeats 16000000 in
theorem truth_any (h : Bool) (w : World) : Calls Tryz.prog 108 #[.bool h] w fun e w' => BitR h e ∧ Below w.heap.size w w' := by
  have R := boxA_new w #[.bool false, .slice none 0 0, .slice none 0 0] 24
  have g := below_alloc w (.cells #[.bool false, .slice none 0 0, .slice none 0 0] 24)
  have lR := R.lt
  cases h
  all_goals
    go_enter Tryz.func108, Tryz.ntmps108
    go_wp2_with fail
    generalize hA : w.alloc (.cells #[.bool false, .slice none 0 0, .slice none 0 0] 24) = v at *
    clear hA
    refine (ofInt_any _ (by omega) (by omega) v).mono ?_
    rintro e w1 ⟨k1, b, ns, ds, z1, u1, z2, u2, hw, rfl, ho1, ho2⟩
    have R1 := R.below k1 lR
    have r0 := R1.cell 0 rfl
    have r1 := R1.cell 1 rfl
    have r2 := R1.cell 2 rfl
    have f0 := R1.frozen 0
    have f1 := R1.frozen 1
    have f2 := R1.frozen 2
    have R3 := ((R1.put 0 (.bool b)).put 1 (.slice z1 ns.length u1)).put 2 (.slice z2 ds.length u2)
    have q0 := R3.cell 0 rfl
    have q1 := R3.cell 1 rfl
    have q2 := R3.cell 2 rfl
    go_wp2
    refine bodyPost_ret (v := .agg #[.bool b, .slice z1 ns.length u1, .slice z2 ds.length u2]) (by simp [results, Tryz.results108, go_sem, q0, q1, q2]) rfl ?_
    exact ⟨⟨b, z1, ns, u1, z2, ds, u2, rfl, whole_len (by simpa using hw.out), by have := hw.out.2.2.2.2; unfold Hid; rw [this]; rfl⟩, Below.set3 (g.trans (k1.mono g.size)) (Nat.le_refl _) _ _ _⟩
theorem enterK {f : FuncId} {fn : Func} (hf : Tryz.prog.funcs[f]? = some fn) (hn : (fn.name == "runtime.NumGoroutine") = false) (hb : fn.body.isNone = false) (args : Array Value) (w : World) : Sem.run Tryz.prog (callFunc f args) w = .ok (.enter f args) w := by
  have h1 : fn.name ≠ "runtime.NumGoroutine" := by simpa using hn
  have h2 : fn.body ≠ none := fun h => by rw [h] at hb; cases hb
  simp [callFunc, hf, h1, h2]
/-- What a comparison of an int with 0 tells. -/
def HoldK (kf : Nat) (Rb : Int → Bool) : Prop := (∀ r w, Calls Tryz.prog kf #[.int .i64 r] w fun e w' => e = .returned (.bool (Rb r)) ∧ w' = w) ∧ ∀ args w, Sem.run Tryz.prog (callFunc kf args) w = .ok (.enter kf args) w
set_option maxRecDepth 100000 in
set_option maxHeartbeats 16000000 in
theorem hold_4 (r : Int) (w : World) : Calls Tryz.prog 121 #[.int .i64 r] w fun e w' => e = .returned (.bool (decide (r < 0))) ∧ w' = w := by
  go_enter Tryz.func121, Tryz.ntmps121
  go_wp2
  go_ret
  exact ⟨by first | (by_cases h : r = 0 <;> simp [h]; done) | (simp <;> omega), rfl⟩
theorem holdK_4 : HoldK 121 (fun r => decide (r < 0)) := ⟨hold_4, enterK Tryz.func121 (by kernel_rfl) (by kernel_rfl)⟩
set_option maxRecDepth 100000 in
set_option maxHeartbeats 16000000 in
theorem hold_5 (r : Int) (w : World) : Calls Tryz.prog 122 #[.int .i64 r] w fun e w' => e = .returned (.bool (decide (r ≤ 0))) ∧ w' = w := by
  go_enter Tryz.func122, Tryz.ntmps122
  go_wp2
  go_ret
  exact ⟨by first | (by_cases h : r = 0 <;> simp [h]; done) | (simp <;> omega), rfl⟩
theorem holdK_5 : HoldK 122 (fun r => decide (r ≤ 0)) := ⟨hold_5, enterK Tryz.func122 (by kernel_rfl) (by kernel_rfl)⟩
set_option maxRecDepth 100000 in
set_option maxHeartbeats 16000000 in
theorem hold_6 (r : Int) (w : World) : Calls Tryz.prog 123 #[.int .i64 r] w fun e w' => e = .returned (.bool (decide (r = 0))) ∧ w' = w := by
  go_enter Tryz.func123, Tryz.ntmps123
  go_wp2
  go_ret
  exact ⟨by first | (by_cases h : r = 0 <;> simp [h]; done) | (simp <;> omega), rfl⟩
theorem holdK_6 : HoldK 123 (fun r => decide (r = 0)) := ⟨hold_6, enterK Tryz.func123 (by kernel_rfl) (by kernel_rfl)⟩
set_option maxRecDepth 100000 in
set_option maxHeartbeats 16000000 in
theorem hold_7 (r : Int) (w : World) : Calls Tryz.prog 124 #[.int .i64 r] w fun e w' => e = .returned (.bool (decide (0 ≤ r))) ∧ w' = w := by
  go_enter Tryz.func124, Tryz.ntmps124
  go_wp2
  go_ret
  exact ⟨by first | (by_cases h : r = 0 <;> simp [h]; done) | (simp <;> omega), rfl⟩
theorem holdK_7 : HoldK 124 (fun r => decide (0 ≤ r)) := ⟨hold_7, enterK Tryz.func124 (by kernel_rfl) (by kernel_rfl)⟩
set_option maxRecDepth 100000 in
set_option maxHeartbeats 16000000 in
theorem hold_8 (r : Int) (w : World) : Calls Tryz.prog 125 #[.int .i64 r] w fun e w' => e = .returned (.bool (decide (0 < r))) ∧ w' = w := by
  go_enter Tryz.func125, Tryz.ntmps125
  go_wp2
  go_ret
  exact ⟨by first | (by_cases h : r = 0 <;> simp [h]; done) | (simp <;> omega), rfl⟩
theorem holdK_8 : HoldK 125 (fun r => decide (0 < r)) := ⟨hold_8, enterK Tryz.func125 (by kernel_rfl) (by kernel_rfl)⟩
set_option maxRecDepth 100000 in
set_option maxHeartbeats 16000000 in
theorem hold_9 (r : Int) (w : World) : Calls Tryz.prog 126 #[.int .i64 r] w fun e w' => e = .returned (.bool (!decide (r = 0))) ∧ w' = w := by
  go_enter Tryz.func126, Tryz.ntmps126
  go_wp2
  go_ret
  exact ⟨by first | (by_cases h : r = 0 <;> simp [h]; done) | (simp <;> omega), rfl⟩
theorem holdK_9 : HoldK 126 (fun r => !decide (r = 0)) := ⟨hold_9, enterK Tryz.func126 (by kernel_rfl) (by kernel_rfl)⟩
end Go.Proofs.YtopndegbofokiaaGreat

/- A comparison of two numbers, whichever. -/
namespace Go.Proofs.YtopndegbofokiaaGreat
set_option linter.unusedVariables false
set_option linter.unusedSimpArgs false
open Go.RowKit

section
variable {kf : Nat} {Rb : Int → Bool} {w : World} {bt bx cy : Bool} {a1 a2 a3 a4 a5 a6 : Option Addr} {tn td xn xd yn yd : List Int} {c1 c2 c3 c4 c5 c6 : Nat} {v : World} {bh b0 : Nat}
set_option maxRecDepth 100000 in
set_option maxHeartbeats 16000000 in
theorem cmpregG {Q : Exit → Act → World → Prop} {t7 t8 t9 t10 t11 t12 t13 t14 : Value} (HO : Hid (HoldK kf Rb)) (HC : Hid (∀ {w' : World}, Below v.heap.size v w' → w'.cell? ⟨bh, 0, none⟩ = some (.func (.func kf) #[] #[]) ∧ w'.cell? ⟨b0, 0, none⟩ = some (.bool bt) ∧ w'.cell? ⟨b0, 1, none⟩ = some (.slice a5 tn.length c5) ∧ w'.cell? ⟨b0, 2, none⟩ = some (.slice a6 td.length c6) ∧ w'.cell? ⟨w.heap.size, 0, none⟩ = some (.bool bx) ∧ w'.cell? ⟨w.heap.size, 1, none⟩ = some (.slice a1 xn.length c1) ∧ w'.cell? ⟨w.heap.size, 2, none⟩ = some (.slice a2 xd.length c2) ∧ w'.cell? ⟨w.heap.size + 1, 0, none⟩ = some (.bool cy) ∧ w'.cell? ⟨w.heap.size + 1, 1, none⟩ = some (.slice a3 yn.length c3) ∧ w'.cell? ⟨w.heap.size + 1, 2, none⟩ = some (.slice a4 yd.length c4))) (HRW : Hid (∀ {w' : World}, Below v.heap.size v w' → BoxA w' (w.heap.size + 1 + 1) 24 #[.bool false, .slice none 0 0, .slice none 0 0]))
    (K1 : Hid (Calls Tryz.prog 109 #[.agg #[.bool bt, .slice a5 tn.length c5, .slice a6 td.length c6], .agg #[.bool bx, .slice a1 xn.length c1, .slice a2 xd.length c2], .agg #[.bool cy, .slice a3 yn.length c3, .slice a4 yd.length c4]] v.drew fun e w' => Below v.drew.heap.size v.drew w' ∧ Tols (RightP bt tn td ∧ RightP bx xn xd ∧ RightP cy yn yd) (WithinI bt (val tn) (val td) (apartI bx (val xn) (val xd) cy (val yn) (val yd)) (val xn) (val xd) (val yn) (val yd)) (sg bx (val xn) * val yd) (sg cy (val yn) * val xd) e)) (nb : bh ≠ w.heap.size + 1 + 1) (n0 : b0 ≠ w.heap.size + 1 + 1)
    (hQ : ∀ r b z1 ns u1 z2 ds u2 w4, Hid ((ns : List Int).length = if Rb r then 1 else 0) → Hid ((ds : List Int).length = 1) → Hid (TolIs (RightP bt tn td ∧ RightP bx xn xd ∧ RightP cy yn yd) (WithinI bt (val tn) (val td) (apartI bx (val xn) (val xd) cy (val yn) (val yd)) (val xn) (val xd) (val yn) (val yd)) (sg bx (val xn) * val yd) (sg cy (val yn) * val xd) r) → Below v.heap.size v w4 → Q .normal { tmps := #[.agg #[.bool bx, .slice a1 xn.length c1, .slice a2 xd.length c2], .agg #[.bool cy, .slice a3 yn.length c3, .slice a4 yd.length c4], .pointer (some ⟨bh, 0, none⟩), .pointer (some ⟨b0, 0, none⟩), .pointer (some ⟨w.heap.size, 0, none⟩), .pointer (some ⟨w.heap.size + 1, 0, none⟩), .pointer (some ⟨w.heap.size + 1 + 1, 0, none⟩), .int .i64 0, .func (.func kf) #[] #[], .agg #[.bool bt, .slice a5 tn.length c5, .slice a6 td.length c6], .agg #[.bool bx, .slice a1 xn.length c1, .slice a2 xd.length c2], .agg #[.bool cy, .slice a3 yn.length c3, .slice a4 yd.length c4], .int .i64 r, .bool (Rb r), .agg #[.bool b, .slice z1 ns.length u1, .slice z2 ds.length u2]], defers := [] } (((w4.setCell ⟨w.heap.size + 1 + 1, 0, none⟩ (.bool b)).setCell ⟨w.heap.size + 1 + 1, 1, none⟩ (.slice z1 ns.length u1)).setCell ⟨w.heap.size + 1 + 1, 2, none⟩ (.slice z2 ds.length u2))) (hP : ∀ c a d x w, Q (.panic c) (Act.put a d x) w → Q (.panic c) a w) :
    (Code.region 1 #[{ dst := some 8, op := Op.load 120 (Operand.tmp 2), type := 120, pos := "numbers.go:34", after := #[], guard := none }, { dst := some 9, op := Op.load 24 (Operand.tmp 3), type := 24, pos := "numbers.go:34", after := #[], guard := none }, { dst := some 10, op := Op.load 24 (Operand.tmp 4), type := 24, pos := "numbers.go:34", after := #[], guard := none }, { dst := some 11, op := Op.load 24 (Operand.tmp 5), type := 24, pos := "numbers.go:34", after := #[], guard := none }, { dst := some 12, op := Op.call { callee := Callee.value (Operand.func 109), args := #[Operand.tmp 9, Operand.tmp 10, Operand.tmp 11], argTypes := #[24, 24, 24] }, type := 3, pos := "numbers.go:34", after := #[{ on := 1, ground := Ground.data }, { on := 2, ground := Ground.data }, { on := 3, ground := Ground.data }], guard := none }, { dst := some 13, op := Op.call { callee := Callee.value (Operand.tmp 8), args := #[Operand.tmp 12], argTypes := #[3] }, type := 4, pos := "numbers.go:34", after := #[{ on := 0, ground := Ground.data }, { on := 4, ground := Ground.data }, { on := 4, ground := Ground.chain }], guard := none }, { dst := some 14, op := Op.call { callee := Callee.value (Operand.func 108), args := #[Operand.tmp 13], argTypes := #[4] }, type := 24, pos := "numbers.go:34", after := #[{ on := 5, ground := Ground.data }, { on := 5, ground := Ground.chain }], guard := none }, { dst := none, op := Op.store 24 (Operand.tmp 6) (Operand.tmp 14), type := 0, pos := "numbers.go:34", after := #[{ on := 6, ground := Ground.data }, { on := 6, ground := Ground.chain }, { on := 0, ground := Ground.phase }, { on := 1, ground := Ground.phase }, { on := 2, ground := Ground.phase }, { on := 3, ground := Ground.phase }, { on := 4, ground := Ground.phase }, { on := 5, ground := Ground.phase }, { on := 6, ground := Ground.phase }], guard := none }, { dst := some 7, op := Op.assign (Operand.const (Value.int IntKind.i64 0)), type := 28, pos := "numbers.go:34", after := #[{ on := 7, ground := Ground.chain }, { on := 0, ground := Ground.phase }, { on := 1, ground := Ground.phase }, { on := 2, ground := Ground.phase }, { on := 3, ground := Ground.phase }, { on := 4, ground := Ground.phase }, { on := 5, ground := Ground.phase }, { on := 6, ground := Ground.phase }, { on := 7, ground := Ground.phase }], guard := none }] true).wp Tryz.prog Q { tmps := #[.agg #[.bool bx, .slice a1 xn.length c1, .slice a2 xd.length c2], .agg #[.bool cy, .slice a3 yn.length c3, .slice a4 yd.length c4], .pointer (some ⟨bh, 0, none⟩), .pointer (some ⟨b0, 0, none⟩), .pointer (some ⟨w.heap.size, 0, none⟩), .pointer (some ⟨w.heap.size + 1, 0, none⟩), .pointer (some ⟨w.heap.size + 1 + 1, 0, none⟩), t7, t8, t9, t10, t11, t12, t13, t14], defers := [] } v := by
  have d1 : Below v.heap.size v v.drew := ⟨rfl, rfl, rfl, Nat.le_refl _, fun _ _ => rfl⟩
  have j0 := HC.out d1
  refine wp_region_held_drew (S := (fun w' => w'.cell? ⟨bh, 0, none⟩ = some (.func (.func kf) #[] #[]) ∧ w'.cell? ⟨b0, 0, none⟩ = some (.bool bt) ∧ w'.cell? ⟨b0, 1, none⟩ = some (.slice a5 tn.length c5) ∧ w'.cell? ⟨b0, 2, none⟩ = some (.slice a6 td.length c6) ∧ w'.cell? ⟨w.heap.size, 0, none⟩ = some (.bool bx) ∧ w'.cell? ⟨w.heap.size, 1, none⟩ = some (.slice a1 xn.length c1) ∧ w'.cell? ⟨w.heap.size, 2, none⟩ = some (.slice a2 xd.length c2) ∧ w'.cell? ⟨w.heap.size + 1, 0, none⟩ = some (.bool cy) ∧ w'.cell? ⟨w.heap.size + 1, 1, none⟩ = some (.slice a3 yn.length c3) ∧ w'.cell? ⟨w.heap.size + 1, 2, none⟩ = some (.slice a4 yd.length c4))) (by kernel_rfl) j0 (fun hS => ?_)
  refine wpAnyH_take (i := 0) (oi := { dst := some 8, op := Op.load 120 (Operand.tmp 2), type := 120, pos := "numbers.go:34", after := #[], guard := none }) (v := .func (.func kf) #[] #[]) rfl (by kernel_rfl) (by kernel_rfl) (by kernel_rfl) (fun _ _ _ h => hP _ _ _ _ _ h) (Or.inl ⟨by rfl, (by intro w hSw; (try dsimp only at hSw); go_simp)⟩) (by assumption) ?_
  simp only [Act.put, List.setIfInBounds_toArray, List.set_cons_zero, List.set_cons_succ]
  refine wpAnyH_take (i := 1) (oi := { dst := some 9, op := Op.load 24 (Operand.tmp 3), type := 24, pos := "numbers.go:34", after := #[], guard := none }) (v := .agg #[.bool bt, .slice a5 tn.length c5, .slice a6 td.length c6]) rfl (by kernel_rfl) (by kernel_rfl) (by kernel_rfl) (fun _ _ _ h => hP _ _ _ _ _ h) (Or.inl ⟨by rfl, (by intro w hSw; (try dsimp only at hSw); go_simp)⟩) (by assumption) ?_
  simp only [Act.put, List.setIfInBounds_toArray, List.set_cons_zero, List.set_cons_succ]
  refine wpAnyH_take (i := 2) (oi := { dst := some 10, op := Op.load 24 (Operand.tmp 4), type := 24, pos := "numbers.go:34", after := #[], guard := none }) (v := .agg #[.bool bx, .slice a1 xn.length c1, .slice a2 xd.length c2]) rfl (by kernel_rfl) (by kernel_rfl) (by kernel_rfl) (fun _ _ _ h => hP _ _ _ _ _ h) (Or.inl ⟨by rfl, (by intro w hSw; (try dsimp only at hSw); go_simp)⟩) (by assumption) ?_
  simp only [Act.put, List.setIfInBounds_toArray, List.set_cons_zero, List.set_cons_succ]
  refine wpAnyH_take (i := 3) (oi := { dst := some 11, op := Op.load 24 (Operand.tmp 5), type := 24, pos := "numbers.go:34", after := #[], guard := none }) (v := .agg #[.bool cy, .slice a3 yn.length c3, .slice a4 yd.length c4]) rfl (by kernel_rfl) (by kernel_rfl) (by kernel_rfl) (fun _ _ _ h => hP _ _ _ _ _ h) (Or.inl ⟨by rfl, (by intro w hSw; (try dsimp only at hSw); go_simp)⟩) (by assumption) ?_
  simp only [Act.put, List.setIfInBounds_toArray, List.set_cons_zero, List.set_cons_succ]
  refine wpAnyH_ready (rs := [4]) (by kernel_rfl) (by simp) ?_
  refine (AllReadyH.cons (o := { dst := some 12, op := Op.call { callee := Callee.value (Operand.func 109), args := #[Operand.tmp 9, Operand.tmp 10, Operand.tmp 11], argTypes := #[24, 24, 24] }, type := 3, pos := "numbers.go:34", after := #[{ on := 1, ground := Ground.data }, { on := 2, ground := Ground.data }, { on := 3, ground := Ground.data }], guard := none }) rfl (fun K hK => ?_) AllReadyH.nil)
  go_simp
  refine K1.out.mono ?_
  rintro e w2 ⟨q2, r, rfl, hT⟩
  have kk2 : Below v.heap.size v w2 := d1.trans (q2.mono d1.size)
  have j2 := HC.out kk2
  go_simp
  refine hK.out _ _ (j2) (fun _ => ?_)
  clear hK K
  refine wpAnyH_ready (rs := [5]) (by kernel_rfl) (by simp) ?_
  refine (AllReadyH.cons (o := { dst := some 13, op := Op.call { callee := Callee.value (Operand.tmp 8), args := #[Operand.tmp 12], argTypes := #[3] }, type := 4, pos := "numbers.go:34", after := #[{ on := 0, ground := Ground.data }, { on := 4, ground := Ground.data }, { on := 4, ground := Ground.chain }], guard := none }) rfl (fun K hK => ?_) AllReadyH.nil)
  go_simp
  rw [HO.out.2, Oper.upon_enter]; refine (HO.out.1 r _).mono ?_
  rintro e w3 ⟨rfl, hw3⟩
  obtain rfl := hw3.symm
  go_simp
  refine hK.out _ _ (j2) (fun _ => ?_)
  clear hK K
  refine wpAnyH_ready (rs := [6]) (by kernel_rfl) (by simp) ?_
  refine (AllReadyH.cons (o := { dst := some 14, op := Op.call { callee := Callee.value (Operand.func 108), args := #[Operand.tmp 13], argTypes := #[4] }, type := 24, pos := "numbers.go:34", after := #[{ on := 5, ground := Ground.data }, { on := 5, ground := Ground.chain }], guard := none }) rfl (fun K hK => ?_) AllReadyH.nil)
  go_simp
  refine (truth_any _ _).mono ?_
  rintro e w4 ⟨⟨b, z1, ns, u1, z2, ds, u2, rfl, hL1, hL2⟩, q4⟩
  have kk4 : Below v.heap.size v w4 := kk2.trans (q4.mono kk2.size)
  have j4 := HC.out kk4
  have R2 := HRW.out kk4
  have r0 := R2.cell 0 rfl
  have r1 := R2.cell 1 rfl
  have r2 := R2.cell 2 rfl
  have f0 := R2.frozen 0
  have f1 := R2.frozen 1
  have f2 := R2.frozen 2
  have kS : Kp (w.heap.size + 1 + 1) w4 (((w4.setCell ⟨w.heap.size + 1 + 1, 0, none⟩ (.bool b)).setCell ⟨w.heap.size + 1 + 1, 1, none⟩ (.slice z1 ns.length u1)).setCell ⟨w.heap.size + 1 + 1, 2, none⟩ (.slice z2 ds.length u2)) := ((Kp.set _ _ _).trans (Kp.set _ _ _)).trans (Kp.set _ _ _)
  have j5 := And.intro (kS.cell nb j4.1) (And.intro (kS.cell n0 j4.2.1) (And.intro (kS.cell n0 j4.2.2.1) (And.intro (kS.cell n0 j4.2.2.2.1) (And.intro (kS.cell (by omega) j4.2.2.2.2.1) (And.intro (kS.cell (by omega) j4.2.2.2.2.2.1) (And.intro (kS.cell (by omega) j4.2.2.2.2.2.2.1) (And.intro (kS.cell (by omega) j4.2.2.2.2.2.2.2.1) (And.intro (kS.cell (by omega) j4.2.2.2.2.2.2.2.2.1) (kS.cell (by omega) j4.2.2.2.2.2.2.2.2.2)))))))))
  go_simp
  refine hK.out _ _ (j4) (fun _ => ?_)
  clear hK K
  refine wpAnyH_ready (rs := [7]) (by kernel_rfl) (by simp) ?_
  refine (AllReadyH.cons (o := { dst := none, op := Op.store 24 (Operand.tmp 6) (Operand.tmp 14), type := 0, pos := "numbers.go:34", after := #[{ on := 6, ground := Ground.data }, { on := 6, ground := Ground.chain }, { on := 0, ground := Ground.phase }, { on := 1, ground := Ground.phase }, { on := 2, ground := Ground.phase }, { on := 3, ground := Ground.phase }, { on := 4, ground := Ground.phase }, { on := 5, ground := Ground.phase }, { on := 6, ground := Ground.phase }], guard := none }) rfl (fun K hK => ?_) AllReadyH.nil)
  go_simp
  go_simp
  refine hK.out _ _ (j5) (fun _ => ?_)
  clear hK K
  refine wpAnyH_take (i := 8) (oi := { dst := some 7, op := Op.assign (Operand.const (Value.int IntKind.i64 0)), type := 28, pos := "numbers.go:34", after := #[{ on := 7, ground := Ground.chain }, { on := 0, ground := Ground.phase }, { on := 1, ground := Ground.phase }, { on := 2, ground := Ground.phase }, { on := 3, ground := Ground.phase }, { on := 4, ground := Ground.phase }, { on := 5, ground := Ground.phase }, { on := 6, ground := Ground.phase }, { on := 7, ground := Ground.phase }], guard := none }) (v := .int .i64 0) rfl (by kernel_rfl) (by kernel_rfl) (by kernel_rfl) (fun _ _ _ h => hP _ _ _ _ _ h) (Or.inl ⟨by rfl, (by intro w hSw; (try dsimp only at hSw); go_simp)⟩) (by assumption) ?_
  simp only [Act.put, List.setIfInBounds_toArray, List.set_cons_zero, List.set_cons_succ]
  refine wpAnyH_done (by kernel_rfl) ?_ _
  exact hQ r b z1 ns u1 z2 ds u2 w4 hL1 hL2 hT kk4
end
section
variable {kf : Nat} {Rb : Int → Bool} {w : World} {bt bx cy : Bool} {a1 a2 a3 a4 a5 a6 : Option Addr} {tn td xn xd yn yd : List Int} {c1 c2 c3 c4 c5 c6 : Nat} {bh b0 : Nat}
set_option maxRecDepth 100000 in
set_option maxHeartbeats 16000000 in
theorem cmpG (HO : Hid (HoldK kf Rb)) (hf : w.cell? ⟨bh, 0, none⟩ = some (.func (.func kf) #[] #[])) (t0 : w.cell? ⟨b0, 0, none⟩ = some (.bool bt)) (t1 : w.cell? ⟨b0, 1, none⟩ = some (.slice a5 tn.length c5)) (t2 : w.cell? ⟨b0, 2, none⟩ = some (.slice a6 td.length c6)) (h1 : Rd w.heap.size w (.slice a5 tn.length c5) tn) (h2 : Rd w.heap.size w (.slice a6 td.length c6) td) (h3 : Rd w.heap.size w (.slice a1 xn.length c1) xn) (h4 : Rd w.heap.size w (.slice a2 xd.length c2) xd) (h5 : Rd w.heap.size w (.slice a3 yn.length c3) yn) (h6 : Rd w.heap.size w (.slice a4 yd.length c4) yd) :
    Calls Tryz.prog 107 #[.agg #[.bool bx, .slice a1 xn.length c1, .slice a2 xd.length c2], .agg #[.bool cy, .slice a3 yn.length c3, .slice a4 yd.length c4], .pointer (some ⟨bh, 0, none⟩), .pointer (some ⟨b0, 0, none⟩)] w fun e w' => (∃ r b z1 ns u1 z2 ds u2, e = .returned (.tuple #[.agg #[.bool b, .slice z1 ns.length u1, .slice z2 ds.length u2], .int .i64 0]) ∧ Hid ((ns : List Int).length = if Rb r then 1 else 0) ∧ Hid ((ds : List Int).length = 1) ∧ Hid (TolIs (RightP bt tn td ∧ RightP bx xn xd ∧ RightP cy yn yd) (WithinI bt (val tn) (val td) (apartI bx (val xn) (val xd) cy (val yn) (val yd)) (val xn) (val xd) (val yn) (val yd)) (sg bx (val xn) * val yd) (sg cy (val yn) * val xd) r)) ∧ Below w.heap.size w w' := by
  have k1 := below_alloc w (.cells #[.bool bx, .slice a1 xn.length c1, .slice a2 xd.length c2] 24)
  have k2 := below_alloc (w.alloc (.cells #[.bool bx, .slice a1 xn.length c1, .slice a2 xd.length c2] 24)) (.cells #[.bool cy, .slice a3 yn.length c3, .slice a4 yd.length c4] 24)
  have k3 := below_alloc ((w.alloc (.cells #[.bool bx, .slice a1 xn.length c1, .slice a2 xd.length c2] 24)).alloc (.cells #[.bool cy, .slice a3 yn.length c3, .slice a4 yd.length c4] 24)) (.cells #[.bool false, .slice none 0 0, .slice none 0 0] 24)
  have k23 : Below (w.alloc (.cells #[.bool bx, .slice a1 xn.length c1, .slice a2 xd.length c2] 24)).heap.size (w.alloc (.cells #[.bool bx, .slice a1 xn.length c1, .slice a2 xd.length c2] 24)) (((w.alloc (.cells #[.bool bx, .slice a1 xn.length c1, .slice a2 xd.length c2] 24)).alloc (.cells #[.bool cy, .slice a3 yn.length c3, .slice a4 yd.length c4] 24)).alloc (.cells #[.bool false, .slice none 0 0, .slice none 0 0] 24)) := k2.trans (k3.mono (by simp))
  have g : Below w.heap.size w (((w.alloc (.cells #[.bool bx, .slice a1 xn.length c1, .slice a2 xd.length c2] 24)).alloc (.cells #[.bool cy, .slice a3 yn.length c3, .slice a4 yd.length c4] 24)).alloc (.cells #[.bool false, .slice none 0 0, .slice none 0 0] 24)) := k1.trans (k23.mono (by simp))
  have Xb := (boxA_new w #[.bool bx, .slice a1 xn.length c1, .slice a2 xd.length c2] 24).below k23 (by simp)
  have Yb := (boxA_new (w.alloc (.cells #[.bool bx, .slice a1 xn.length c1, .slice a2 xd.length c2] 24)) #[.bool cy, .slice a3 yn.length c3, .slice a4 yd.length c4] 24).below k3 (by simp)
  have R := boxA_new ((w.alloc (.cells #[.bool bx, .slice a1 xn.length c1, .slice a2 xd.length c2] 24)).alloc (.cells #[.bool cy, .slice a3 yn.length c3, .slice a4 yd.length c4] 24)) #[.bool false, .slice none 0 0, .slice none 0 0] 24
  rw [World.size_alloc] at Yb
  have sz : ((w.alloc (.cells #[.bool bx, .slice a1 xn.length c1, .slice a2 xd.length c2] 24)).alloc (.cells #[.bool cy, .slice a3 yn.length c3, .slice a4 yd.length c4] 24)).heap.size = w.heap.size + 1 + 1 := by simp
  have sz3 : (((w.alloc (.cells #[.bool bx, .slice a1 xn.length c1, .slice a2 xd.length c2] 24)).alloc (.cells #[.bool cy, .slice a3 yn.length c3, .slice a4 yd.length c4] 24)).alloc (.cells #[.bool false, .slice none 0 0, .slice none 0 0] 24)).heap.size = w.heap.size + 1 + 1 + 1 := by simp
  rw [sz] at R
  have l1 := lt_of_cellT hf
  have l2 := lt_of_cellT t0
  have HCe : Hid (∀ {w' : World}, Below (((w.alloc (.cells #[.bool bx, .slice a1 xn.length c1, .slice a2 xd.length c2] 24)).alloc (.cells #[.bool cy, .slice a3 yn.length c3, .slice a4 yd.length c4] 24)).alloc (.cells #[.bool false, .slice none 0 0, .slice none 0 0] 24)).heap.size (((w.alloc (.cells #[.bool bx, .slice a1 xn.length c1, .slice a2 xd.length c2] 24)).alloc (.cells #[.bool cy, .slice a3 yn.length c3, .slice a4 yd.length c4] 24)).alloc (.cells #[.bool false, .slice none 0 0, .slice none 0 0] 24)) w' → w'.cell? ⟨bh, 0, none⟩ = some (.func (.func kf) #[] #[]) ∧ w'.cell? ⟨b0, 0, none⟩ = some (.bool bt) ∧ w'.cell? ⟨b0, 1, none⟩ = some (.slice a5 tn.length c5) ∧ w'.cell? ⟨b0, 2, none⟩ = some (.slice a6 td.length c6) ∧ w'.cell? ⟨w.heap.size, 0, none⟩ = some (.bool bx) ∧ w'.cell? ⟨w.heap.size, 1, none⟩ = some (.slice a1 xn.length c1) ∧ w'.cell? ⟨w.heap.size, 2, none⟩ = some (.slice a2 xd.length c2) ∧ w'.cell? ⟨w.heap.size + 1, 0, none⟩ = some (.bool cy) ∧ w'.cell? ⟨w.heap.size + 1, 1, none⟩ = some (.slice a3 yn.length c3) ∧ w'.cell? ⟨w.heap.size + 1, 2, none⟩ = some (.slice a4 yd.length c4)) := fun k => ⟨((g.trans (k.mono (by omega))).cell (p := ⟨bh, 0, none⟩) l1).trans hf, ((g.trans (k.mono (by omega))).cell (p := ⟨b0, 0, none⟩) l2).trans t0, ((g.trans (k.mono (by omega))).cell (p := ⟨b0, 1, none⟩) l2).trans t1, ((g.trans (k.mono (by omega))).cell (p := ⟨b0, 2, none⟩) l2).trans t2, (Xb.below k (by omega)).cell 0 rfl, (Xb.below k (by omega)).cell 1 rfl, (Xb.below k (by omega)).cell 2 rfl, (Yb.below k (by omega)).cell 0 rfl, (Yb.below k (by omega)).cell 1 rfl, (Yb.below k (by omega)).cell 2 rfl⟩
  have HR : Hid (Rd w.heap.size w (.slice a5 tn.length c5) tn ∧ Rd w.heap.size w (.slice a6 td.length c6) td ∧ Rd w.heap.size w (.slice a1 xn.length c1) xn ∧ Rd w.heap.size w (.slice a2 xd.length c2) xd ∧ Rd w.heap.size w (.slice a3 yn.length c3) yn ∧ Rd w.heap.size w (.slice a4 yd.length c4) yd) := ⟨h1, h2, h3, h4, h5, h6⟩
  clear h1 h2 h3 h4 h5 h6 hf t0 t1 t2 k1 k2 k3 k23
  go_enter Tryz.func107, Tryz.ntmps107
  go_upto_region 1 with fail
  generalize hA : ((w.alloc (.cells #[.bool bx, .slice a1 xn.length c1, .slice a2 xd.length c2] 24)).alloc (.cells #[.bool cy, .slice a3 yn.length c3, .slice a4 yd.length c4] 24)).alloc (.cells #[.bool false, .slice none 0 0, .slice none 0 0] 24) = v at *
  clear hA
  have d1 : Below v.heap.size v v.drew := ⟨rfl, rfl, rfl, Nat.le_refl _, fun _ _ => rfl⟩
  obtain ⟨e0, e1, e2, e3, e4, e5, e6, e7, e8, e9⟩ := HCe.out d1
  obtain ⟨e0', e1', e2', e3', e4', e5', e6', e7', e8', e9'⟩ := HCe.out (Below.refl _ v)
  have HRW : Hid (∀ {w' : World}, Below v.heap.size v w' → BoxA w' (w.heap.size + 1 + 1) 24 #[.bool false, .slice none 0 0, .slice none 0 0]) := fun k => R.below k (by omega)
  have gd : Below w.heap.size w v.drew := g.trans (d1.mono g.size)
  have sg' : w.heap.size ≤ v.drew.heap.size := gd.size
  have K1 : Hid (Calls Tryz.prog 109 #[.agg #[.bool bt, .slice a5 tn.length c5, .slice a6 td.length c6], .agg #[.bool bx, .slice a1 xn.length c1, .slice a2 xd.length c2], .agg #[.bool cy, .slice a3 yn.length c3, .slice a4 yd.length c4]] v.drew fun e w' => Below v.drew.heap.size v.drew w' ∧ Tols (RightP bt tn td ∧ RightP bx xn xd ∧ RightP cy yn yd) (WithinI bt (val tn) (val td) (apartI bx (val xn) (val xd) cy (val yn) (val yd)) (val xn) (val xd) (val yn) (val yd)) (sg bx (val xn) * val yd) (sg cy (val yn) * val xd) e) := tolerant_rat ((HR.out.1.below gd).mono sg') ((HR.out.2.1.below gd).mono sg') ((HR.out.2.2.1.below gd).mono sg') ((HR.out.2.2.2.1.below gd).mono sg') ((HR.out.2.2.2.2.1.below gd).mono sg') ((HR.out.2.2.2.2.2.below gd).mono sg')
  refine wp_region_noPanic ?_
  have HJ : Hid (Rd w.heap.size w (.slice a5 tn.length c5) tn) := HR.out.1
  refine cmpregG (w := w) (v := v) (bh := bh) (b0 := b0) (bt := bt) (bx := bx) (cy := cy) (a1 := a1) (a2 := a2) (a3 := a3) (a4 := a4) (a5 := a5) (a6 := a6) (tn := tn) (td := td) (xn := xn) (xd := xd) (yn := yn) (yd := yd) (c1 := c1) (c2 := c2) (c3 := c3) (c4 := c4) (c5 := c5) (c6 := c6) HO HCe HRW K1 (by omega) (by omega) ?hq (fun _ _ _ _ _ h => h)
  intro r b z1 ns u1 z2 ds u2 w4 hL1 hL2 hT kk4
  refine NoPanic.normal ?_
  simp only [Exit.then]
  have R2 := HRW.out kk4
  have R3 := ((R2.put 0 (.bool b)).put 1 (.slice z1 ns.length u1)).put 2 (.slice z2 ds.length u2)
  have y0 := R3.cell 0 rfl
  have y1 := R3.cell 1 rfl
  have y2 := R3.cell 2 rfl
  go_wp2
  refine bodyPost_ret (v := .tuple #[.agg #[.bool b, .slice z1 ns.length u1, .slice z2 ds.length u2], .int .i64 0]) (by simp [results, Tryz.results107, go_sem, y0, y1, y2]) rfl ?_
  exact ⟨⟨r, b, z1, ns, u1, z2, ds, u2, rfl, hL1, hL2, hT⟩, Below.set3 (g.trans (kk4.mono g.size)) (by omega) _ _ _⟩
end
end Go.Proofs.YtopndegbofokiaaGreat

/- scalar.Two: a comparison. -/
namespace Go.Proofs.YtopndegbofokiaaGreat
set_option linter.unusedVariables false
set_option linter.unusedSimpArgs false
open Go.RowKit

/-- What a comparison does. -/
def CmpK (j : Nat) (FV : Value) (Rb : Int → Bool) : Prop := ∀ {w : World} {bt bx cy : Bool} {a1 a2 a3 a4 a5 a6 : Option Addr} {tn td xn xd yn yd : List Int} {c1 c2 c3 c4 c5 c6 : Nat} {b0 : Nat}, w.cell? ⟨b0 + j, 0, none⟩ = some FV → w.cell? ⟨b0, 0, none⟩ = some (.bool bt) → w.cell? ⟨b0, 1, none⟩ = some (.slice a5 tn.length c5) → w.cell? ⟨b0, 2, none⟩ = some (.slice a6 td.length c6) → Rd w.heap.size w (.slice a5 tn.length c5) tn → Rd w.heap.size w (.slice a6 td.length c6) td → Rd w.heap.size w (.slice a1 xn.length c1) xn → Rd w.heap.size w (.slice a2 xd.length c2) xd → Rd w.heap.size w (.slice a3 yn.length c3) yn → Rd w.heap.size w (.slice a4 yd.length c4) yd →
  Calls Tryz.prog 107 #[.agg #[.bool bx, .slice a1 xn.length c1, .slice a2 xd.length c2], .agg #[.bool cy, .slice a3 yn.length c3, .slice a4 yd.length c4], .pointer (some ⟨b0 + j, 0, none⟩), .pointer (some ⟨b0, 0, none⟩)] w fun e w' => (∃ r b z1 ns u1 z2 ds u2, e = .returned (.tuple #[.agg #[.bool b, .slice z1 ns.length u1, .slice z2 ds.length u2], .int .i64 0]) ∧ Hid ((ns : List Int).length = if Rb r then 1 else 0) ∧ Hid ((ds : List Int).length = 1) ∧ Hid (TolIs (RightP bt tn td ∧ RightP bx xn xd ∧ RightP cy yn yd) (WithinI bt (val tn) (val td) (apartI bx (val xn) (val xd) cy (val yn) (val yd)) (val xn) (val xd) (val yn) (val yd)) (sg bx (val xn) * val yd) (sg cy (val yn) * val xd) r)) ∧ Below w.heap.size w w'
section
variable {w : World} {bt bx cy : Bool} {a1 a2 a3 a4 a5 a6 : Option Addr} {tn td xn xd yn yd : List Int} {c1 c2 c3 c4 c5 c6 : Nat} {io pp gl : Int} {j : Nat} {FV : Value} {Rb : Int → Bool}
set_option maxRecDepth 100000 in
set_option maxHeartbeats 16000000 in
theorem two_gen (hK : CmpK j FV Rb) (hget : ∀ b, atKey .nilFunc gl (tab2 b) = cmpV b (b + j)) (hcell : ∀ {b : Nat} {w' : World}, OfTwo b bt a5 tn.length c5 a6 td.length c6 w' → w'.cell? ⟨b + j, 0, none⟩ = some FV)
    (h1 : Rd w.heap.size w (.slice a5 tn.length c5) tn) (h2 : Rd w.heap.size w (.slice a6 td.length c6) td) (h3 : Rd w.heap.size w (.slice a1 xn.length c1) xn) (h4 : Rd w.heap.size w (.slice a2 xd.length c2) xd) (h5 : Rd w.heap.size w (.slice a3 yn.length c3) yn) (h6 : Rd w.heap.size w (.slice a4 yd.length c4) yd) (r1 : RightP bt tn td) (r2 : RightP bx xn xd) (r3 : RightP cy yn yd) :
    Calls Tryz.prog 13 #[.agg #[.int .i64 io, .bool bt, .slice a5 tn.length c5, .slice a6 td.length c6, .int .i64 pp], .int .i32 gl, .agg #[.bool bx, .slice a1 xn.length c1, .slice a2 xd.length c2], .agg #[.bool cy, .slice a3 yn.length c3, .slice a4 yd.length c4]] w fun e w' => (∃ r b z1 ns u1 z2 ds u2, e = .returned (.tuple #[.agg #[.bool b, .slice z1 ns.length u1, .slice z2 ds.length u2], .int .i64 0]) ∧ Hid ((ns : List Int).length = if Rb r then 1 else 0) ∧ Hid ((ds : List Int).length = 1) ∧ Hid (TolIs (RightP bt tn td ∧ RightP bx xn xd ∧ RightP cy yn yd) (WithinI bt (val tn) (val td) (apartI bx (val xn) (val xd) cy (val yn) (val yd)) (val xn) (val xd) (val yn) (val yd)) (sg bx (val xn) * val yd) (sg cy (val yn) * val xd) r)) ∧ Below w.heap.size w w' := by
  have k1 := below_alloc w (.cells #[.int .i64 io, .bool bt, .slice a5 tn.length c5, .slice a6 td.length c6, .int .i64 pp] 26)
  have k2 := below_alloc (w.alloc (.cells #[.int .i64 io, .bool bt, .slice a5 tn.length c5, .slice a6 td.length c6, .int .i64 pp] 26)) (.cells #[.bool bx, .slice a1 xn.length c1, .slice a2 xd.length c2] 24)
  have k3 := below_alloc ((w.alloc (.cells #[.int .i64 io, .bool bt, .slice a5 tn.length c5, .slice a6 td.length c6, .int .i64 pp] 26)).alloc (.cells #[.bool bx, .slice a1 xn.length c1, .slice a2 xd.length c2] 24)) (.cells #[.bool cy, .slice a3 yn.length c3, .slice a4 yd.length c4] 24)
  have k4 := below_alloc (((w.alloc (.cells #[.int .i64 io, .bool bt, .slice a5 tn.length c5, .slice a6 td.length c6, .int .i64 pp] 26)).alloc (.cells #[.bool bx, .slice a1 xn.length c1, .slice a2 xd.length c2] 24)).alloc (.cells #[.bool cy, .slice a3 yn.length c3, .slice a4 yd.length c4] 24)) (.cells #[.bool false, .slice none 0 0, .slice none 0 0] 24)
  have k34 : Below ((w.alloc (.cells #[.int .i64 io, .bool bt, .slice a5 tn.length c5, .slice a6 td.length c6, .int .i64 pp] 26)).alloc (.cells #[.bool bx, .slice a1 xn.length c1, .slice a2 xd.length c2] 24)).heap.size ((w.alloc (.cells #[.int .i64 io, .bool bt, .slice a5 tn.length c5, .slice a6 td.length c6, .int .i64 pp] 26)).alloc (.cells #[.bool bx, .slice a1 xn.length c1, .slice a2 xd.length c2] 24)) ((((w.alloc (.cells #[.int .i64 io, .bool bt, .slice a5 tn.length c5, .slice a6 td.length c6, .int .i64 pp] 26)).alloc (.cells #[.bool bx, .slice a1 xn.length c1, .slice a2 xd.length c2] 24)).alloc (.cells #[.bool cy, .slice a3 yn.length c3, .slice a4 yd.length c4] 24)).alloc (.cells #[.bool false, .slice none 0 0, .slice none 0 0] 24)) := k3.trans (k4.mono (by simp))
  have k24 : Below (w.alloc (.cells #[.int .i64 io, .bool bt, .slice a5 tn.length c5, .slice a6 td.length c6, .int .i64 pp] 26)).heap.size (w.alloc (.cells #[.int .i64 io, .bool bt, .slice a5 tn.length c5, .slice a6 td.length c6, .int .i64 pp] 26)) ((((w.alloc (.cells #[.int .i64 io, .bool bt, .slice a5 tn.length c5, .slice a6 td.length c6, .int .i64 pp] 26)).alloc (.cells #[.bool bx, .slice a1 xn.length c1, .slice a2 xd.length c2] 24)).alloc (.cells #[.bool cy, .slice a3 yn.length c3, .slice a4 yd.length c4] 24)).alloc (.cells #[.bool false, .slice none 0 0, .slice none 0 0] 24)) := k2.trans (k34.mono (by simp))
  have g : Below w.heap.size w ((((w.alloc (.cells #[.int .i64 io, .bool bt, .slice a5 tn.length c5, .slice a6 td.length c6, .int .i64 pp] 26)).alloc (.cells #[.bool bx, .slice a1 xn.length c1, .slice a2 xd.length c2] 24)).alloc (.cells #[.bool cy, .slice a3 yn.length c3, .slice a4 yd.length c4] 24)).alloc (.cells #[.bool false, .slice none 0 0, .slice none 0 0] 24)) := k1.trans (k24.mono (by simp))
  have E := (boxA_new w #[.int .i64 io, .bool bt, .slice a5 tn.length c5, .slice a6 td.length c6, .int .i64 pp] 26).below k24 (by simp)
  have Xb := (boxA_new (w.alloc (.cells #[.int .i64 io, .bool bt, .slice a5 tn.length c5, .slice a6 td.length c6, .int .i64 pp] 26)) #[.bool bx, .slice a1 xn.length c1, .slice a2 xd.length c2] 24).below k34 (by simp)
  have Yb := (boxA_new ((w.alloc (.cells #[.int .i64 io, .bool bt, .slice a5 tn.length c5, .slice a6 td.length c6, .int .i64 pp] 26)).alloc (.cells #[.bool bx, .slice a1 xn.length c1, .slice a2 xd.length c2] 24)) #[.bool cy, .slice a3 yn.length c3, .slice a4 yd.length c4] 24).below k4 (by simp)
  have R := boxA_new (((w.alloc (.cells #[.int .i64 io, .bool bt, .slice a5 tn.length c5, .slice a6 td.length c6, .int .i64 pp] 26)).alloc (.cells #[.bool bx, .slice a1 xn.length c1, .slice a2 xd.length c2] 24)).alloc (.cells #[.bool cy, .slice a3 yn.length c3, .slice a4 yd.length c4] 24)) #[.bool false, .slice none 0 0, .slice none 0 0] 24
  have sz2 : ((w.alloc (.cells #[.int .i64 io, .bool bt, .slice a5 tn.length c5, .slice a6 td.length c6, .int .i64 pp] 26)).alloc (.cells #[.bool bx, .slice a1 xn.length c1, .slice a2 xd.length c2] 24)).heap.size = w.heap.size + 1 + 1 := by simp
  have sz3 : (((w.alloc (.cells #[.int .i64 io, .bool bt, .slice a5 tn.length c5, .slice a6 td.length c6, .int .i64 pp] 26)).alloc (.cells #[.bool bx, .slice a1 xn.length c1, .slice a2 xd.length c2] 24)).alloc (.cells #[.bool cy, .slice a3 yn.length c3, .slice a4 yd.length c4] 24)).heap.size = w.heap.size + 1 + 1 + 1 := by simp
  have sz4 : ((((w.alloc (.cells #[.int .i64 io, .bool bt, .slice a5 tn.length c5, .slice a6 td.length c6, .int .i64 pp] 26)).alloc (.cells #[.bool bx, .slice a1 xn.length c1, .slice a2 xd.length c2] 24)).alloc (.cells #[.bool cy, .slice a3 yn.length c3, .slice a4 yd.length c4] 24)).alloc (.cells #[.bool false, .slice none 0 0, .slice none 0 0] 24)).heap.size = w.heap.size + 1 + 1 + 1 + 1 := by simp
  rw [World.size_alloc] at Xb
  rw [sz2] at Yb
  rw [sz3] at R
  have HR : Hid (∀ {w' : World}, Below w.heap.size w w' → Rd w'.heap.size w' (.slice a5 tn.length c5) tn ∧ Rd w'.heap.size w' (.slice a6 td.length c6) td ∧ Rd w'.heap.size w' (.slice a1 xn.length c1) xn ∧ Rd w'.heap.size w' (.slice a2 xd.length c2) xd ∧ Rd w'.heap.size w' (.slice a3 yn.length c3) yn ∧ Rd w'.heap.size w' (.slice a4 yd.length c4) yd) := fun k => ⟨(h1.below k).mono k.size, (h2.below k).mono k.size, (h3.below k).mono k.size, (h4.below k).mono k.size, (h5.below k).mono k.size, (h6.below k).mono k.size⟩
  have HP : Hid (RightP bt tn td ∧ RightP bx xn xd ∧ RightP cy yn yd) := ⟨r1, r2, r3⟩
  have HK : Hid (CmpK j FV Rb) := hK
  have Hget : Hid (∀ b, atKey .nilFunc gl (tab2 b) = cmpV b (b + j)) := hget
  have Hcell : Hid (∀ {b : Nat} {w' : World}, OfTwo b bt a5 tn.length c5 a6 td.length c6 w' → w'.cell? ⟨b + j, 0, none⟩ = some FV) := hcell
  clear h1 h2 h3 h4 h5 h6 r1 r2 r3 hK hget hcell k1 k2 k3 k4 k34 k24
  have q1 := E.cell 1 rfl
  have q2 := E.cell 2 rfl
  have q3 := E.cell 3 rfl
  go_enter Tryz.func13, Tryz.ntmps13
  go_wp2_with fail
  generalize hA : (((w.alloc (.cells #[.int .i64 io, .bool bt, .slice a5 tn.length c5, .slice a6 td.length c6, .int .i64 pp] 26)).alloc (.cells #[.bool bx, .slice a1 xn.length c1, .slice a2 xd.length c2] 24)).alloc (.cells #[.bool cy, .slice a3 yn.length c3, .slice a4 yd.length c4] 24)).alloc (.cells #[.bool false, .slice none 0 0, .slice none 0 0] 24) = v at *
  clear hA q1 q2 q3
  refine (ofTwo_any bt a5 a6 _ _ _ _ v).mono ?_
  rintro e w1 ⟨rfl, hT, b1⟩
  have s1 := b1.size
  obtain ⟨b, hb⟩ : ∃ b, v.heap.size = b := ⟨_, rfl⟩
  have sb1 : w.heap.size < b := by omega
  have sb2 : b ≤ w1.heap.size := by omega
  have hg1 : (Instr.lookup 70 (.map (some (w.heap.size + 1 + 1 + 1 + 1 + 1))) (.int .i32 gl) false).run Tryz.prog w1 = .ok (cmpV (w.heap.size + 1 + 1 + 1 + 1) (w.heap.size + 1 + 1 + 1 + 1 + j)) w1 := by
    have := MapIs.get (k := gl) Tryz.underlying70 Tryz.underlying21 (zero_dyad w1) hT.tab
    rw [Hget.out, sz4] at this
    exact this
  have hc1 := Hcell.out hT
  obtain ⟨t0, t1, t2, _⟩ := hT.cells
  rw [sz4] at hc1 t0 t1 t2
  have HT : Hid (w1.cell? ⟨w.heap.size + 1 + 1 + 1 + 1 + j, 0, none⟩ = some FV ∧ w1.cell? ⟨w.heap.size + 1 + 1 + 1 + 1, 0, none⟩ = some (.bool bt) ∧ w1.cell? ⟨w.heap.size + 1 + 1 + 1 + 1, 1, none⟩ = some (.slice a5 tn.length c5) ∧ w1.cell? ⟨w.heap.size + 1 + 1 + 1 + 1, 2, none⟩ = some (.slice a6 td.length c6)) := ⟨hc1, t0, t1, t2⟩
  clear hT hc1 t0 t1 t2 hb
  have g1 : Below w.heap.size w w1 := g.trans (b1.mono g.size)
  have E1 := E.below b1 (by omega)
  have X1 := Xb.below b1 (by omega)
  have Y1 := Yb.below b1 (by omega)
  have R1 := R.below b1 (by omega)
  have x0 := X1.cell 0 rfl
  have x1 := X1.cell 1 rfl
  have x2 := X1.cell 2 rfl
  have hnf := eq_nilF
  have hcv : cmpV (w.heap.size + 1 + 1 + 1 + 1) (w.heap.size + 1 + 1 + 1 + 1 + j) = .func (.func 107) #[] #[.pointer (some ⟨w.heap.size + 1 + 1 + 1 + 1 + j, 0, none⟩), .pointer (some ⟨w.heap.size + 1 + 1 + 1 + 1, 0, none⟩)] := rfl
  rw [hcv] at hg1
  clear hcv
  go_wp2_with fail
  clear hg1 x0 x1 x2
  refine (right_rat (b := bx) (HR.out g1).2.2.1 (HR.out g1).2.2.2.1 (Nat.le_refl _)).mono ?_
  rintro e w2 ⟨⟨ra, rfl, ha⟩, b2⟩
  obtain rfl := ha.2 HP.out.2.1
  clear ha
  have s2 := b2.size
  have g2 : Below w.heap.size w w2 := g1.trans (b2.mono g1.size)
  have E2 := E1.below b2 (by omega)
  have X2 := X1.below b2 (by omega)
  have Y2 := Y1.below b2 (by omega)
  have y0 := Y2.cell 0 rfl
  have y1 := Y2.cell 1 rfl
  have y2 := Y2.cell 2 rfl
  go_wp2_with fail
  clear y0 y1 y2
  refine (right_rat (b := cy) (HR.out g2).2.2.2.2.1 (HR.out g2).2.2.2.2.2 (Nat.le_refl _)).mono ?_
  rintro e w3 ⟨⟨ra, rfl, ha⟩, b3⟩
  obtain rfl := ha.2 HP.out.2.2
  clear ha
  have s3 := b3.size
  have g3 : Below w.heap.size w w3 := g2.trans (b3.mono g2.size)
  have E3 := E2.below b3 (by omega)
  have X3 := X2.below b3 (by omega)
  have Y3 := Y2.below b3 (by omega)
  have q1 := E3.cell 1 rfl
  have q2 := E3.cell 2 rfl
  have q3 := E3.cell 3 rfl
  go_wp2_with fail
  clear q1 q2 q3
  refine (right_rat (b := bt) (HR.out g3).1 (HR.out g3).2.1 (Nat.le_refl _)).mono ?_
  rintro e w4 ⟨⟨ra, rfl, ha⟩, b4⟩
  obtain rfl := ha.2 HP.out.1
  clear ha
  have s4 := b4.size
  have g4 : Below w.heap.size w w4 := g3.trans (b4.mono g3.size)
  have k14 : Below w1.heap.size w1 w4 := (b2.trans (b3.mono s2)).trans (b4.mono (by omega))
  have X4 := X3.below b4 (by omega)
  have Y4 := Y3.below b4 (by omega)
  have R4 := R1.below k14 (by omega)
  have x0 := X4.cell 0 rfl
  have x1 := X4.cell 1 rfl
  have x2 := X4.cell 2 rfl
  have y0 := Y4.cell 0 rfl
  have y1 := Y4.cell 1 rfl
  have y2 := Y4.cell 2 rfl
  have lt1 := lt_of_cellT HT.out.1
  have lt2 := lt_of_cellT HT.out.2.1
  have HC5 := HK.out (bx := bx) (cy := cy) ((k14.cell (p := ⟨w.heap.size + 1 + 1 + 1 + 1 + j, 0, none⟩) lt1).trans HT.out.1) ((k14.cell (p := ⟨w.heap.size + 1 + 1 + 1 + 1, 0, none⟩) lt2).trans HT.out.2.1) ((k14.cell (p := ⟨w.heap.size + 1 + 1 + 1 + 1, 1, none⟩) lt2).trans HT.out.2.2.1) ((k14.cell (p := ⟨w.heap.size + 1 + 1 + 1 + 1, 2, none⟩) lt2).trans HT.out.2.2.2) (HR.out g4).1 (HR.out g4).2.1 (HR.out g4).2.2.1 (HR.out g4).2.2.2.1 (HR.out g4).2.2.2.2.1 (HR.out g4).2.2.2.2.2
  have HC6 : Hid (Calls Tryz.prog 107 _ w4 _) := HC5
  clear HC5 lt1 lt2
  go_wp2_with fail
  clear x0 x1 x2 y0 y1 y2
  refine HC6.out.mono ?_
  rintro e w5 ⟨⟨r, bb, z1, ns, u1, z2, ds, u2, rfl, hL1, hL2, hTo⟩, b5⟩
  have R5 := R4.below b5 (by omega)
  have s5 := b5.size
  have r0 := R5.cell 0 rfl
  have r1 := R5.cell 1 rfl
  have r2 := R5.cell 2 rfl
  have f0 := R5.frozen 0
  have f1 := R5.frozen 1
  have f2 := R5.frozen 2
  have R6 := ((R5.put 0 (.bool bb)).put 1 (.slice z1 ns.length u1)).put 2 (.slice z2 ds.length u2)
  have y0 := R6.cell 0 rfl
  have y1 := R6.cell 1 rfl
  have y2 := R6.cell 2 rfl
  go_wp2
  refine bodyPost_ret (v := .tuple #[.agg #[.bool bb, .slice z1 ns.length u1, .slice z2 ds.length u2], .int .i64 0]) (by simp [results, Tryz.results13, go_sem, y0, y1, y2]) rfl ?_
  exact ⟨⟨r, bb, z1, ns, u1, z2, ds, u2, rfl, hL1, hL2, hTo⟩, Below.set3 (g4.trans (b5.mono g4.size)) (by omega) _ _ _⟩
end
end Go.Proofs.YtopndegbofokiaaGreat

/- isSo: does a comparison tell 1? -/
namespace Go.Proofs.YtopndegbofokiaaGreat
set_option linter.unusedVariables false
set_option linter.unusedSimpArgs false
open Go.RowKit

theorem one_rightT : RightP false [] [(1 : Int)] := ⟨by simp, by simp, can_nil, can_one, by simp, by simp, by rw [one_val]; exact gI_one_right _⟩
section
variable {w : World} {bx cy : Bool} {a1 a2 a3 a4 : Option Addr} {xn xd yn yd : List Int} {c1 c2 c3 c4 : Nat} {gl : Int} {Rb : Int → Bool} {v : World}
set_option maxRecDepth 100000 in
set_option maxHeartbeats 16000000 in
theorem sorg {Q : Exit → Act → World → Prop} {t1 t2 t3 t6 t7 t8 t9 t10 t11 t12 t13 t14 t15 t16 t17 t18 t19 t20 t21 t22 t23 t24 : Value} (HC : Hid (∀ {w' : World}, Below v.heap.size v w' → w'.cell? ⟨w.heap.size, 0, none⟩ = some (.bool bx) ∧ w'.cell? ⟨w.heap.size, 1, none⟩ = some (.slice a1 xn.length c1) ∧ w'.cell? ⟨w.heap.size, 2, none⟩ = some (.slice a2 xd.length c2) ∧ w'.cell? ⟨w.heap.size + 1, 0, none⟩ = some (.bool cy) ∧ w'.cell? ⟨w.heap.size + 1, 1, none⟩ = some (.slice a3 yn.length c3) ∧ w'.cell? ⟨w.heap.size + 1, 2, none⟩ = some (.slice a4 yd.length c4)))
    (KT : Hid (∀ u (ds0 : List Int) ea ec, Hid (ds0 = [(1 : Int)]) → Rd u.heap.size u (.slice ea ds0.length ec) ds0 → Below v.heap.size v u → Calls Tryz.prog 13 #[.agg #[.int .i64 1, .bool false, .slice none 0 0, .slice ea ds0.length ec, .int .i64 0], .int .i32 gl, .agg #[.bool bx, .slice a1 xn.length c1, .slice a2 xd.length c2], .agg #[.bool cy, .slice a3 yn.length c3, .slice a4 yd.length c4]] u fun e w' => (∃ r b z1 ns u1 z2 ds u2, e = .returned (.tuple #[.agg #[.bool b, .slice z1 ns.length u1, .slice z2 ds.length u2], .int .i64 0]) ∧ Hid ((ns : List Int).length = if Rb r then 1 else 0) ∧ Hid ((ds : List Int).length = 1) ∧ Hid (TolIs (RightP false [] [(1 : Int)] ∧ RightP bx xn xd ∧ RightP cy yn yd) (WithinI false (val []) (val [(1 : Int)]) (apartI bx (val xn) (val xd) cy (val yn) (val yd)) (val xn) (val xd) (val yn) (val yd)) (sg bx (val xn) * val yd) (sg cy (val yn) * val xd) r)) ∧ Below u.heap.size u w'))
    (hQ : ∀ A (ds0 : List Int) ea ec r b z1 (ns : List Int) u1 z2 (ds : List Int) u2 w', w'.cell? ⟨A, 1, none⟩ = some (.slice z1 ns.length u1) → Hid ((ns : List Int).length = if Rb r then 1 else 0) → Hid (TolIs (RightP false [] [(1 : Int)] ∧ RightP bx xn xd ∧ RightP cy yn yd) (WithinI false (val []) (val [(1 : Int)]) (apartI bx (val xn) (val xd) cy (val yn) (val yd)) (val xn) (val xd) (val yn) (val yd)) (sg bx (val xn) * val yd) (sg cy (val yn) * val xd) r) → Below v.heap.size v w' → Q .normal { tmps := #[.int .i32 gl, t1, t2, t3, .pointer (some ⟨w.heap.size, 0, none⟩), .pointer (some ⟨w.heap.size + 1, 0, none⟩), t6, .pointer (some ⟨A, 0, none⟩), .int .i64 0, .tuple #[.agg #[.bool b, .slice z1 ns.length u1, .slice z2 ds.length u2], .int .i64 0], .agg #[.int .i64 1, .bool false, .slice none 0 0, .slice ea ds0.length ec, .int .i64 0], .int .i32 gl, .agg #[.bool bx, .slice a1 xn.length c1, .slice a2 xd.length c2], .agg #[.bool cy, .slice a3 yn.length c3, .slice a4 yd.length c4], .tuple #[.agg #[.bool b, .slice z1 ns.length u1, .slice z2 ds.length u2], .int .i64 0], .agg #[.bool b, .slice z1 ns.length u1, .slice z2 ds.length u2], .int .i64 0, t17, t18, t19, t20, t21, t22, t23, t24], defers := [] } w') (hP : ∀ c a d x w, Q (.panic c) (Act.put a d x) w → Q (.panic c) a w) :
    (Code.region 1 #[{ dst := some 10, op := Op.call { callee := Callee.value (Operand.func 24), args := #[], argTypes := #[] }, type := 26, pos := "law.go:132", after := #[], guard := none }, { dst := some 11, op := Op.move (Operand.tmp 0), type := 21, pos := "law.go:132", after := #[], guard := none }, { dst := some 12, op := Op.load 24 (Operand.tmp 4), type := 24, pos := "law.go:132", after := #[], guard := none }, { dst := some 13, op := Op.load 24 (Operand.tmp 5), type := 24, pos := "law.go:132", after := #[], guard := none }, { dst := some 14, op := Op.call { callee := Callee.value (Operand.func 13), args := #[Operand.tmp 10, Operand.tmp 11, Operand.tmp 12, Operand.tmp 13], argTypes := #[26, 21, 24, 24] }, type := 29, pos := "law.go:132", after := #[{ on := 0, ground := Ground.data }, { on := 1, ground := Ground.data }, { on := 2, ground := Ground.data }, { on := 3, ground := Ground.data }, { on := 0, ground := Ground.chain }], guard := none }, { dst := some 9, op := Op.move (Operand.tmp 14), type := 29, pos := "law.go:132", after := #[{ on := 4, ground := Ground.data }], guard := none }, { dst := some 15, op := Op.extract (Operand.tmp 9) 0, type := 24, pos := "law.go:132", after := #[{ on := 5, ground := Ground.data }], guard := none }, { dst := some 16, op := Op.extract (Operand.tmp 9) 1, type := 28, pos := "law.go:132", after := #[{ on := 5, ground := Ground.data }, { on := 9, ground := Ground.gcOnly Departure.lateStores }], guard := none }, { dst := some 7, op := Op.alloc 24, type := 0, pos := "law.go:132", after := #[], guard := none }, { dst := none, op := Op.store 24 (Operand.tmp 7) (Operand.tmp 15), type := 0, pos := "law.go:132", after := #[{ on := 8, ground := Ground.data }, { on := 6, ground := Ground.data }, { on := 4, ground := Ground.chain }, { on := 0, ground := Ground.phase }, { on := 1, ground := Ground.phase }, { on := 2, ground := Ground.phase }, { on := 3, ground := Ground.phase }, { on := 4, ground := Ground.phase }, { on := 5, ground := Ground.phase }, { on := 6, ground := Ground.phase }, { on := 7, ground := Ground.textOnly Departure.lateStores }, { on := 8, ground := Ground.phase }], guard := none }, { dst := some 8, op := Op.assign (Operand.tmp 16), type := 28, pos := "law.go:132", after := #[{ on := 7, ground := Ground.data }, { on := 9, ground := Ground.chain }, { on := 0, ground := Ground.phase }, { on := 1, ground := Ground.phase }, { on := 2, ground := Ground.phase }, { on := 3, ground := Ground.phase }, { on := 4, ground := Ground.phase }, { on := 5, ground := Ground.phase }, { on := 6, ground := Ground.phase }, { on := 7, ground := Ground.phase }, { on := 8, ground := Ground.phase }, { on := 9, ground := Ground.phase }], guard := none }] true).wp Tryz.prog Q { tmps := #[.int .i32 gl, t1, t2, t3, .pointer (some ⟨w.heap.size, 0, none⟩), .pointer (some ⟨w.heap.size + 1, 0, none⟩), t6, t7, t8, t9, t10, t11, t12, t13, t14, t15, t16, t17, t18, t19, t20, t21, t22, t23, t24], defers := [] } v := by
  have d1 : Below v.heap.size v v.drew := ⟨rfl, rfl, rfl, Nat.le_refl _, fun _ _ => rfl⟩
  have j0 := HC.out d1
  refine wp_region_held_drew (S := (fun w' => w'.cell? ⟨w.heap.size, 0, none⟩ = some (.bool bx) ∧ w'.cell? ⟨w.heap.size, 1, none⟩ = some (.slice a1 xn.length c1) ∧ w'.cell? ⟨w.heap.size, 2, none⟩ = some (.slice a2 xd.length c2) ∧ w'.cell? ⟨w.heap.size + 1, 0, none⟩ = some (.bool cy) ∧ w'.cell? ⟨w.heap.size + 1, 1, none⟩ = some (.slice a3 yn.length c3) ∧ w'.cell? ⟨w.heap.size + 1, 2, none⟩ = some (.slice a4 yd.length c4))) (by kernel_rfl) j0 (fun hS => ?_)
  refine wpAnyH_take (i := 1) (oi := { dst := some 11, op := Op.move (Operand.tmp 0), type := 21, pos := "law.go:132", after := #[], guard := none }) (v := .int .i32 gl) rfl (by kernel_rfl) (by kernel_rfl) (by kernel_rfl) (fun _ _ _ h => hP _ _ _ _ _ h) (Or.inl ⟨by rfl, (by intro w hSw; (try dsimp only at hSw); go_simp)⟩) (by assumption) ?_
  simp only [Act.put, List.setIfInBounds_toArray, List.set_cons_zero, List.set_cons_succ]
  refine wpAnyH_take (i := 2) (oi := { dst := some 12, op := Op.load 24 (Operand.tmp 4), type := 24, pos := "law.go:132", after := #[], guard := none }) (v := .agg #[.bool bx, .slice a1 xn.length c1, .slice a2 xd.length c2]) rfl (by kernel_rfl) (by kernel_rfl) (by kernel_rfl) (fun _ _ _ h => hP _ _ _ _ _ h) (Or.inl ⟨by rfl, (by intro w hSw; (try dsimp only at hSw); go_simp)⟩) (by assumption) ?_
  simp only [Act.put, List.setIfInBounds_toArray, List.set_cons_zero, List.set_cons_succ]
  refine wpAnyH_take (i := 3) (oi := { dst := some 13, op := Op.load 24 (Operand.tmp 5), type := 24, pos := "law.go:132", after := #[], guard := none }) (v := .agg #[.bool cy, .slice a3 yn.length c3, .slice a4 yd.length c4]) rfl (by kernel_rfl) (by kernel_rfl) (by kernel_rfl) (fun _ _ _ h => hP _ _ _ _ _ h) (Or.inl ⟨by rfl, (by intro w hSw; (try dsimp only at hSw); go_simp)⟩) (by assumption) ?_
  simp only [Act.put, List.setIfInBounds_toArray, List.set_cons_zero, List.set_cons_succ]
  refine wpAnyH_ready (rs := [0, 8]) (by kernel_rfl) (by simp) ?_
  refine (AllReadyH.cons (o := { dst := some 10, op := Op.call { callee := Callee.value (Operand.func 24), args := #[], argTypes := #[] }, type := 26, pos := "law.go:132", after := #[], guard := none }) rfl (fun K hK => ?_) (AllReadyH.cons (o := { dst := some 7, op := Op.alloc 24, type := 0, pos := "law.go:132", after := #[], guard := none }) rfl (fun K hK => ?_) AllReadyH.nil))
  · go_simp
    refine (env_any _).mono ?_
    rintro e wE ⟨ds0, ea, ec, hd, rfl, ho, pE⟩
    have kE : Below v.heap.size v wE := d1.trans (pE.mono d1.size)
    have jE := HC.out kE
    go_simp
    refine hK.out _ _ (jE) (fun _ => ?_)
    clear hK K
    refine wpAnyH_ready (rs := [4, 8]) (by kernel_rfl) (by simp) ?_
    refine (AllReadyH.cons (o := { dst := some 14, op := Op.call { callee := Callee.value (Operand.func 13), args := #[Operand.tmp 10, Operand.tmp 11, Operand.tmp 12, Operand.tmp 13], argTypes := #[26, 21, 24, 24] }, type := 29, pos := "law.go:132", after := #[{ on := 0, ground := Ground.data }, { on := 1, ground := Ground.data }, { on := 2, ground := Ground.data }, { on := 3, ground := Ground.data }, { on := 0, ground := Ground.chain }], guard := none }) rfl (fun K hK => ?_) (AllReadyH.cons (o := { dst := some 7, op := Op.alloc 24, type := 0, pos := "law.go:132", after := #[], guard := none }) rfl (fun K hK => ?_) AllReadyH.nil))
    · go_simp
      refine (KT.out _ ds0 ea ec hd (ho.rd) kE).mono ?_
      rintro e wT ⟨⟨r, b, z1, ns, u1, z2, ds, u2, rfl, hL1, hL2, hTo⟩, pT⟩
      have kT : Below v.heap.size v wT := kE.trans (pT.mono kE.size)
      have jT := HC.out kT
      go_simp
      refine hK.out _ _ (jT) (fun _ => ?_)
      clear hK K
      refine wpAnyH_take (i := 5) (oi := { dst := some 9, op := Op.move (Operand.tmp 14), type := 29, pos := "law.go:132", after := #[{ on := 4, ground := Ground.data }], guard := none }) (v := .tuple #[.agg #[.bool b, .slice z1 ns.length u1, .slice z2 ds.length u2], .int .i64 0]) rfl (by kernel_rfl) (by kernel_rfl) (by kernel_rfl) (fun _ _ _ h => hP _ _ _ _ _ h) (Or.inl ⟨by rfl, (by intro w hSw; (try dsimp only at hSw); go_simp)⟩) (by assumption) ?_
      simp only [Act.put, List.setIfInBounds_toArray, List.set_cons_zero, List.set_cons_succ]
      refine wpAnyH_take (i := 6) (oi := { dst := some 15, op := Op.extract (Operand.tmp 9) 0, type := 24, pos := "law.go:132", after := #[{ on := 5, ground := Ground.data }], guard := none }) (v := .agg #[.bool b, .slice z1 ns.length u1, .slice z2 ds.length u2]) rfl (by kernel_rfl) (by kernel_rfl) (by kernel_rfl) (fun _ _ _ h => hP _ _ _ _ _ h) (Or.inl ⟨by rfl, (by intro w hSw; (try dsimp only at hSw); go_simp)⟩) (by assumption) ?_
      simp only [Act.put, List.setIfInBounds_toArray, List.set_cons_zero, List.set_cons_succ]
      refine wpAnyH_take (i := 7) (oi := { dst := some 16, op := Op.extract (Operand.tmp 9) 1, type := 28, pos := "law.go:132", after := #[{ on := 5, ground := Ground.data }, { on := 9, ground := Ground.gcOnly Departure.lateStores }], guard := none }) (v := .int .i64 0) rfl (by kernel_rfl) (by kernel_rfl) (by kernel_rfl) (fun _ _ _ h => hP _ _ _ _ _ h) (Or.inl ⟨by rfl, (by intro w hSw; (try dsimp only at hSw); go_simp)⟩) (by assumption) ?_
      simp only [Act.put, List.setIfInBounds_toArray, List.set_cons_zero, List.set_cons_succ]
      refine wpAnyH_ready (rs := [8]) (by kernel_rfl) (by simp) ?_
      refine (AllReadyH.cons (o := { dst := some 7, op := Op.alloc 24, type := 0, pos := "law.go:132", after := #[], guard := none }) rfl (fun K hK => ?_) AllReadyH.nil)
      go_simp
      have kA : Below v.heap.size v (wT.alloc (.cells #[.bool false, .slice none 0 0, .slice none 0 0] 24)) := kT.trans ((below_alloc wT (.cells #[.bool false, .slice none 0 0, .slice none 0 0] 24)).mono kT.size)
      have jA := HC.out kA
      have BA : BoxA (wT.alloc (.cells #[.bool false, .slice none 0 0, .slice none 0 0] 24)) wT.heap.size 24 #[.bool false, .slice none 0 0, .slice none 0 0] := boxA_new wT #[.bool false, .slice none 0 0, .slice none 0 0] 24
      have nA : v.heap.size ≤ wT.heap.size := kT.size
      go_simp
      refine hK.out _ _ (jA) (fun _ => ?_)
      clear hK K
      refine wpAnyH_ready (rs := [9]) (by kernel_rfl) (by simp) ?_
      refine (AllReadyH.cons (o := { dst := none, op := Op.store 24 (Operand.tmp 7) (Operand.tmp 15), type := 0, pos := "law.go:132", after := #[{ on := 8, ground := Ground.data }, { on := 6, ground := Ground.data }, { on := 4, ground := Ground.chain }, { on := 0, ground := Ground.phase }, { on := 1, ground := Ground.phase }, { on := 2, ground := Ground.phase }, { on := 3, ground := Ground.phase }, { on := 4, ground := Ground.phase }, { on := 5, ground := Ground.phase }, { on := 6, ground := Ground.phase }, { on := 7, ground := Ground.textOnly Departure.lateStores }, { on := 8, ground := Ground.phase }], guard := none }) rfl (fun K hK => ?_) AllReadyH.nil)
      go_simp
      have r0 := BA.cell 0 rfl
      have r1 := BA.cell 1 rfl
      have r2 := BA.cell 2 rfl
      have f0 := BA.frozen 0
      have f1 := BA.frozen 1
      have f2 := BA.frozen 2
      have q1 := (boxA_new wT #[.bool b, .slice z1 ns.length u1, .slice z2 ds.length u2] 24).cell 1 rfl
      have kS : Below v.heap.size v (wT.alloc (.cells #[.bool b, .slice z1 ns.length u1, .slice z2 ds.length u2] 24)) := kT.trans ((below_alloc wT (.cells #[.bool b, .slice z1 ns.length u1, .slice z2 ds.length u2] 24)).mono kT.size)
      have jS := HC.out kS
      go_simp
      refine hK.out _ _ (jS) (fun _ => ?_)
      clear hK K
      refine wpAnyH_take (i := 10) (oi := { dst := some 8, op := Op.assign (Operand.tmp 16), type := 28, pos := "law.go:132", after := #[{ on := 7, ground := Ground.data }, { on := 9, ground := Ground.chain }, { on := 0, ground := Ground.phase }, { on := 1, ground := Ground.phase }, { on := 2, ground := Ground.phase }, { on := 3, ground := Ground.phase }, { on := 4, ground := Ground.phase }, { on := 5, ground := Ground.phase }, { on := 6, ground := Ground.phase }, { on := 7, ground := Ground.phase }, { on := 8, ground := Ground.phase }, { on := 9, ground := Ground.phase }], guard := none }) (v := .int .i64 0) rfl (by kernel_rfl) (by kernel_rfl) (by kernel_rfl) (fun _ _ _ h => hP _ _ _ _ _ h) (Or.inl ⟨by rfl, (by intro w hSw; (try dsimp only at hSw); go_simp)⟩) (by assumption) ?_
      simp only [Act.put, List.setIfInBounds_toArray, List.set_cons_zero, List.set_cons_succ]
      refine wpAnyH_done (by kernel_rfl) ?_ _
      exact hQ _ ds0 ea ec r b z1 ns u1 z2 ds u2 _ q1 hL1 hTo kS
    · go_simp
      have kA : Below v.heap.size v (wE.alloc (.cells #[.bool false, .slice none 0 0, .slice none 0 0] 24)) := kE.trans ((below_alloc wE (.cells #[.bool false, .slice none 0 0, .slice none 0 0] 24)).mono kE.size)
      have jA := HC.out kA
      have BA : BoxA (wE.alloc (.cells #[.bool false, .slice none 0 0, .slice none 0 0] 24)) wE.heap.size 24 #[.bool false, .slice none 0 0, .slice none 0 0] := boxA_new wE #[.bool false, .slice none 0 0, .slice none 0 0] 24
      have nA : v.heap.size ≤ wE.heap.size := kE.size
      go_simp
      refine hK.out _ _ (jA) (fun _ => ?_)
      clear hK K
      refine wpAnyH_ready (rs := [4]) (by kernel_rfl) (by simp) ?_
      refine (AllReadyH.cons (o := { dst := some 14, op := Op.call { callee := Callee.value (Operand.func 13), args := #[Operand.tmp 10, Operand.tmp 11, Operand.tmp 12, Operand.tmp 13], argTypes := #[26, 21, 24, 24] }, type := 29, pos := "law.go:132", after := #[{ on := 0, ground := Ground.data }, { on := 1, ground := Ground.data }, { on := 2, ground := Ground.data }, { on := 3, ground := Ground.data }, { on := 0, ground := Ground.chain }], guard := none }) rfl (fun K hK => ?_) AllReadyH.nil)
      go_simp
      refine (KT.out _ ds0 ea ec hd ((ho.below (below_alloc wE (.cells #[.bool false, .slice none 0 0, .slice none 0 0] 24)) (Nat.le_refl _)).rd) kA).mono ?_
      rintro e wT ⟨⟨r, b, z1, ns, u1, z2, ds, u2, rfl, hL1, hL2, hTo⟩, pT⟩
      have kT : Below v.heap.size v wT := kA.trans (pT.mono kA.size)
      have jT := HC.out kT
      have lBA := BA.lt
      replace BA := BA.below pT lBA
      clear lBA
      go_simp
      refine hK.out _ _ (jT) (fun _ => ?_)
      clear hK K
      refine wpAnyH_take (i := 5) (oi := { dst := some 9, op := Op.move (Operand.tmp 14), type := 29, pos := "law.go:132", after := #[{ on := 4, ground := Ground.data }], guard := none }) (v := .tuple #[.agg #[.bool b, .slice z1 ns.length u1, .slice z2 ds.length u2], .int .i64 0]) rfl (by kernel_rfl) (by kernel_rfl) (by kernel_rfl) (fun _ _ _ h => hP _ _ _ _ _ h) (Or.inl ⟨by rfl, (by intro w hSw; (try dsimp only at hSw); go_simp)⟩) (by assumption) ?_
      simp only [Act.put, List.setIfInBounds_toArray, List.set_cons_zero, List.set_cons_succ]
      refine wpAnyH_take (i := 6) (oi := { dst := some 15, op := Op.extract (Operand.tmp 9) 0, type := 24, pos := "law.go:132", after := #[{ on := 5, ground := Ground.data }], guard := none }) (v := .agg #[.bool b, .slice z1 ns.length u1, .slice z2 ds.length u2]) rfl (by kernel_rfl) (by kernel_rfl) (by kernel_rfl) (fun _ _ _ h => hP _ _ _ _ _ h) (Or.inl ⟨by rfl, (by intro w hSw; (try dsimp only at hSw); go_simp)⟩) (by assumption) ?_
      simp only [Act.put, List.setIfInBounds_toArray, List.set_cons_zero, List.set_cons_succ]
      refine wpAnyH_take (i := 7) (oi := { dst := some 16, op := Op.extract (Operand.tmp 9) 1, type := 28, pos := "law.go:132", after := #[{ on := 5, ground := Ground.data }, { on := 9, ground := Ground.gcOnly Departure.lateStores }], guard := none }) (v := .int .i64 0) rfl (by kernel_rfl) (by kernel_rfl) (by kernel_rfl) (fun _ _ _ h => hP _ _ _ _ _ h) (Or.inl ⟨by rfl, (by intro w hSw; (try dsimp only at hSw); go_simp)⟩) (by assumption) ?_
      simp only [Act.put, List.setIfInBounds_toArray, List.set_cons_zero, List.set_cons_succ]
      refine wpAnyH_ready (rs := [9]) (by kernel_rfl) (by simp) ?_
      refine (AllReadyH.cons (o := { dst := none, op := Op.store 24 (Operand.tmp 7) (Operand.tmp 15), type := 0, pos := "law.go:132", after := #[{ on := 8, ground := Ground.data }, { on := 6, ground := Ground.data }, { on := 4, ground := Ground.chain }, { on := 0, ground := Ground.phase }, { on := 1, ground := Ground.phase }, { on := 2, ground := Ground.phase }, { on := 3, ground := Ground.phase }, { on := 4, ground := Ground.phase }, { on := 5, ground := Ground.phase }, { on := 6, ground := Ground.phase }, { on := 7, ground := Ground.textOnly Departure.lateStores }, { on := 8, ground := Ground.phase }], guard := none }) rfl (fun K hK => ?_) AllReadyH.nil)
      go_simp
      have r0 := BA.cell 0 rfl
      have r1 := BA.cell 1 rfl
      have r2 := BA.cell 2 rfl
      have f0 := BA.frozen 0
      have f1 := BA.frozen 1
      have f2 := BA.frozen 2
      have B3 := ((BA.put 0 (.bool b)).put 1 (.slice z1 ns.length u1)).put 2 (.slice z2 ds.length u2)
      have q1 := B3.cell 1 rfl
      have kS := Below.set3 kT nA (.bool b) (.slice z1 ns.length u1) (.slice z2 ds.length u2)
      have jS := HC.out kS
      go_simp
      refine hK.out _ _ (jS) (fun _ => ?_)
      clear hK K
      refine wpAnyH_take (i := 10) (oi := { dst := some 8, op := Op.assign (Operand.tmp 16), type := 28, pos := "law.go:132", after := #[{ on := 7, ground := Ground.data }, { on := 9, ground := Ground.chain }, { on := 0, ground := Ground.phase }, { on := 1, ground := Ground.phase }, { on := 2, ground := Ground.phase }, { on := 3, ground := Ground.phase }, { on := 4, ground := Ground.phase }, { on := 5, ground := Ground.phase }, { on := 6, ground := Ground.phase }, { on := 7, ground := Ground.phase }, { on := 8, ground := Ground.phase }, { on := 9, ground := Ground.phase }], guard := none }) (v := .int .i64 0) rfl (by kernel_rfl) (by kernel_rfl) (by kernel_rfl) (fun _ _ _ h => hP _ _ _ _ _ h) (Or.inl ⟨by rfl, (by intro w hSw; (try dsimp only at hSw); go_simp)⟩) (by assumption) ?_
      simp only [Act.put, List.setIfInBounds_toArray, List.set_cons_zero, List.set_cons_succ]
      refine wpAnyH_done (by kernel_rfl) ?_ _
      exact hQ _ ds0 ea ec r b z1 ns u1 z2 ds u2 _ q1 hL1 hTo kS
  · go_simp
    have kA : Below v.heap.size v (v.drew.alloc (.cells #[.bool false, .slice none 0 0, .slice none 0 0] 24)) := d1.trans ((below_alloc v.drew (.cells #[.bool false, .slice none 0 0, .slice none 0 0] 24)).mono d1.size)
    have jA := HC.out kA
    have BA : BoxA (v.drew.alloc (.cells #[.bool false, .slice none 0 0, .slice none 0 0] 24)) v.heap.size 24 #[.bool false, .slice none 0 0, .slice none 0 0] := boxA_new v.drew #[.bool false, .slice none 0 0, .slice none 0 0] 24
    have nA : v.heap.size ≤ v.heap.size := d1.size
    go_simp
    refine hK.out _ _ (jA) (fun _ => ?_)
    clear hK K
    refine wpAnyH_ready (rs := [0]) (by kernel_rfl) (by simp) ?_
    refine (AllReadyH.cons (o := { dst := some 10, op := Op.call { callee := Callee.value (Operand.func 24), args := #[], argTypes := #[] }, type := 26, pos := "law.go:132", after := #[], guard := none }) rfl (fun K hK => ?_) AllReadyH.nil)
    go_simp
    refine (env_any _).mono ?_
    rintro e wE ⟨ds0, ea, ec, hd, rfl, ho, pE⟩
    have kE : Below v.heap.size v wE := kA.trans (pE.mono kA.size)
    have jE := HC.out kE
    have lBA := BA.lt
    replace BA := BA.below pE lBA
    clear lBA
    go_simp
    refine hK.out _ _ (jE) (fun _ => ?_)
    clear hK K
    refine wpAnyH_ready (rs := [4]) (by kernel_rfl) (by simp) ?_
    refine (AllReadyH.cons (o := { dst := some 14, op := Op.call { callee := Callee.value (Operand.func 13), args := #[Operand.tmp 10, Operand.tmp 11, Operand.tmp 12, Operand.tmp 13], argTypes := #[26, 21, 24, 24] }, type := 29, pos := "law.go:132", after := #[{ on := 0, ground := Ground.data }, { on := 1, ground := Ground.data }, { on := 2, ground := Ground.data }, { on := 3, ground := Ground.data }, { on := 0, ground := Ground.chain }], guard := none }) rfl (fun K hK => ?_) AllReadyH.nil)
    go_simp
    refine (KT.out _ ds0 ea ec hd (ho.rd) kE).mono ?_
    rintro e wT ⟨⟨r, b, z1, ns, u1, z2, ds, u2, rfl, hL1, hL2, hTo⟩, pT⟩
    have kT : Below v.heap.size v wT := kE.trans (pT.mono kE.size)
    have jT := HC.out kT
    have lBA := BA.lt
    replace BA := BA.below pT lBA
    clear lBA
    go_simp
    refine hK.out _ _ (jT) (fun _ => ?_)
    clear hK K
    refine wpAnyH_take (i := 5) (oi := { dst := some 9, op := Op.move (Operand.tmp 14), type := 29, pos := "law.go:132", after := #[{ on := 4, ground := Ground.data }], guard := none }) (v := .tuple #[.agg #[.bool b, .slice z1 ns.length u1, .slice z2 ds.length u2], .int .i64 0]) rfl (by kernel_rfl) (by kernel_rfl) (by kernel_rfl) (fun _ _ _ h => hP _ _ _ _ _ h) (Or.inl ⟨by rfl, (by intro w hSw; (try dsimp only at hSw); go_simp)⟩) (by assumption) ?_
    simp only [Act.put, List.setIfInBounds_toArray, List.set_cons_zero, List.set_cons_succ]
    refine wpAnyH_take (i := 6) (oi := { dst := some 15, op := Op.extract (Operand.tmp 9) 0, type := 24, pos := "law.go:132", after := #[{ on := 5, ground := Ground.data }], guard := none }) (v := .agg #[.bool b, .slice z1 ns.length u1, .slice z2 ds.length u2]) rfl (by kernel_rfl) (by kernel_rfl) (by kernel_rfl) (fun _ _ _ h => hP _ _ _ _ _ h) (Or.inl ⟨by rfl, (by intro w hSw; (try dsimp only at hSw); go_simp)⟩) (by assumption) ?_
    simp only [Act.put, List.setIfInBounds_toArray, List.set_cons_zero, List.set_cons_succ]
    refine wpAnyH_take (i := 7) (oi := { dst := some 16, op := Op.extract (Operand.tmp 9) 1, type := 28, pos := "law.go:132", after := #[{ on := 5, ground := Ground.data }, { on := 9, ground := Ground.gcOnly Departure.lateStores }], guard := none }) (v := .int .i64 0) rfl (by kernel_rfl) (by kernel_rfl) (by kernel_rfl) (fun _ _ _ h => hP _ _ _ _ _ h) (Or.inl ⟨by rfl, (by intro w hSw; (try dsimp only at hSw); go_simp)⟩) (by assumption) ?_
    simp only [Act.put, List.setIfInBounds_toArray, List.set_cons_zero, List.set_cons_succ]
    refine wpAnyH_ready (rs := [9]) (by kernel_rfl) (by simp) ?_
    refine (AllReadyH.cons (o := { dst := none, op := Op.store 24 (Operand.tmp 7) (Operand.tmp 15), type := 0, pos := "law.go:132", after := #[{ on := 8, ground := Ground.data }, { on := 6, ground := Ground.data }, { on := 4, ground := Ground.chain }, { on := 0, ground := Ground.phase }, { on := 1, ground := Ground.phase }, { on := 2, ground := Ground.phase }, { on := 3, ground := Ground.phase }, { on := 4, ground := Ground.phase }, { on := 5, ground := Ground.phase }, { on := 6, ground := Ground.phase }, { on := 7, ground := Ground.textOnly Departure.lateStores }, { on := 8, ground := Ground.phase }], guard := none }) rfl (fun K hK => ?_) AllReadyH.nil)
    go_simp
    have r0 := BA.cell 0 rfl
    have r1 := BA.cell 1 rfl
    have r2 := BA.cell 2 rfl
    have f0 := BA.frozen 0
    have f1 := BA.frozen 1
    have f2 := BA.frozen 2
    have B3 := ((BA.put 0 (.bool b)).put 1 (.slice z1 ns.length u1)).put 2 (.slice z2 ds.length u2)
    have q1 := B3.cell 1 rfl
    have kS := Below.set3 kT nA (.bool b) (.slice z1 ns.length u1) (.slice z2 ds.length u2)
    have jS := HC.out kS
    go_simp
    refine hK.out _ _ (jS) (fun _ => ?_)
    clear hK K
    refine wpAnyH_take (i := 10) (oi := { dst := some 8, op := Op.assign (Operand.tmp 16), type := 28, pos := "law.go:132", after := #[{ on := 7, ground := Ground.data }, { on := 9, ground := Ground.chain }, { on := 0, ground := Ground.phase }, { on := 1, ground := Ground.phase }, { on := 2, ground := Ground.phase }, { on := 3, ground := Ground.phase }, { on := 4, ground := Ground.phase }, { on := 5, ground := Ground.phase }, { on := 6, ground := Ground.phase }, { on := 7, ground := Ground.phase }, { on := 8, ground := Ground.phase }, { on := 9, ground := Ground.phase }], guard := none }) (v := .int .i64 0) rfl (by kernel_rfl) (by kernel_rfl) (by kernel_rfl) (fun _ _ _ h => hP _ _ _ _ _ h) (Or.inl ⟨by rfl, (by intro w hSw; (try dsimp only at hSw); go_simp)⟩) (by assumption) ?_
    simp only [Act.put, List.setIfInBounds_toArray, List.set_cons_zero, List.set_cons_succ]
    refine wpAnyH_done (by kernel_rfl) ?_ _
    exact hQ _ ds0 ea ec r b z1 ns u1 z2 ds u2 _ q1 hL1 hTo kS
set_option maxRecDepth 100000 in
set_option maxHeartbeats 16000000 in
theorem isSo_gen {j : Nat} {FV : Value} (hK : CmpK j FV Rb) (hget : ∀ b, atKey .nilFunc gl (tab2 b) = cmpV b (b + j)) (hcell : ∀ {a5 a6 : Option Addr} {n5 c5 n6 c6 : Nat} {b : Nat} {w' : World}, OfTwo b false a5 n5 c5 a6 n6 c6 w' → w'.cell? ⟨b + j, 0, none⟩ = some FV)
    (h3 : Rd w.heap.size w (.slice a1 xn.length c1) xn) (h4 : Rd w.heap.size w (.slice a2 xd.length c2) xd) (h5 : Rd w.heap.size w (.slice a3 yn.length c3) yn) (h6 : Rd w.heap.size w (.slice a4 yd.length c4) yd) (r2 : RightP bx xn xd) (r3 : RightP cy yn yd) :
    Calls Tryz.prog 32 #[.int .i32 gl, .agg #[.bool bx, .slice a1 xn.length c1, .slice a2 xd.length c2], .agg #[.bool cy, .slice a3 yn.length c3, .slice a4 yd.length c4]] w fun e w' => (∃ r, e = .returned (.bool (Rb r)) ∧ Hid (TolIs (RightP false [] [(1 : Int)] ∧ RightP bx xn xd ∧ RightP cy yn yd) (WithinI false (val []) (val [(1 : Int)]) (apartI bx (val xn) (val xd) cy (val yn) (val yd)) (val xn) (val xd) (val yn) (val yd)) (sg bx (val xn) * val yd) (sg cy (val yn) * val xd) r)) ∧ Below w.heap.size w w' := by
  have k1 := below_alloc w (.cells #[.bool bx, .slice a1 xn.length c1, .slice a2 xd.length c2] 24)
  have k2 := below_alloc (w.alloc (.cells #[.bool bx, .slice a1 xn.length c1, .slice a2 xd.length c2] 24)) (.cells #[.bool cy, .slice a3 yn.length c3, .slice a4 yd.length c4] 24)
  have Xb := (boxA_new w #[.bool bx, .slice a1 xn.length c1, .slice a2 xd.length c2] 24).below k2 (by simp)
  have Yb := boxA_new (w.alloc (.cells #[.bool bx, .slice a1 xn.length c1, .slice a2 xd.length c2] 24)) #[.bool cy, .slice a3 yn.length c3, .slice a4 yd.length c4] 24
  rw [World.size_alloc] at Yb
  have g : Below w.heap.size w ((w.alloc (.cells #[.bool bx, .slice a1 xn.length c1, .slice a2 xd.length c2] 24)).alloc (.cells #[.bool cy, .slice a3 yn.length c3, .slice a4 yd.length c4] 24)) := k1.trans (k2.mono (by simp))
  have sz : ((w.alloc (.cells #[.bool bx, .slice a1 xn.length c1, .slice a2 xd.length c2] 24)).alloc (.cells #[.bool cy, .slice a3 yn.length c3, .slice a4 yd.length c4] 24)).heap.size = w.heap.size + 1 + 1 := by simp
  have HC : Hid (∀ {w' : World}, Below ((w.alloc (.cells #[.bool bx, .slice a1 xn.length c1, .slice a2 xd.length c2] 24)).alloc (.cells #[.bool cy, .slice a3 yn.length c3, .slice a4 yd.length c4] 24)).heap.size ((w.alloc (.cells #[.bool bx, .slice a1 xn.length c1, .slice a2 xd.length c2] 24)).alloc (.cells #[.bool cy, .slice a3 yn.length c3, .slice a4 yd.length c4] 24)) w' → w'.cell? ⟨w.heap.size, 0, none⟩ = some (.bool bx) ∧ w'.cell? ⟨w.heap.size, 1, none⟩ = some (.slice a1 xn.length c1) ∧ w'.cell? ⟨w.heap.size, 2, none⟩ = some (.slice a2 xd.length c2) ∧ w'.cell? ⟨w.heap.size + 1, 0, none⟩ = some (.bool cy) ∧ w'.cell? ⟨w.heap.size + 1, 1, none⟩ = some (.slice a3 yn.length c3) ∧ w'.cell? ⟨w.heap.size + 1, 2, none⟩ = some (.slice a4 yd.length c4)) := fun k => ⟨(Xb.below k (by omega)).cell 0 rfl, (Xb.below k (by omega)).cell 1 rfl, (Xb.below k (by omega)).cell 2 rfl, (Yb.below k (by omega)).cell 0 rfl, (Yb.below k (by omega)).cell 1 rfl, (Yb.below k (by omega)).cell 2 rfl⟩
  have KT : Hid (∀ u (ds0 : List Int) ea ec, Hid (ds0 = [(1 : Int)]) → Rd u.heap.size u (.slice ea ds0.length ec) ds0 → Below ((w.alloc (.cells #[.bool bx, .slice a1 xn.length c1, .slice a2 xd.length c2] 24)).alloc (.cells #[.bool cy, .slice a3 yn.length c3, .slice a4 yd.length c4] 24)).heap.size ((w.alloc (.cells #[.bool bx, .slice a1 xn.length c1, .slice a2 xd.length c2] 24)).alloc (.cells #[.bool cy, .slice a3 yn.length c3, .slice a4 yd.length c4] 24)) u → Calls Tryz.prog 13 #[.agg #[.int .i64 1, .bool false, .slice none 0 0, .slice ea ds0.length ec, .int .i64 0], .int .i32 gl, .agg #[.bool bx, .slice a1 xn.length c1, .slice a2 xd.length c2], .agg #[.bool cy, .slice a3 yn.length c3, .slice a4 yd.length c4]] u fun e w' => (∃ r b z1 ns u1 z2 ds u2, e = .returned (.tuple #[.agg #[.bool b, .slice z1 ns.length u1, .slice z2 ds.length u2], .int .i64 0]) ∧ Hid ((ns : List Int).length = if Rb r then 1 else 0) ∧ Hid ((ds : List Int).length = 1) ∧ Hid (TolIs (RightP false [] [(1 : Int)] ∧ RightP bx xn xd ∧ RightP cy yn yd) (WithinI false (val []) (val [(1 : Int)]) (apartI bx (val xn) (val xd) cy (val yn) (val yd)) (val xn) (val xd) (val yn) (val yd)) (sg bx (val xn) * val yd) (sg cy (val yn) * val xd) r)) ∧ Below u.heap.size u w') := fun u ds0 ea ec hd hr hk => by
    have gu : Below w.heap.size w u := g.trans (hk.mono g.size)
    have e1 := hd.out
    subst e1
    exact two_gen (io := 1) (pp := 0) (tn := []) (bt := false) (a5 := none) (c5 := 0) hK hget hcell (own_nilT 0 u).rd hr ((h3.below gu).mono gu.size) ((h4.below gu).mono gu.size) ((h5.below gu).mono gu.size) ((h6.below gu).mono gu.size) one_rightT r2 r3
  clear k1 k2 hK hget hcell h3 h4 h5 h6 r2 r3
  go_enter Tryz.func32, Tryz.ntmps32
  go_upto_region 1 with fail
  generalize hA : (w.alloc (.cells #[.bool bx, .slice a1 xn.length c1, .slice a2 xd.length c2] 24)).alloc (.cells #[.bool cy, .slice a3 yn.length c3, .slice a4 yd.length c4] 24) = v at *
  clear hA
  refine wp_region_noPanic ?_
  refine sorg (w := w) (v := v) (bx := bx) (cy := cy) (a1 := a1) (a2 := a2) (a3 := a3) (a4 := a4) (xn := xn) (xd := xd) (yn := yn) (yd := yd) (c1 := c1) (c2 := c2) (c3 := c3) (c4 := c4) (Rb := Rb) HC KT ?hq (fun _ _ _ _ _ h => h)
  intro A ds0 ea ec r b z1 ns u1 z2 ds u2 w' hc hL hT kk
  refine NoPanic.normal ?_
  simp only [Exit.then]
  obtain ⟨n, hn⟩ : ∃ n, ns.length = n := ⟨_, rfl⟩
  rw [hn] at hc ⊢
  have hln := hL.out
  rw [hn] at hln
  have HLn : Hid (n = if Rb r then 1 else 0) := hln
  clear hL hn hln
  cases hb : Rb r
  · have e0 : n = 0 := by have := HLn.out; rw [hb] at this; simpa using this
    subst e0
    go_wp2
    go_ret
    exact ⟨⟨r, by rw [hb]; rfl, hT⟩, g.trans (kk.mono g.size)⟩
  · have e0 : n = 1 := by have := HLn.out; rw [hb] at this; simpa using this
    subst e0
    go_wp2
    go_ret
    exact ⟨⟨r, by rw [hb]; rfl, hT⟩, g.trans (kk.mono g.size)⟩
end
end Go.Proofs.YtopndegbofokiaaGreat

/- isSo of the six comparisons. -/
namespace Go.Proofs.YtopndegbofokiaaGreat
set_option linter.unusedVariables false
set_option linter.unusedSimpArgs false
open Go.RowKit

/-- How two numbers stand to each other. -/
def SoR (bx : Bool) (xn xd : List Int) (cy : Bool) (yn yd : List Int) (r : Int) : Prop := TolIs (RightP false [] [(1 : Int)] ∧ RightP bx xn xd ∧ RightP cy yn yd) (WithinI false (val []) (val [(1 : Int)]) (apartI bx (val xn) (val xd) cy (val yn) (val yd)) (val xn) (val xd) (val yn) (val yd)) (sg bx (val xn) * val yd) (sg cy (val yn) * val xd) r
/-- What isSo tells. -/
def SoIs (gl : Int) (bx : Bool) (xn xd : List Int) (cy : Bool) (yn yd : List Int) (X Y : Value) (Rb : Int → Bool) (w : World) : Prop := ∀ u, Below w.heap.size w u → Calls Tryz.prog 32 #[.int .i32 gl, X, Y] u fun e w' => (∃ r, e = .returned (.bool (Rb r)) ∧ Hid (SoR bx xn xd cy yn yd r)) ∧ Below u.heap.size u w'
theorem SoR.one {bx : Bool} {xn xd : List Int} {cy : Bool} {yn yd : List Int} {r s : Int} (h : SoR bx xn xd cy yn yd r) (k : SoR bx xn xd cy yn yd s) : s = r := TolIs.unique h k
theorem SoR.bound {bx : Bool} {xn xd : List Int} {cy : Bool} {yn yd : List Int} {r : Int} (h : SoR bx xn xd cy yn yd r) : r = -1 ∨ r = 0 ∨ r = 1 := by
  have := tol_bound h
  omega
section
variable {w : World} {bx cy : Bool} {a1 a2 a3 a4 : Option Addr} {xn xd yn yd : List Int} {c1 c2 c3 c4 : Nat}
theorem so_4 (h3 : Rd w.heap.size w (.slice a1 xn.length c1) xn) (h4 : Rd w.heap.size w (.slice a2 xd.length c2) xd) (h5 : Rd w.heap.size w (.slice a3 yn.length c3) yn) (h6 : Rd w.heap.size w (.slice a4 yd.length c4) yd) (r2 : RightP bx xn xd) (r3 : RightP cy yn yd) : SoIs 60 bx xn xd cy yn yd (.agg #[.bool bx, .slice a1 xn.length c1, .slice a2 xd.length c2]) (.agg #[.bool cy, .slice a3 yn.length c3, .slice a4 yd.length c4]) (fun r => decide (r < 0)) w := fun u gu =>
  isSo_gen (j := 2) (FV := .func (.func 121) #[] #[]) (Rb := fun r => decide (r < 0)) (fun hf t0 t1 t2 h1 h2 h3 h4 h5 h6 => cmpG (kf := 121) (Rb := fun r => decide (r < 0)) holdK_4 hf t0 t1 t2 h1 h2 h3 h4 h5 h6) (fun b => by simp [atKey, tab2]) (fun h => h.cells.2.2.2.1) ((h3.below gu).mono gu.size) ((h4.below gu).mono gu.size) ((h5.below gu).mono gu.size) ((h6.below gu).mono gu.size) r2 r3
theorem so_5 (h3 : Rd w.heap.size w (.slice a1 xn.length c1) xn) (h4 : Rd w.heap.size w (.slice a2 xd.length c2) xd) (h5 : Rd w.heap.size w (.slice a3 yn.length c3) yn) (h6 : Rd w.heap.size w (.slice a4 yd.length c4) yd) (r2 : RightP bx xn xd) (r3 : RightP cy yn yd) : SoIs 8804 bx xn xd cy yn yd (.agg #[.bool bx, .slice a1 xn.length c1, .slice a2 xd.length c2]) (.agg #[.bool cy, .slice a3 yn.length c3, .slice a4 yd.length c4]) (fun r => decide (r ≤ 0)) w := fun u gu =>
  isSo_gen (j := 3) (FV := .func (.func 122) #[] #[]) (Rb := fun r => decide (r ≤ 0)) (fun hf t0 t1 t2 h1 h2 h3 h4 h5 h6 => cmpG (kf := 122) (Rb := fun r => decide (r ≤ 0)) holdK_5 hf t0 t1 t2 h1 h2 h3 h4 h5 h6) (fun b => by simp [atKey, tab2]) (fun h => h.cells.2.2.2.2.1) ((h3.below gu).mono gu.size) ((h4.below gu).mono gu.size) ((h5.below gu).mono gu.size) ((h6.below gu).mono gu.size) r2 r3
theorem so_6 (h3 : Rd w.heap.size w (.slice a1 xn.length c1) xn) (h4 : Rd w.heap.size w (.slice a2 xd.length c2) xd) (h5 : Rd w.heap.size w (.slice a3 yn.length c3) yn) (h6 : Rd w.heap.size w (.slice a4 yd.length c4) yd) (r2 : RightP bx xn xd) (r3 : RightP cy yn yd) : SoIs 61 bx xn xd cy yn yd (.agg #[.bool bx, .slice a1 xn.length c1, .slice a2 xd.length c2]) (.agg #[.bool cy, .slice a3 yn.length c3, .slice a4 yd.length c4]) (fun r => decide (r = 0)) w := fun u gu =>
  isSo_gen (j := 4) (FV := .func (.func 123) #[] #[]) (Rb := fun r => decide (r = 0)) (fun hf t0 t1 t2 h1 h2 h3 h4 h5 h6 => cmpG (kf := 123) (Rb := fun r => decide (r = 0)) holdK_6 hf t0 t1 t2 h1 h2 h3 h4 h5 h6) (fun b => by simp [atKey, tab2]) (fun h => h.cells.2.2.2.2.2.1) ((h3.below gu).mono gu.size) ((h4.below gu).mono gu.size) ((h5.below gu).mono gu.size) ((h6.below gu).mono gu.size) r2 r3
theorem so_7 (h3 : Rd w.heap.size w (.slice a1 xn.length c1) xn) (h4 : Rd w.heap.size w (.slice a2 xd.length c2) xd) (h5 : Rd w.heap.size w (.slice a3 yn.length c3) yn) (h6 : Rd w.heap.size w (.slice a4 yd.length c4) yd) (r2 : RightP bx xn xd) (r3 : RightP cy yn yd) : SoIs 8805 bx xn xd cy yn yd (.agg #[.bool bx, .slice a1 xn.length c1, .slice a2 xd.length c2]) (.agg #[.bool cy, .slice a3 yn.length c3, .slice a4 yd.length c4]) (fun r => decide (0 ≤ r)) w := fun u gu =>
  isSo_gen (j := 5) (FV := .func (.func 124) #[] #[]) (Rb := fun r => decide (0 ≤ r)) (fun hf t0 t1 t2 h1 h2 h3 h4 h5 h6 => cmpG (kf := 124) (Rb := fun r => decide (0 ≤ r)) holdK_7 hf t0 t1 t2 h1 h2 h3 h4 h5 h6) (fun b => by simp [atKey, tab2]) (fun h => h.cells.2.2.2.2.2.2.1) ((h3.below gu).mono gu.size) ((h4.below gu).mono gu.size) ((h5.below gu).mono gu.size) ((h6.below gu).mono gu.size) r2 r3
theorem so_8 (h3 : Rd w.heap.size w (.slice a1 xn.length c1) xn) (h4 : Rd w.heap.size w (.slice a2 xd.length c2) xd) (h5 : Rd w.heap.size w (.slice a3 yn.length c3) yn) (h6 : Rd w.heap.size w (.slice a4 yd.length c4) yd) (r2 : RightP bx xn xd) (r3 : RightP cy yn yd) : SoIs 62 bx xn xd cy yn yd (.agg #[.bool bx, .slice a1 xn.length c1, .slice a2 xd.length c2]) (.agg #[.bool cy, .slice a3 yn.length c3, .slice a4 yd.length c4]) (fun r => decide (0 < r)) w := fun u gu =>
  isSo_gen (j := 6) (FV := .func (.func 125) #[] #[]) (Rb := fun r => decide (0 < r)) (fun hf t0 t1 t2 h1 h2 h3 h4 h5 h6 => cmpG (kf := 125) (Rb := fun r => decide (0 < r)) holdK_8 hf t0 t1 t2 h1 h2 h3 h4 h5 h6) (fun b => by simp [atKey, tab2]) (fun h => h.cells.2.2.2.2.2.2.2.1) ((h3.below gu).mono gu.size) ((h4.below gu).mono gu.size) ((h5.below gu).mono gu.size) ((h6.below gu).mono gu.size) r2 r3
theorem so_9 (h3 : Rd w.heap.size w (.slice a1 xn.length c1) xn) (h4 : Rd w.heap.size w (.slice a2 xd.length c2) xd) (h5 : Rd w.heap.size w (.slice a3 yn.length c3) yn) (h6 : Rd w.heap.size w (.slice a4 yd.length c4) yd) (r2 : RightP bx xn xd) (r3 : RightP cy yn yd) : SoIs 8800 bx xn xd cy yn yd (.agg #[.bool bx, .slice a1 xn.length c1, .slice a2 xd.length c2]) (.agg #[.bool cy, .slice a3 yn.length c3, .slice a4 yd.length c4]) (fun r => !decide (r = 0)) w := fun u gu =>
  isSo_gen (j := 7) (FV := .func (.func 126) #[] #[]) (Rb := fun r => !decide (r = 0)) (fun hf t0 t1 t2 h1 h2 h3 h4 h5 h6 => cmpG (kf := 126) (Rb := fun r => !decide (r = 0)) holdK_9 hf t0 t1 t2 h1 h2 h3 h4 h5 h6) (fun b => by simp [atKey, tab2]) (fun h => h.cells.2.2.2.2.2.2.2.2.1) ((h3.below gu).mono gu.size) ((h4.below gu).mono gu.size) ((h5.below gu).mono gu.size) ((h6.below gu).mono gu.size) r2 r3
end
end Go.Proofs.YtopndegbofokiaaGreat

/- ScalarOne: three comparisons. -/
namespace Go.Proofs.YtopndegbofokiaaGreat
set_option linter.unusedVariables false
set_option linter.unusedSimpArgs false
open Go.RowKit

section
variable {w : World} {bx cy : Bool} {a1 a2 a3 a4 : Option Addr} {xn xd yn yd : List Int} {c1 c2 c3 c4 : Nat} {v : World}
set_option maxRecDepth 100000 in
set_option maxHeartbeats 16000000 in
theorem onerg {Q : Exit → Act → World → Prop} {t4 t5 t6 t7 t8 t9 t10 t11 t12 t13 t14 t15 t16 t17 t18 t19 t20 t21 t22 t23 t24 t25 t26 t27 t28 t29 t30 t31 t32 t33 t34 t35 t36 t37 t38 t39 t40 t41 t42 t43 t44 t45 t46 t47 t48 t49 t50 t51 t52 t53 t54 t55 t56 t57 t58 t59 t60 t61 t62 t63 t64 t65 t66 t67 t68 : Value} (HC : Hid (∀ {w' : World}, Below v.heap.size v w' → w'.cell? ⟨w.heap.size, 0, none⟩ = some (.bool bx) ∧ w'.cell? ⟨w.heap.size, 1, none⟩ = some (.slice a1 xn.length c1) ∧ w'.cell? ⟨w.heap.size, 2, none⟩ = some (.slice a2 xd.length c2) ∧ w'.cell? ⟨w.heap.size + 1, 0, none⟩ = some (.bool cy) ∧ w'.cell? ⟨w.heap.size + 1, 1, none⟩ = some (.slice a3 yn.length c3) ∧ w'.cell? ⟨w.heap.size + 1, 2, none⟩ = some (.slice a4 yd.length c4)))
    (K1 : Hid (SoIs 60 bx xn xd cy yn yd (.agg #[.bool bx, .slice a1 xn.length c1, .slice a2 xd.length c2]) (.agg #[.bool cy, .slice a3 yn.length c3, .slice a4 yd.length c4]) (fun r => decide (r < 0)) v)) (K2 : Hid (SoIs 61 bx xn xd cy yn yd (.agg #[.bool bx, .slice a1 xn.length c1, .slice a2 xd.length c2]) (.agg #[.bool cy, .slice a3 yn.length c3, .slice a4 yd.length c4]) (fun r => decide (r = 0)) v)) (K3 : Hid (SoIs 62 bx xn xd cy yn yd (.agg #[.bool bx, .slice a1 xn.length c1, .slice a2 xd.length c2]) (.agg #[.bool cy, .slice a3 yn.length c3, .slice a4 yd.length c4]) (fun r => decide (0 < r)) v))
    (hQ : ∀ r w', Hid (SoR bx xn xd cy yn yd r) → Below v.heap.size v w' → Q .normal { tmps := #[.agg #[.bool bx, .slice a1 xn.length c1, .slice a2 xd.length c2], .agg #[.bool cy, .slice a3 yn.length c3, .slice a4 yd.length c4], .pointer (some ⟨w.heap.size, 0, none⟩), .pointer (some ⟨w.heap.size + 1, 0, none⟩), t4, .bool (decide (r < 0)), .bool (decide (r = 0)), .bool (decide (0 < r)), t8, t9, t10, t11, t12, t13, t14, t15, t16, t17, .agg #[.bool bx, .slice a1 xn.length c1, .slice a2 xd.length c2], .agg #[.bool cy, .slice a3 yn.length c3, .slice a4 yd.length c4], .bool (decide (r < 0)), .agg #[.bool bx, .slice a1 xn.length c1, .slice a2 xd.length c2], .agg #[.bool cy, .slice a3 yn.length c3, .slice a4 yd.length c4], .bool (decide (r = 0)), .agg #[.bool bx, .slice a1 xn.length c1, .slice a2 xd.length c2], .agg #[.bool cy, .slice a3 yn.length c3, .slice a4 yd.length c4], .bool (decide (0 < r)), t27, t28, t29, t30, t31, t32, t33, t34, t35, t36, t37, t38, t39, t40, t41, t42, t43, t44, t45, t46, t47, t48, t49, t50, t51, t52, t53, t54, t55, t56, t57, t58, t59, t60, t61, t62, t63, t64, t65, t66, t67, t68], defers := [] } w') (hP : ∀ c a d x w, Q (.panic c) (Act.put a d x) w → Q (.panic c) a w) :
    (Code.region 3 #[{ dst := some 18, op := Op.load 24 (Operand.tmp 2), type := 24, pos := "law.go:116", after := #[], guard := none }, { dst := some 19, op := Op.load 24 (Operand.tmp 3), type := 24, pos := "law.go:116", after := #[], guard := none }, { dst := some 20, op := Op.call { callee := Callee.value (Operand.func 32), args := #[Operand.const (Value.int IntKind.i32 60), Operand.tmp 18, Operand.tmp 19], argTypes := #[21, 24, 24] }, type := 4, pos := "law.go:116", after := #[{ on := 0, ground := Ground.data }, { on := 1, ground := Ground.data }], guard := none }, { dst := some 21, op := Op.load 24 (Operand.tmp 2), type := 24, pos := "law.go:116", after := #[], guard := none }, { dst := some 22, op := Op.load 24 (Operand.tmp 3), type := 24, pos := "law.go:116", after := #[], guard := none }, { dst := some 23, op := Op.call { callee := Callee.value (Operand.func 32), args := #[Operand.const (Value.int IntKind.i32 61), Operand.tmp 21, Operand.tmp 22], argTypes := #[21, 24, 24] }, type := 4, pos := "law.go:116", after := #[{ on := 3, ground := Ground.data }, { on := 4, ground := Ground.data }, { on := 2, ground := Ground.chain }], guard := none }, { dst := some 24, op := Op.load 24 (Operand.tmp 2), type := 24, pos := "law.go:116", after := #[], guard := none }, { dst := some 25, op := Op.load 24 (Operand.tmp 3), type := 24, pos := "law.go:116", after := #[], guard := none }, { dst := some 26, op := Op.call { callee := Callee.value (Operand.func 32), args := #[Operand.const (Value.int IntKind.i32 62), Operand.tmp 24, Operand.tmp 25], argTypes := #[21, 24, 24] }, type := 4, pos := "law.go:116", after := #[{ on := 6, ground := Ground.data }, { on := 7, ground := Ground.data }, { on := 5, ground := Ground.chain }], guard := none }, { dst := some 5, op := Op.assign (Operand.tmp 20), type := 4, pos := "law.go:116", after := #[{ on := 2, ground := Ground.data }, { on := 8, ground := Ground.chain }, { on := 0, ground := Ground.phase }, { on := 1, ground := Ground.phase }, { on := 2, ground := Ground.phase }, { on := 3, ground := Ground.textOnly Departure.lateStores }, { on := 4, ground := Ground.textOnly Departure.lateStores }, { on := 5, ground := Ground.textOnly Departure.lateStoresUnsure }, { on := 6, ground := Ground.textOnly Departure.lateStores }, { on := 7, ground := Ground.textOnly Departure.lateStores }, { on := 8, ground := Ground.textOnly Departure.lateStoresUnsure }], guard := none }, { dst := some 6, op := Op.assign (Operand.tmp 23), type := 4, pos := "law.go:116", after := #[{ on := 5, ground := Ground.data }, { on := 9, ground := Ground.chain }, { on := 0, ground := Ground.phase }, { on := 1, ground := Ground.phase }, { on := 2, ground := Ground.phase }, { on := 3, ground := Ground.phase }, { on := 4, ground := Ground.phase }, { on := 5, ground := Ground.phase }, { on := 6, ground := Ground.textOnly Departure.lateStores }, { on := 7, ground := Ground.textOnly Departure.lateStores }, { on := 8, ground := Ground.textOnly Departure.lateStoresUnsure }, { on := 9, ground := Ground.phase }], guard := none }, { dst := some 7, op := Op.assign (Operand.tmp 26), type := 4, pos := "law.go:116", after := #[{ on := 8, ground := Ground.data }, { on := 10, ground := Ground.chain }, { on := 0, ground := Ground.phase }, { on := 1, ground := Ground.phase }, { on := 2, ground := Ground.phase }, { on := 3, ground := Ground.phase }, { on := 4, ground := Ground.phase }, { on := 5, ground := Ground.phase }, { on := 6, ground := Ground.phase }, { on := 7, ground := Ground.phase }, { on := 8, ground := Ground.phase }, { on := 9, ground := Ground.phase }, { on := 10, ground := Ground.phase }], guard := none }] true).wp Tryz.prog Q { tmps := #[.agg #[.bool bx, .slice a1 xn.length c1, .slice a2 xd.length c2], .agg #[.bool cy, .slice a3 yn.length c3, .slice a4 yd.length c4], .pointer (some ⟨w.heap.size, 0, none⟩), .pointer (some ⟨w.heap.size + 1, 0, none⟩), t4, t5, t6, t7, t8, t9, t10, t11, t12, t13, t14, t15, t16, t17, t18, t19, t20, t21, t22, t23, t24, t25, t26, t27, t28, t29, t30, t31, t32, t33, t34, t35, t36, t37, t38, t39, t40, t41, t42, t43, t44, t45, t46, t47, t48, t49, t50, t51, t52, t53, t54, t55, t56, t57, t58, t59, t60, t61, t62, t63, t64, t65, t66, t67, t68], defers := [] } v := by
  have d1 : Below v.heap.size v v.drew := ⟨rfl, rfl, rfl, Nat.le_refl _, fun _ _ => rfl⟩
  have j0 := HC.out d1
  refine wp_region_held_drew (S := (fun w' => w'.cell? ⟨w.heap.size, 0, none⟩ = some (.bool bx) ∧ w'.cell? ⟨w.heap.size, 1, none⟩ = some (.slice a1 xn.length c1) ∧ w'.cell? ⟨w.heap.size, 2, none⟩ = some (.slice a2 xd.length c2) ∧ w'.cell? ⟨w.heap.size + 1, 0, none⟩ = some (.bool cy) ∧ w'.cell? ⟨w.heap.size + 1, 1, none⟩ = some (.slice a3 yn.length c3) ∧ w'.cell? ⟨w.heap.size + 1, 2, none⟩ = some (.slice a4 yd.length c4))) (by kernel_rfl) j0 (fun hS => ?_)
  refine wpAnyH_take (i := 0) (oi := { dst := some 18, op := Op.load 24 (Operand.tmp 2), type := 24, pos := "law.go:116", after := #[], guard := none }) (v := .agg #[.bool bx, .slice a1 xn.length c1, .slice a2 xd.length c2]) rfl (by kernel_rfl) (by kernel_rfl) (by kernel_rfl) (fun _ _ _ h => hP _ _ _ _ _ h) (Or.inl ⟨by rfl, (by intro w hSw; (try dsimp only at hSw); go_simp)⟩) (by assumption) ?_
  simp only [Act.put, List.setIfInBounds_toArray, List.set_cons_zero, List.set_cons_succ]
  refine wpAnyH_take (i := 1) (oi := { dst := some 19, op := Op.load 24 (Operand.tmp 3), type := 24, pos := "law.go:116", after := #[], guard := none }) (v := .agg #[.bool cy, .slice a3 yn.length c3, .slice a4 yd.length c4]) rfl (by kernel_rfl) (by kernel_rfl) (by kernel_rfl) (fun _ _ _ h => hP _ _ _ _ _ h) (Or.inl ⟨by rfl, (by intro w hSw; (try dsimp only at hSw); go_simp)⟩) (by assumption) ?_
  simp only [Act.put, List.setIfInBounds_toArray, List.set_cons_zero, List.set_cons_succ]
  refine wpAnyH_take (i := 3) (oi := { dst := some 21, op := Op.load 24 (Operand.tmp 2), type := 24, pos := "law.go:116", after := #[], guard := none }) (v := .agg #[.bool bx, .slice a1 xn.length c1, .slice a2 xd.length c2]) rfl (by kernel_rfl) (by kernel_rfl) (by kernel_rfl) (fun _ _ _ h => hP _ _ _ _ _ h) (Or.inl ⟨by rfl, (by intro w hSw; (try dsimp only at hSw); go_simp)⟩) (by assumption) ?_
  simp only [Act.put, List.setIfInBounds_toArray, List.set_cons_zero, List.set_cons_succ]
  refine wpAnyH_take (i := 4) (oi := { dst := some 22, op := Op.load 24 (Operand.tmp 3), type := 24, pos := "law.go:116", after := #[], guard := none }) (v := .agg #[.bool cy, .slice a3 yn.length c3, .slice a4 yd.length c4]) rfl (by kernel_rfl) (by kernel_rfl) (by kernel_rfl) (fun _ _ _ h => hP _ _ _ _ _ h) (Or.inl ⟨by rfl, (by intro w hSw; (try dsimp only at hSw); go_simp)⟩) (by assumption) ?_
  simp only [Act.put, List.setIfInBounds_toArray, List.set_cons_zero, List.set_cons_succ]
  refine wpAnyH_take (i := 6) (oi := { dst := some 24, op := Op.load 24 (Operand.tmp 2), type := 24, pos := "law.go:116", after := #[], guard := none }) (v := .agg #[.bool bx, .slice a1 xn.length c1, .slice a2 xd.length c2]) rfl (by kernel_rfl) (by kernel_rfl) (by kernel_rfl) (fun _ _ _ h => hP _ _ _ _ _ h) (Or.inl ⟨by rfl, (by intro w hSw; (try dsimp only at hSw); go_simp)⟩) (by assumption) ?_
  simp only [Act.put, List.setIfInBounds_toArray, List.set_cons_zero, List.set_cons_succ]
  refine wpAnyH_take (i := 7) (oi := { dst := some 25, op := Op.load 24 (Operand.tmp 3), type := 24, pos := "law.go:116", after := #[], guard := none }) (v := .agg #[.bool cy, .slice a3 yn.length c3, .slice a4 yd.length c4]) rfl (by kernel_rfl) (by kernel_rfl) (by kernel_rfl) (fun _ _ _ h => hP _ _ _ _ _ h) (Or.inl ⟨by rfl, (by intro w hSw; (try dsimp only at hSw); go_simp)⟩) (by assumption) ?_
  simp only [Act.put, List.setIfInBounds_toArray, List.set_cons_zero, List.set_cons_succ]
  refine wpAnyH_ready (rs := [2]) (by kernel_rfl) (by simp) ?_
  refine (AllReadyH.cons (o := { dst := some 20, op := Op.call { callee := Callee.value (Operand.func 32), args := #[Operand.const (Value.int IntKind.i32 60), Operand.tmp 18, Operand.tmp 19], argTypes := #[21, 24, 24] }, type := 4, pos := "law.go:116", after := #[{ on := 0, ground := Ground.data }, { on := 1, ground := Ground.data }], guard := none }) rfl (fun K hK => ?_) AllReadyH.nil)
  go_simp
  refine (K1.out _ d1).mono ?_
  rintro e w1 ⟨⟨r, rfl, hT⟩, p1⟩
  have k1 : Below v.heap.size v w1 := d1.trans (p1.mono d1.size)
  have j1 := HC.out k1
  go_simp
  refine hK.out _ _ (j1) (fun _ => ?_)
  clear hK K
  refine wpAnyH_ready (rs := [5]) (by kernel_rfl) (by simp) ?_
  refine (AllReadyH.cons (o := { dst := some 23, op := Op.call { callee := Callee.value (Operand.func 32), args := #[Operand.const (Value.int IntKind.i32 61), Operand.tmp 21, Operand.tmp 22], argTypes := #[21, 24, 24] }, type := 4, pos := "law.go:116", after := #[{ on := 3, ground := Ground.data }, { on := 4, ground := Ground.data }, { on := 2, ground := Ground.chain }], guard := none }) rfl (fun K hK => ?_) AllReadyH.nil)
  go_simp
  refine (K2.out _ k1).mono ?_
  rintro e w2 ⟨⟨s, rfl, hS2⟩, p2⟩
  obtain rfl := (hT.out.one hS2.out).symm
  clear hS2
  have k2 : Below v.heap.size v w2 := k1.trans (p2.mono k1.size)
  have j2 := HC.out k2
  go_simp
  refine hK.out _ _ (j2) (fun _ => ?_)
  clear hK K
  refine wpAnyH_ready (rs := [8]) (by kernel_rfl) (by simp) ?_
  refine (AllReadyH.cons (o := { dst := some 26, op := Op.call { callee := Callee.value (Operand.func 32), args := #[Operand.const (Value.int IntKind.i32 62), Operand.tmp 24, Operand.tmp 25], argTypes := #[21, 24, 24] }, type := 4, pos := "law.go:116", after := #[{ on := 6, ground := Ground.data }, { on := 7, ground := Ground.data }, { on := 5, ground := Ground.chain }], guard := none }) rfl (fun K hK => ?_) AllReadyH.nil)
  go_simp
  refine (K3.out _ k2).mono ?_
  rintro e w3 ⟨⟨s, rfl, hS2⟩, p3⟩
  obtain rfl := (hT.out.one hS2.out).symm
  clear hS2
  have k3 : Below v.heap.size v w3 := k2.trans (p3.mono k2.size)
  have j3 := HC.out k3
  go_simp
  refine hK.out _ _ (j3) (fun _ => ?_)
  clear hK K
  refine wpAnyH_take (i := 9) (oi := { dst := some 5, op := Op.assign (Operand.tmp 20), type := 4, pos := "law.go:116", after := #[{ on := 2, ground := Ground.data }, { on := 8, ground := Ground.chain }, { on := 0, ground := Ground.phase }, { on := 1, ground := Ground.phase }, { on := 2, ground := Ground.phase }, { on := 3, ground := Ground.textOnly Departure.lateStores }, { on := 4, ground := Ground.textOnly Departure.lateStores }, { on := 5, ground := Ground.textOnly Departure.lateStoresUnsure }, { on := 6, ground := Ground.textOnly Departure.lateStores }, { on := 7, ground := Ground.textOnly Departure.lateStores }, { on := 8, ground := Ground.textOnly Departure.lateStoresUnsure }], guard := none }) (v := .bool (decide (r < 0))) rfl (by kernel_rfl) (by kernel_rfl) (by kernel_rfl) (fun _ _ _ h => hP _ _ _ _ _ h) (Or.inl ⟨by rfl, (by intro w hSw; (try dsimp only at hSw); go_simp)⟩) (by assumption) ?_
  simp only [Act.put, List.setIfInBounds_toArray, List.set_cons_zero, List.set_cons_succ]
  refine wpAnyH_take (i := 10) (oi := { dst := some 6, op := Op.assign (Operand.tmp 23), type := 4, pos := "law.go:116", after := #[{ on := 5, ground := Ground.data }, { on := 9, ground := Ground.chain }, { on := 0, ground := Ground.phase }, { on := 1, ground := Ground.phase }, { on := 2, ground := Ground.phase }, { on := 3, ground := Ground.phase }, { on := 4, ground := Ground.phase }, { on := 5, ground := Ground.phase }, { on := 6, ground := Ground.textOnly Departure.lateStores }, { on := 7, ground := Ground.textOnly Departure.lateStores }, { on := 8, ground := Ground.textOnly Departure.lateStoresUnsure }, { on := 9, ground := Ground.phase }], guard := none }) (v := .bool (decide (r = 0))) rfl (by kernel_rfl) (by kernel_rfl) (by kernel_rfl) (fun _ _ _ h => hP _ _ _ _ _ h) (Or.inl ⟨by rfl, (by intro w hSw; (try dsimp only at hSw); go_simp)⟩) (by assumption) ?_
  simp only [Act.put, List.setIfInBounds_toArray, List.set_cons_zero, List.set_cons_succ]
  refine wpAnyH_take (i := 11) (oi := { dst := some 7, op := Op.assign (Operand.tmp 26), type := 4, pos := "law.go:116", after := #[{ on := 8, ground := Ground.data }, { on := 10, ground := Ground.chain }, { on := 0, ground := Ground.phase }, { on := 1, ground := Ground.phase }, { on := 2, ground := Ground.phase }, { on := 3, ground := Ground.phase }, { on := 4, ground := Ground.phase }, { on := 5, ground := Ground.phase }, { on := 6, ground := Ground.phase }, { on := 7, ground := Ground.phase }, { on := 8, ground := Ground.phase }, { on := 9, ground := Ground.phase }, { on := 10, ground := Ground.phase }], guard := none }) (v := .bool (decide (0 < r))) rfl (by kernel_rfl) (by kernel_rfl) (by kernel_rfl) (fun _ _ _ h => hP _ _ _ _ _ h) (Or.inl ⟨by rfl, (by intro w hSw; (try dsimp only at hSw); go_simp)⟩) (by assumption) ?_
  simp only [Act.put, List.setIfInBounds_toArray, List.set_cons_zero, List.set_cons_succ]
  refine wpAnyH_done (by kernel_rfl) ?_ _
  exact hQ r w3 hT k3
end
end Go.Proofs.YtopndegbofokiaaGreat

/- ScalarOne: of two numbers that are right just one of less, equal and greater holds, and the other three agree. -/
namespace Go.Proofs.YtopndegbofokiaaGreat
set_option linter.unusedVariables false
set_option linter.unusedSimpArgs false
open Go.RowKit

section
variable {w : World} {bx cy : Bool} {a1 a2 a3 a4 : Option Addr} {xn xd yn yd : List Int} {c1 c2 c3 c4 : Nat}
/-- What is left once three comparisons are told. -/
def OneK (w v : World) (bx : Bool) (xn xd : List Int) (cy : Bool) (yn yd : List Int) (X Y : Value) : Prop := SoIs 60 bx xn xd cy yn yd X Y (fun r => decide (r < 0)) v ∧ SoIs 61 bx xn xd cy yn yd X Y (fun r => decide (r = 0)) v ∧ SoIs 62 bx xn xd cy yn yd X Y (fun r => decide (0 < r)) v ∧ SoIs 8804 bx xn xd cy yn yd X Y (fun r => decide (r ≤ 0)) v ∧ SoIs 8805 bx xn xd cy yn yd X Y (fun r => decide (0 ≤ r)) v ∧ SoIs 8800 bx xn xd cy yn yd X Y (fun r => !decide (r = 0)) v
set_option maxRecDepth 100000 in
set_option maxHeartbeats 16000000 in
theorem scalarOne_walk (h1 : Rd w.heap.size w (.slice a1 xn.length c1) xn) (h2 : Rd w.heap.size w (.slice a2 xd.length c2) xd) (h3 : Rd w.heap.size w (.slice a3 yn.length c3) yn) (h4 : Rd w.heap.size w (.slice a4 yd.length c4) yd) :
    Calls Tryz.prog 7 #[.agg #[.bool bx, .slice a1 xn.length c1, .slice a2 xd.length c2], .agg #[.bool cy, .slice a3 yn.length c3, .slice a4 yd.length c4]] w fun e w' => e = .returned (.bool true) ∧ Below w.heap.size w w' := by
  have k1 := below_alloc w (.cells #[.bool bx, .slice a1 xn.length c1, .slice a2 xd.length c2] 24)
  have k2 := below_alloc (w.alloc (.cells #[.bool bx, .slice a1 xn.length c1, .slice a2 xd.length c2] 24)) (.cells #[.bool cy, .slice a3 yn.length c3, .slice a4 yd.length c4] 24)
  have Xb := (boxA_new w #[.bool bx, .slice a1 xn.length c1, .slice a2 xd.length c2] 24).below k2 (by simp)
  have Yb := boxA_new (w.alloc (.cells #[.bool bx, .slice a1 xn.length c1, .slice a2 xd.length c2] 24)) #[.bool cy, .slice a3 yn.length c3, .slice a4 yd.length c4] 24
  rw [World.size_alloc] at Yb
  have g : Below w.heap.size w ((w.alloc (.cells #[.bool bx, .slice a1 xn.length c1, .slice a2 xd.length c2] 24)).alloc (.cells #[.bool cy, .slice a3 yn.length c3, .slice a4 yd.length c4] 24)) := k1.trans (k2.mono (by simp))
  have sz : ((w.alloc (.cells #[.bool bx, .slice a1 xn.length c1, .slice a2 xd.length c2] 24)).alloc (.cells #[.bool cy, .slice a3 yn.length c3, .slice a4 yd.length c4] 24)).heap.size = w.heap.size + 1 + 1 := by simp
  have HC : Hid (∀ {w' : World}, Below ((w.alloc (.cells #[.bool bx, .slice a1 xn.length c1, .slice a2 xd.length c2] 24)).alloc (.cells #[.bool cy, .slice a3 yn.length c3, .slice a4 yd.length c4] 24)).heap.size ((w.alloc (.cells #[.bool bx, .slice a1 xn.length c1, .slice a2 xd.length c2] 24)).alloc (.cells #[.bool cy, .slice a3 yn.length c3, .slice a4 yd.length c4] 24)) w' → w'.cell? ⟨w.heap.size, 0, none⟩ = some (.bool bx) ∧ w'.cell? ⟨w.heap.size, 1, none⟩ = some (.slice a1 xn.length c1) ∧ w'.cell? ⟨w.heap.size, 2, none⟩ = some (.slice a2 xd.length c2) ∧ w'.cell? ⟨w.heap.size + 1, 0, none⟩ = some (.bool cy) ∧ w'.cell? ⟨w.heap.size + 1, 1, none⟩ = some (.slice a3 yn.length c3) ∧ w'.cell? ⟨w.heap.size + 1, 2, none⟩ = some (.slice a4 yd.length c4)) := fun k => ⟨(Xb.below k (by omega)).cell 0 rfl, (Xb.below k (by omega)).cell 1 rfl, (Xb.below k (by omega)).cell 2 rfl, (Yb.below k (by omega)).cell 0 rfl, (Yb.below k (by omega)).cell 1 rfl, (Yb.below k (by omega)).cell 2 rfl⟩
  have HR : Hid (∀ {u : World}, Below w.heap.size w u → Rd u.heap.size u (.slice a1 xn.length c1) xn ∧ Rd u.heap.size u (.slice a2 xd.length c2) xd ∧ Rd u.heap.size u (.slice a3 yn.length c3) yn ∧ Rd u.heap.size u (.slice a4 yd.length c4) yd) := fun k => ⟨(h1.below k).mono k.size, (h2.below k).mono k.size, (h3.below k).mono k.size, (h4.below k).mono k.size⟩
  have HL : Hid LiveOK5 := live5_ok
  clear k1 k2 h1 h2 h3 h4 Xb Yb
  obtain ⟨x0, x1, x2, y0, y1, y2⟩ := HC.out (Below.refl _ _)
  go_enter Tryz.func7, Tryz.ntmps7
  go_wp2_with fail
  generalize hA : ((w.alloc (.cells #[.bool bx, .slice a1 xn.length c1, .slice a2 xd.length c2] 24)).alloc (.cells #[.bool cy, .slice a3 yn.length c3, .slice a4 yd.length c4] 24)) = v at *
  clear hA x0 x1 x2 y0 y1 y2
  refine (refRight_rat (b := bx) (HR.out g).1 (HR.out g).2.1).mono ?_
  rintro e w1 ⟨⟨ra, rfl, ha⟩, b1⟩
  have g1 : Below w.heap.size w w1 := g.trans (b1.mono g.size)
  cases ra
  · clear ha
    go_wp2_with fail
    refine (HL.out _).mono ?_
    rintro e w2 ⟨rfl, b2⟩
    go_wp2
    go_ret
    exact ⟨rfl, g1.trans (b2.mono g1.size)⟩
  have hx : Hid (RightP bx xn xd) := ha.1 rfl
  clear ha
  obtain ⟨x0, x1, x2, y0, y1, y2⟩ := HC.out b1
  go_wp2_with fail
  clear x0 x1 x2 y0 y1 y2
  refine (refRight_rat (b := cy) (HR.out g1).2.2.1 (HR.out g1).2.2.2).mono ?_
  rintro e w2 ⟨⟨ra, rfl, ha⟩, b2⟩
  have k12 : Below v.heap.size v w2 := b1.trans (b2.mono b1.size)
  have g2 : Below w.heap.size w w2 := g1.trans (b2.mono g1.size)
  cases ra
  · clear ha
    go_wp2_with fail
    refine (HL.out _).mono ?_
    rintro e w3 ⟨rfl, b3⟩
    go_wp2
    go_ret
    exact ⟨rfl, g2.trans (b3.mono g2.size)⟩
  have hy : Hid (RightP cy yn yd) := ha.1 rfl
  clear ha
  have HC2 : Hid (∀ {w' : World}, Below w2.heap.size w2 w' → w'.cell? ⟨w.heap.size, 0, none⟩ = some (.bool bx) ∧ w'.cell? ⟨w.heap.size, 1, none⟩ = some (.slice a1 xn.length c1) ∧ w'.cell? ⟨w.heap.size, 2, none⟩ = some (.slice a2 xd.length c2) ∧ w'.cell? ⟨w.heap.size + 1, 0, none⟩ = some (.bool cy) ∧ w'.cell? ⟨w.heap.size + 1, 1, none⟩ = some (.slice a3 yn.length c3) ∧ w'.cell? ⟨w.heap.size + 1, 2, none⟩ = some (.slice a4 yd.length c4)) := fun k => HC.out (k12.trans (k.mono k12.size))
  have HK : Hid (OneK w w2 bx xn xd cy yn yd (.agg #[.bool bx, .slice a1 xn.length c1, .slice a2 xd.length c2]) (.agg #[.bool cy, .slice a3 yn.length c3, .slice a4 yd.length c4])) := ⟨so_4 (HR.out g2).1 (HR.out g2).2.1 (HR.out g2).2.2.1 (HR.out g2).2.2.2 hx.out hy.out, so_6 (HR.out g2).1 (HR.out g2).2.1 (HR.out g2).2.2.1 (HR.out g2).2.2.2 hx.out hy.out, so_8 (HR.out g2).1 (HR.out g2).2.1 (HR.out g2).2.2.1 (HR.out g2).2.2.2 hx.out hy.out, so_5 (HR.out g2).1 (HR.out g2).2.1 (HR.out g2).2.2.1 (HR.out g2).2.2.2 hx.out hy.out, so_7 (HR.out g2).1 (HR.out g2).2.1 (HR.out g2).2.2.1 (HR.out g2).2.2.2 hx.out hy.out, so_9 (HR.out g2).1 (HR.out g2).2.1 (HR.out g2).2.2.1 (HR.out g2).2.2.2 hx.out hy.out⟩
  clear HC hx hy HR
  go_upto_region 3 with fail
  refine wp_region_noPanic ?_
  refine onerg (w := w) (v := w2) (bx := bx) (cy := cy) (a1 := a1) (a2 := a2) (a3 := a3) (a4 := a4) (xn := xn) (xd := xd) (yn := yn) (yd := yd) (c1 := c1) (c2 := c2) (c3 := c3) (c4 := c4) HC2 HK.out.1 HK.out.2.1 HK.out.2.2.1 ?hq (fun _ _ _ _ _ h => h)
  intro r w3 hT b3
  refine NoPanic.normal ?_
  simp only [Exit.then]
  have g3 : Below w.heap.size w w3 := g2.trans (b3.mono g2.size)
  rcases hT.out.bound with rfl | rfl | rfl
  · have e1 : decide (((-1) : Int) < 0) = true := by decide
    have e2 : decide (((-1) : Int) = 0) = false := by decide
    have e3 : decide (0 < ((-1) : Int)) = false := by decide
    simp only [e1, e2, e3]
    clear e1 e2 e3
    go_wp2_with fail
    refine (HL.out _).mono ?_
    rintro e w4 ⟨rfl, b4⟩
    have k4 : Below w2.heap.size w2 w4 := b3.trans (b4.mono b3.size)
    obtain ⟨x0, x1, x2, y0, y1, y2⟩ := HC2.out k4
    go_wp2_with fail
    clear x0 x1 x2 y0 y1 y2
    refine (HK.out.2.2.2.1 _ k4).mono ?_
    rintro e w5 ⟨⟨s, rfl, hS2⟩, b5⟩
    obtain rfl := hT.out.one hS2.out
    clear hS2
    have k5 : Below w2.heap.size w2 w5 := k4.trans (b5.mono k4.size)
    have e1 : decide (((-1) : Int) ≤ 0) = true := by decide
    simp only [e1]
    clear e1
    obtain ⟨x0, x1, x2, y0, y1, y2⟩ := HC2.out k5
    go_wp2_with fail
    clear x0 x1 x2 y0 y1 y2
    refine (HK.out.2.2.2.2.1 _ k5).mono ?_
    rintro e w6 ⟨⟨s, rfl, hS2⟩, b6⟩
    obtain rfl := hT.out.one hS2.out
    clear hS2
    have k6 : Below w2.heap.size w2 w6 := k5.trans (b6.mono k5.size)
    have e1 : decide (0 ≤ ((-1) : Int)) = false := by decide
    simp only [e1]
    clear e1
    obtain ⟨x0, x1, x2, y0, y1, y2⟩ := HC2.out k6
    go_wp2_with fail
    clear x0 x1 x2 y0 y1 y2
    refine (HK.out.2.2.2.2.2 _ k6).mono ?_
    rintro e w7 ⟨⟨s, rfl, hS2⟩, b7⟩
    obtain rfl := hT.out.one hS2.out
    clear hS2
    have k7 : Below w2.heap.size w2 w7 := k6.trans (b7.mono k6.size)
    have e1 : (!decide (((-1) : Int) = 0)) = true := by decide
    simp only [e1]
    clear e1
    go_wp2
    go_ret
    exact ⟨rfl, g2.trans (k7.mono g2.size)⟩
  · have e1 : decide ((0 : Int) < 0) = false := by decide
    have e2 : decide ((0 : Int) = 0) = true := by decide
    have e3 : decide (0 < (0 : Int)) = false := by decide
    simp only [e1, e2, e3]
    clear e1 e2 e3
    go_wp2_with fail
    refine (HL.out _).mono ?_
    rintro e w4 ⟨rfl, b4⟩
    have k4 : Below w2.heap.size w2 w4 := b3.trans (b4.mono b3.size)
    obtain ⟨x0, x1, x2, y0, y1, y2⟩ := HC2.out k4
    go_wp2_with fail
    clear x0 x1 x2 y0 y1 y2
    refine (HK.out.2.2.2.1 _ k4).mono ?_
    rintro e w5 ⟨⟨s, rfl, hS2⟩, b5⟩
    obtain rfl := hT.out.one hS2.out
    clear hS2
    have k5 : Below w2.heap.size w2 w5 := k4.trans (b5.mono k4.size)
    have e1 : decide ((0 : Int) ≤ 0) = true := by decide
    simp only [e1]
    clear e1
    obtain ⟨x0, x1, x2, y0, y1, y2⟩ := HC2.out k5
    go_wp2_with fail
    clear x0 x1 x2 y0 y1 y2
    refine (HK.out.2.2.2.2.1 _ k5).mono ?_
    rintro e w6 ⟨⟨s, rfl, hS2⟩, b6⟩
    obtain rfl := hT.out.one hS2.out
    clear hS2
    have k6 : Below w2.heap.size w2 w6 := k5.trans (b6.mono k5.size)
    have e1 : decide (0 ≤ (0 : Int)) = true := by decide
    simp only [e1]
    clear e1
    obtain ⟨x0, x1, x2, y0, y1, y2⟩ := HC2.out k6
    go_wp2_with fail
    clear x0 x1 x2 y0 y1 y2
    refine (HK.out.2.2.2.2.2 _ k6).mono ?_
    rintro e w7 ⟨⟨s, rfl, hS2⟩, b7⟩
    obtain rfl := hT.out.one hS2.out
    clear hS2
    have k7 : Below w2.heap.size w2 w7 := k6.trans (b7.mono k6.size)
    have e1 : (!decide ((0 : Int) = 0)) = false := by decide
    simp only [e1]
    clear e1
    go_wp2
    go_ret
    exact ⟨rfl, g2.trans (k7.mono g2.size)⟩
  · have e1 : decide ((1 : Int) < 0) = false := by decide
    have e2 : decide ((1 : Int) = 0) = false := by decide
    have e3 : decide (0 < (1 : Int)) = true := by decide
    simp only [e1, e2, e3]
    clear e1 e2 e3
    go_wp2_with fail
    refine (HL.out _).mono ?_
    rintro e w4 ⟨rfl, b4⟩
    have k4 : Below w2.heap.size w2 w4 := b3.trans (b4.mono b3.size)
    obtain ⟨x0, x1, x2, y0, y1, y2⟩ := HC2.out k4
    go_wp2_with fail
    clear x0 x1 x2 y0 y1 y2
    refine (HK.out.2.2.2.1 _ k4).mono ?_
    rintro e w5 ⟨⟨s, rfl, hS2⟩, b5⟩
    obtain rfl := hT.out.one hS2.out
    clear hS2
    have k5 : Below w2.heap.size w2 w5 := k4.trans (b5.mono k4.size)
    have e1 : decide ((1 : Int) ≤ 0) = false := by decide
    simp only [e1]
    clear e1
    obtain ⟨x0, x1, x2, y0, y1, y2⟩ := HC2.out k5
    go_wp2_with fail
    clear x0 x1 x2 y0 y1 y2
    refine (HK.out.2.2.2.2.1 _ k5).mono ?_
    rintro e w6 ⟨⟨s, rfl, hS2⟩, b6⟩
    obtain rfl := hT.out.one hS2.out
    clear hS2
    have k6 : Below w2.heap.size w2 w6 := k5.trans (b6.mono k5.size)
    have e1 : decide (0 ≤ (1 : Int)) = true := by decide
    simp only [e1]
    clear e1
    obtain ⟨x0, x1, x2, y0, y1, y2⟩ := HC2.out k6
    go_wp2_with fail
    clear x0 x1 x2 y0 y1 y2
    refine (HK.out.2.2.2.2.2 _ k6).mono ?_
    rintro e w7 ⟨⟨s, rfl, hS2⟩, b7⟩
    obtain rfl := hT.out.one hS2.out
    clear hS2
    have k7 : Below w2.heap.size w2 w7 := k6.trans (b7.mono k6.size)
    have e1 : (!decide ((1 : Int) = 0)) = true := by decide
    simp only [e1]
    clear e1
    go_wp2
    go_ret
    exact ⟨rfl, g2.trans (k7.mono g2.size)⟩
end
end Go.Proofs.YtopndegbofokiaaGreat
