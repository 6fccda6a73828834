/- ArrayRight's statement from two premises that are still wanted: law03.live, and the walk where the array is not right. -/
import Derived.Test.YtnkaimkdlpieaaaRows
import Derived.Test.YtnkaimkdlpieaaaK13
import Derived.Test.YtnkaimkdlpieaaaK14
import Derived.WalkKit
import Derived.ProofKit
import Derived.OpenShut
import Derived.Deep.DeepHandedRow
import Derived.Lib.LaidTab
import Derived.Deep.RegionHeld3
namespace Go.Proofs.Ytnkaimkdlpieaaa.arrayRight
set_option linter.unusedVariables false
set_option linter.unusedSimpArgs false
open Go.ChangeShapes Go.WideShapes Go.ChangeAt Go.RowKit

theorem own : ownKnob Try.prog.godebug = none := by kernel_rfl
theorem laidOut : laidOutB Try.prog = true := by kernel_rfl
/-- The walk where the array is not right. -/
def WrongOK : Prop := ∀ (D : Nat → Prop) (F : Nat) (w : World) (x1 : Option Addr) (n1 y1 : Nat) (x2 : Option Addr) (n2 y2 : Nat) (t : Tr), (measF 16 t).isSome = false → (∀ g, D g → g < w.heap.size) → ArV F D w (.slice x1 n1 y1) (.slice x2 n2 y2) t → smF F t →
  Calls Try.prog 3 #[.agg #[.slice x1 n1 y1, .slice x2 n2 y2]] w fun e w' => e = .returned (.bool true) ∧ Below w.heap.size w w'
theorem walk {D : Nat → Prop} {F : Nat} {w : World} {x1 : Option Addr} {n1 y1 : Nat} {x2 : Option Addr} {n2 y2 : Nat} {t : Tr} (hl : LiveOK) (hf : WrongOK) (hD : ∀ g, D g → g < w.heap.size) (h : ArV F D w (.slice x1 n1 y1) (.slice x2 n2 y2) t) (hS : smF F t) :
    Calls Try.prog 3 #[.agg #[.slice x1 n1 y1, .slice x2 n2 y2]] w fun e w' => e = .returned (.bool true) ∧ Below w.heap.size w w' := by
  cases hR : (measF 16 t).isSome with
  | true => exact arrayRight_true hl hR hD h hS
  | false => exact hf D F w x1 n1 y1 x2 n2 y2 t hR hD h hS

set_option maxRecDepth 100000 in
theorem contract (hl : LiveOK) (hf : WrongOK) (H : Type) (enc : TypeId × Value → H) (W : World) (base : Nat) (args : Array Value) (ds gs : List (DataW H)) (before : List MemPlace)
    (hval : ∀ (j : Nat) t v, Try.f3.params[j]? = some t → args[j]? = some v → Value.okWide Try.prog W .any base t v)
    (hW : DataW.Whole enc Try.prog Try.f3.params.toList Rows.arrayRightSpec.vars false W args.toList ds gs before)
    (hsz : (DataW.weightsEach Try.prog (Try.f3.params.toList ++ []) (ds ++ gs)).all (· ≤ reachBytes) = true) :
    Calls Try.prog 3 args W fun e W' => ∃ v, e = .returned v ∧ Rows.arrayRightSpec.post enc Try.prog Try.f3 false true false false W args v W' := by
  have hW' := hW
  obtain ⟨p, q, hA0, hV, rfl, hfz, hnd⟩ := hW
  have hA : DataW.TrodAll enc Try.prog W 0 (fun _ => true) true Try.f3.params.toList args.toList ds p := hA0
  rw [Try.params3] at hA hval hsz
  obtain ⟨v0, d0, rfl, rfl, h0⟩ := trodAll_one hA
  obtain ⟨rfl, rfl⟩ := trodVars_none hV
  clear hA0
  simp only [List.append_nil] at hW'
  obtain ⟨F, x1, n1, c1, x2, n2, c2, t, rfl, hv, hsm⟩ := arr_rd (hval 0 25 v0 rfl rfl) h0
  have hok : okW 25 d0 := fun x hx => by
    have := List.all_eq_true.1 hsz x (List.mem_append_left _ hx)
    exact of_decide_eq_true this
  have hlt : ∀ x ∈ p, x.block < W.heap.size := fun x hx => by simpa using hW'.lt x (by simpa using hx)
  refine (walk hl hf (fun g h => h) hv (hsm hok)).mono fun e W' ⟨he, hnx⟩ => ?_
  subst he
  refine ⟨_, rfl, _, _, _, [], p, [], hW', ?_, ?_, rfl, hnx.frame _, fun h => by cases h⟩
  · exact trodAll_mk1 (shut_bool Try.underlying4 _)
  · exact trodAll_mk1 (Below.trod laidOut (by kernel_rfl) (of_decide_eq_true (by kernel_rfl)) h0 hnx (fun x hx => hlt x (by simp [hx])))

theorem reads (os : Os) {H : Type} (enc : TypeId × Value → H) : ∃ places, DataW.whole enc Try.prog ((World.holding Try.prog os ⟨#[], #[], []⟩).forCall (fun _ _ => 0) ⟨#[], #[.agg #[.slice none 0 0, .slice none 0 0]], []⟩).memory Try.f3.params.toList Rows.arrayRightSpec.vars false #[Value.agg #[.slice none 0 0, .slice none 0 0]].toList 8 = some ([.agg [.nil, .nil]], [], places) :=
  ⟨[], by kernel_rfl⟩
theorem laid_met (os : Os) (args : Array Value) : laidMet Try.prog Rows.arrayRightRow.laid ((World.holding Try.prog os ⟨#[], #[], []⟩).forCall (fun _ _ => 0) ⟨#[], args, []⟩).memory :=
  laidMet_of_run' 8 (by kernel_rfl) (by kernel_rfl)

set_option maxRecDepth 100000 in
theorem lifted (hl : LiveOK) (hf : WrongOK) (os : Os) (started : os.Started) (H : Type) (enc : TypeId × Value → H) (F : Stop.Interp) :
    ReturnsInHanded {} Try.checked os 3 .any ((OpenSpec.ofChange Rows.arrayRightSpec).preRow enc Try.prog Try.f3 Rows.arrayRightRow.domain false Rows.arrayRightRow.laid) (((OpenSpec.ofChange Rows.arrayRightSpec).at F).post enc Try.prog Try.f3 false true false false) := by
  obtain ⟨places, hx⟩ := reads os enc
  refine returnsInHanded_of_row (C := Try.checked) (s := OpenSpec.ofChange Rows.arrayRightSpec) own started (by kernel_rfl) Try.func3
    (witness_row_at (enc := enc) (C := Try.checked) false (World.holding Try.prog os ⟨#[], #[], []⟩) #[.agg #[.slice none 0 0, .slice none 0 0]] rfl (by kernel_rfl) (by kernel_rfl) (by kernel_rfl)
      (OpenSpec.preRow_of_cond 8 hx (by kernel_rfl) (fun k hk => by cases hk) (by kernel_rfl) (laid_met os _))) ?_
  intro W base args ds gs before hval hW _ _ hsz _ _ _
  exact contract hl hf H enc W base args ds gs before hval hW hsz

theorem said (hl : LiveOK) (hf : WrongOK) : Rows.ArrayRightSaid :=
  OpenClaim.holds_of_cond 3 Try.f3 rfl rfl rfl rfl rfl rfl rfl ⟨rfl, rfl, rfl, rfl, rfl⟩ rfl rfl rfl rfl rfl (by kernel_rfl) Try.func3 (by kernel_rfl)
    (of_decide_eq_true (by kernel_rfl)) (by unfold Func.isWrapper; first | (rw [if_pos (by decide +kernel)]; kernel_rfl) | (rw [if_neg (by decide +kernel)]; exact ⟨rfl, rfl⟩))
    (fun os started H enc _ F => by rw [OpenClaim.pre_eq_preRow]; exact lifted hl hf os started H enc F)
end Go.Proofs.Ytnkaimkdlpieaaa.arrayRight

/- ArrayRight's walk where the array is not right. -/
namespace Go.Proofs.Ytnkaimkdlpieaaa
set_option linter.unusedVariables false
set_option linter.unusedSimpArgs false
open Go.RowKit

section
variable {D : Nat → Prop} {F : Nat} {w : World} {x1 : Option Addr} {n1 y1 : Nat} {x2 : Option Addr} {n2 y2 : Nat} {t : Tr}
set_option maxRecDepth 100000 in
set_option maxHeartbeats 16000000 in
theorem arrayRight_false (hlive : LiveOK) (hR0 : (measF 16 t).isSome = false) (hD : ∀ g, D g → g < w.heap.size) (h : ArV F D w (.slice x1 n1 y1) (.slice x2 n2 y2) t) (hS : smF F t) :
    Calls Try.prog 3 #[.agg #[.slice x1 n1 y1, .slice x2 n2 y2]] w fun e w' => e = .returned (.bool true) ∧ Below w.heap.size w w' := by
  have HL : Hid LiveOK := hlive
  have k0 := below_alloc w (.cells #[.slice x1 n1 y1, .slice x2 n2 y2] 25)
  have X0 := boxA_new w #[.slice x1 n1 y1, .slice x2 n2 y2] 25
  have s0 : w.heap.size < (w.alloc (.cells #[.slice x1 n1 y1, .slice x2 n2 y2] 25)).heap.size := by simp
  have z0 := X0.cell 0 rfl
  have z1 := X0.cell 1 rfl
  have h0 : ArV F D (w.alloc (.cells #[.slice x1 n1 y1, .slice x2 n2 y2] 25)) (.slice x1 n1 y1) (.slice x2 n2 y2) t := h.agree (Agree.of k0 hD)
  have hD0 : ∀ g, D g → g < (w.alloc (.cells #[.slice x1 n1 y1, .slice x2 n2 y2] 25)).heap.size := fun g hg => by have := hD g hg; omega
  have C0 := refCopy3_any h0 hD0 hS
  have HD : Hid (∀ g, D g → g < w.heap.size) := hD
  have H : Hid (ArV F D w (.slice x1 n1 y1) (.slice x2 n2 y2) t) := h
  clear hlive hD h hS h0 hD0
  go_enter Try.func3, Try.ntmps3
  go_wp2_with fail
  refine C0.mono ?_
  rintro e wa ⟨a3, m1, c3, a4, m2, c4, rfl, hb, ka⟩
  clear C0 z0 z1
  generalize hA : w.alloc (.cells #[.slice x1 n1 y1, .slice x2 n2 y2] 25) = wb at *
  clear hA
  have X1 := X0.below ka s0
  have kA := below_alloc wa (.cells #[.slice a3 m1 c3, .slice a4 m2 c4] 25)
  have X2 := X1.below kA X1.lt
  have Yb := boxA_new wa #[.slice a3 m1 c3, .slice a4 m2 c4] 25
  have kv : Below w.heap.size w (wa.alloc (.cells #[.slice a3 m1 c3, .slice a4 m2 c4] 25)) := k0.trans ((ka.mono (Nat.le_of_lt s0)).trans (kA.mono (Nat.le_of_lt X1.lt)))
  have HB : Hid (ArV F (fun g => g < wa.heap.size) (wa.alloc (.cells #[.slice a3 m1 c3, .slice a4 m2 c4] 25)) (.slice a3 m1 c3) (.slice a4 m2 c4) t) := ArV.imp (fun g hg => hg.2) (fun g hg => kA.block g hg.2) F F _ _ _ (Nat.le_refl _) hb
  have lA : wa.heap.size < (wa.alloc (.cells #[.slice a3 m1 c3, .slice a4 m2 c4] 25)).heap.size := Yb.lt
  clear hb
  go_upto_region 2 with fail
  have lX := X2.lt
  generalize hA : wa.alloc (.cells #[.slice a3 m1 c3, .slice a4 m2 c4] 25) = v at *
  clear hA kA X1 X0 ka k0 s0
  obtain ⟨F, rfl⟩ : ∃ F', F = F' + 1 := by
    cases F with
    | zero => exact H.out.elim
    | succ F => exact ⟨F, rfl⟩
  have hcells : ∀ {w' : World}, Below v.heap.size v w' → w'.cell? ⟨w.heap.size, 0, none⟩ = some (.slice x1 n1 y1) ∧ w'.cell? ⟨w.heap.size, 1, none⟩ = some (.slice x2 n2 y2) ∧ w'.cell? ⟨wa.heap.size, 0, none⟩ = some (.slice a3 m1 c3) ∧ w'.cell? ⟨wa.heap.size, 1, none⟩ = some (.slice a4 m2 c4) := fun k => ⟨(X2.below k lX).cell 0 rfl, (X2.below k lX).cell 1 rfl, (Yb.below k lA).cell 0 rfl, (Yb.below k lA).cell 1 rfl⟩
  have hAr : ∀ {w' : World}, Below v.heap.size v w' → ArV (F + 1) D w' (.slice x1 n1 y1) (.slice x2 n2 y2) t := fun k => H.out.agree (Agree.of (kv.trans (k.mono kv.size)) HD.out)
  have hDA : ∀ {w' : World}, Below v.heap.size v w' → ∀ g, D g → g < w'.heap.size := fun k g hg => by have := HD.out g hg; have := k.size; have := kv.size; omega
  have hBr : ∀ {w' : World}, Below v.heap.size v w' → ArV (F + 1) (fun g => g < wa.heap.size) w' (.slice a3 m1 c3) (.slice a4 m2 c4) t := fun k => HB.out.agree (Agree.of k (fun g hg => Nat.lt_trans hg lA))
  have hDB : ∀ {w' : World}, Below v.heap.size v w' → ∀ g, g < wa.heap.size → g < w'.heap.size := fun k g hg => by have := k.size; omega
  have hmax : ∀ {w' : World}, Below v.heap.size v w' → ∀ g, (D g ∨ g < wa.heap.size) → g < w'.heap.size := fun k g hg => hg.elim (hDA k g) (hDB k g)
  obtain ⟨R, hR⟩ : ∃ R, (measF 16 t).isSome = R := ⟨_, rfl⟩
  have hRv : R = false := hR.symm.trans hR0
  obtain ⟨dp, hdp⟩ : ∃ dp, ((measF 16 t).getD (0, 0)).1 = dp := ⟨_, rfl⟩
  obtain ⟨cp, hcp⟩ : ∃ cp, ((measF 16 t).getD (0, 0)).2 = cp := ⟨_, rfl⟩
  obtain ⟨sB, hsB⟩ : ∃ sB, simpB t = sB := ⟨_, rfl⟩
  have K2 : Hid (∀ w', Below v.heap.size v w' → Calls Try.prog 9 #[.agg #[.slice a3 m1 c3, .slice a4 m2 c4]] w' fun e w'' => e = .returned (.bool R) ∧ Below w'.heap.size w' w'') := fun w' k => by have := right3_any (hDB k) (hBr k); rw [hR] at this; exact this
  have K3 : Hid (∀ w', Below v.heap.size v w' → Calls Try.prog 10 #[.agg #[.slice x1 n1 y1, .slice x2 n2 y2]] w' fun e w'' => e = .returned (.bool R) ∧ Below w'.heap.size w' w'') := fun w' k => by have := refRight3_any (hDA k) (hAr k); rw [hR] at this; exact this
  have K4 : Hid (∀ w', Below v.heap.size v w' → Calls Try.prog 11 #[.agg #[.slice a3 m1 c3, .slice a4 m2 c4]] w' fun e w'' => e = .returned (.int .i64 dp) ∧ Below w'.heap.size w' w'') := fun w' k => by have := depth3_any (hDB k) (hBr k); rw [hdp] at this; exact this
  have K5 : Hid (∀ w', Below v.heap.size v w' → Calls Try.prog 12 #[.agg #[.slice x1 n1 y1, .slice x2 n2 y2]] w' fun e w'' => e = .returned (.int .i64 dp) ∧ Below w'.heap.size w' w'') := fun w' k => by have := refDepth3_any (hDA k) (hAr k); rw [hdp] at this; exact this
  have K6 : Hid (∀ w', Below v.heap.size v w' → Calls Try.prog 13 #[.agg #[.slice a3 m1 c3, .slice a4 m2 c4]] w' fun e w'' => e = .returned (.int .i64 cp) ∧ Below w'.heap.size w' w'') := fun w' k => by have := cells3_any (hDB k) (hBr k); rw [hcp] at this; exact this
  have K7 : Hid (∀ w', Below v.heap.size v w' → Calls Try.prog 14 #[.agg #[.slice x1 n1 y1, .slice x2 n2 y2]] w' fun e w'' => e = .returned (.int .i64 cp) ∧ Below w'.heap.size w' w'') := fun w' k => by have := refCells3_any (hDA k) (hAr k); rw [hcp] at this; exact this
  have K8 : Hid (∀ w', Below v.heap.size v w' → Calls Try.prog 15 #[.agg #[.slice a3 m1 c3, .slice a4 m2 c4]] w' fun e w'' => e = .returned (.bool (sB && R)) ∧ Below w'.heap.size w' w'') := fun w' k => by have := isSimple3_any (hDB k) (hBr k); rw [hR, hsB] at this; exact this
  have K11 : Hid (∀ w', Below v.heap.size v w' → Calls Try.prog 17 #[.agg #[.slice x1 n1 y1, .slice x2 n2 y2], .agg #[.slice a3 m1 c3, .slice a4 m2 c4]] w' fun e w'' => e = .returned (.bool true) ∧ Below w'.heap.size w' w'') := fun w' k => same_all (F + 1) (fun g => D g ∨ g < wa.heap.size) w' _ _ _ _ _ _ _ _ _ _ _ _ t (hmax k) ((hAr k).mono (fun _ h => Or.inl h)) ((hBr k).mono (fun _ h => Or.inr h))
  have d0 : Below v.heap.size v v.drew := ⟨rfl, rfl, rfl, Nat.le_refl _, fun _ _ => rfl⟩
  have j0 := hcells d0
  have eb : (dp == dp) = true := by simp
  have ec : (cp == cp) = true := by simp
  have es : (sB == sB) = true := by simp
  clear hR hR0 hdp hcp hsB hAr hDA hBr hDB hmax H HD HB X2 Yb
  have HC : Hid (∀ {w' : World}, Below v.heap.size v w' → w'.cell? ⟨w.heap.size, 0, none⟩ = some (.slice x1 n1 y1) ∧ w'.cell? ⟨w.heap.size, 1, none⟩ = some (.slice x2 n2 y2) ∧ w'.cell? ⟨wa.heap.size, 0, none⟩ = some (.slice a3 m1 c3) ∧ w'.cell? ⟨wa.heap.size, 1, none⟩ = some (.slice a4 m2 c4)) := hcells
  clear hcells
  subst hRv
  rw [Bool.and_false] at K8
  refine wp_region_held_drew (S := (fun w' => w'.cell? ⟨w.heap.size, 0, none⟩ = some (.slice x1 n1 y1) ∧ w'.cell? ⟨w.heap.size, 1, none⟩ = some (.slice x2 n2 y2) ∧ w'.cell? ⟨wa.heap.size, 0, none⟩ = some (.slice a3 m1 c3) ∧ w'.cell? ⟨wa.heap.size, 1, none⟩ = some (.slice a4 m2 c4))) (by kernel_rfl) j0 (fun hS => ?_)
  refine wpAnyH_ready (rs := [0]) (by kernel_rfl) (by simp) ?_
  refine AllReadyH.cons (o := { dst := some 6, op := Op.call { callee := Callee.value (Operand.func 8), args := #[], argTypes := #[] }, type := 4, pos := "law.go:34", after := #[], guard := none }) rfl (fun K hK => ?_) AllReadyH.nil
  go_simp
  refine (HL.out _).mono ?_
  rintro e w1 ⟨rfl, q1⟩
  have k1 : Below v.heap.size v w1 := d0.trans (q1.mono d0.size)
  have j1 := HC.out k1
  go_simp
  refine hK.out _ _ (j1) (fun _ => ?_)
  clear hK K
  refine wpAnyH_take (i := 1) (oi := { dst := some 7, op := Op.move (Operand.tmp 6), type := 4, pos := "law.go:34", after := #[{ on := 0, ground := Ground.data }, { on := 0, ground := Ground.chain }], guard := none }) (v := .bool true) rfl (by kernel_rfl) (by kernel_rfl) (by kernel_rfl) (fun _ _ _ h => h) (Or.inl ⟨by rfl, (by intro w hSw; (try dsimp only at hSw); go_simp)⟩) (by assumption) ?_
  simp only [Act.put, List.setIfInBounds_toArray, List.set_cons_zero, List.set_cons_succ]
  refine wpAnyH_take (i := 2) (oi := { dst := some 8, op := Op.load 25 (Operand.tmp 3), type := 25, pos := "law.go:34", after := #[{ on := 1, ground := Ground.guard }], guard := some (1, true) }) (v := .agg #[.slice a3 m1 c3, .slice a4 m2 c4]) rfl (by kernel_rfl) (by kernel_rfl) (by kernel_rfl) (fun _ _ _ h => h) (Or.inl ⟨by rfl, (by intro w hSw; (try dsimp only at hSw); go_simp)⟩) (by assumption) ?_
  simp only [Act.put, List.setIfInBounds_toArray, List.set_cons_zero, List.set_cons_succ]
  refine wpAnyH_take (i := 4) (oi := { dst := some 10, op := Op.load 25 (Operand.tmp 1), type := 25, pos := "law.go:34", after := #[{ on := 1, ground := Ground.guard }], guard := some (1, true) }) (v := .agg #[.slice x1 n1 y1, .slice x2 n2 y2]) rfl (by kernel_rfl) (by kernel_rfl) (by kernel_rfl) (fun _ _ _ h => h) (Or.inl ⟨by rfl, (by intro w hSw; (try dsimp only at hSw); go_simp)⟩) (by assumption) ?_
  simp only [Act.put, List.setIfInBounds_toArray, List.set_cons_zero, List.set_cons_succ]
  refine wpAnyH_ready (rs := [3]) (by kernel_rfl) (by simp) ?_
  refine AllReadyH.cons (o := { dst := some 9, op := Op.call { callee := Callee.value (Operand.func 9), args := #[Operand.tmp 8], argTypes := #[25] }, type := 4, pos := "law.go:34", after := #[{ on := 2, ground := Ground.data }, { on := 1, ground := Ground.chain }, { on := 1, ground := Ground.guard }], guard := some (1, true) }) rfl (fun K hK => ?_) AllReadyH.nil
  go_simp
  refine (K2.out _ k1).mono ?_
  rintro e w2 ⟨rfl, q2⟩
  have k2 : Below v.heap.size v w2 := k1.trans (q2.mono k1.size)
  have j2 := HC.out k2
  go_simp
  refine hK.out _ _ (j2) (fun _ => ?_)
  clear hK K
  refine wpAnyH_ready (rs := [5]) (by kernel_rfl) (by simp) ?_
  refine AllReadyH.cons (o := { dst := some 11, op := Op.call { callee := Callee.value (Operand.func 10), args := #[Operand.tmp 10], argTypes := #[25] }, type := 4, pos := "law.go:34", after := #[{ on := 4, ground := Ground.data }, { on := 3, ground := Ground.chain }, { on := 1, ground := Ground.guard }], guard := some (1, true) }) rfl (fun K hK => ?_) AllReadyH.nil
  go_simp
  refine (K3.out _ k2).mono ?_
  rintro e w3 ⟨rfl, q3⟩
  have k3 : Below v.heap.size v w3 := k2.trans (q3.mono k2.size)
  have j3 := HC.out k3
  go_simp
  refine hK.out _ _ (j3) (fun _ => ?_)
  clear hK K
  refine wpAnyH_take (i := 6) (oi := { dst := some 12, op := Op.binOp BinOp.eql 4 (Operand.tmp 9) (Operand.tmp 11) 4, type := 4, pos := "law.go:34", after := #[{ on := 3, ground := Ground.data }, { on := 5, ground := Ground.data }, { on := 1, ground := Ground.guard }], guard := some (1, true) }) (v := .bool true) rfl (by kernel_rfl) (by kernel_rfl) (by kernel_rfl) (fun _ _ _ h => h) (Or.inl ⟨by rfl, (by intro w hSw; (try dsimp only at hSw); go_simp)⟩) (by assumption) ?_
  simp only [Act.put, List.setIfInBounds_toArray, List.set_cons_zero, List.set_cons_succ]
  refine wpAnyH_take (i := 7) (oi := { dst := some 13, op := Op.pick (Operand.tmp 7) (Operand.tmp 12) (Operand.const (Value.bool false)), type := 4, pos := "law.go:34", after := #[{ on := 1, ground := Ground.data }, { on := 6, ground := Ground.data }], guard := none }) (v := .bool true) rfl (by kernel_rfl) (by kernel_rfl) (by kernel_rfl) (fun _ _ _ h => h) (Or.inl ⟨by rfl, (by intro w hSw; (try dsimp only at hSw); go_simp)⟩) (by assumption) ?_
  simp only [Act.put, List.setIfInBounds_toArray, List.set_cons_zero, List.set_cons_succ]
  refine wpAnyH_take (i := 8) (oi := { dst := some 14, op := Op.move (Operand.tmp 13), type := 4, pos := "law.go:34", after := #[{ on := 7, ground := Ground.data }, { on := 5, ground := Ground.chain }], guard := none }) (v := .bool true) rfl (by kernel_rfl) (by kernel_rfl) (by kernel_rfl) (fun _ _ _ h => h) (Or.inl ⟨by rfl, (by intro w hSw; (try dsimp only at hSw); go_simp)⟩) (by assumption) ?_
  simp only [Act.put, List.setIfInBounds_toArray, List.set_cons_zero, List.set_cons_succ]
  refine wpAnyH_take (i := 9) (oi := { dst := some 15, op := Op.load 25 (Operand.tmp 3), type := 25, pos := "law.go:34", after := #[{ on := 8, ground := Ground.guard }], guard := some (8, true) }) (v := .agg #[.slice a3 m1 c3, .slice a4 m2 c4]) rfl (by kernel_rfl) (by kernel_rfl) (by kernel_rfl) (fun _ _ _ h => h) (Or.inl ⟨by rfl, (by intro w hSw; (try dsimp only at hSw); go_simp)⟩) (by assumption) ?_
  simp only [Act.put, List.setIfInBounds_toArray, List.set_cons_zero, List.set_cons_succ]
  refine wpAnyH_take (i := 11) (oi := { dst := some 17, op := Op.load 25 (Operand.tmp 1), type := 25, pos := "law.go:34", after := #[{ on := 8, ground := Ground.guard }], guard := some (8, true) }) (v := .agg #[.slice x1 n1 y1, .slice x2 n2 y2]) rfl (by kernel_rfl) (by kernel_rfl) (by kernel_rfl) (fun _ _ _ h => h) (Or.inl ⟨by rfl, (by intro w hSw; (try dsimp only at hSw); go_simp)⟩) (by assumption) ?_
  simp only [Act.put, List.setIfInBounds_toArray, List.set_cons_zero, List.set_cons_succ]
  refine wpAnyH_ready (rs := [10]) (by kernel_rfl) (by simp) ?_
  refine AllReadyH.cons (o := { dst := some 16, op := Op.call { callee := Callee.value (Operand.func 11), args := #[Operand.tmp 15], argTypes := #[25] }, type := 3, pos := "law.go:34", after := #[{ on := 9, ground := Ground.data }, { on := 8, ground := Ground.chain }, { on := 8, ground := Ground.guard }], guard := some (8, true) }) rfl (fun K hK => ?_) AllReadyH.nil
  go_simp
  refine (K4.out _ k3).mono ?_
  rintro e w4 ⟨rfl, q4⟩
  have k4 : Below v.heap.size v w4 := k3.trans (q4.mono k3.size)
  have j4 := HC.out k4
  go_simp
  refine hK.out _ _ (j4) (fun _ => ?_)
  clear hK K
  refine wpAnyH_ready (rs := [12]) (by kernel_rfl) (by simp) ?_
  refine AllReadyH.cons (o := { dst := some 18, op := Op.call { callee := Callee.value (Operand.func 12), args := #[Operand.tmp 17], argTypes := #[25] }, type := 3, pos := "law.go:34", after := #[{ on := 11, ground := Ground.data }, { on := 10, ground := Ground.chain }, { on := 8, ground := Ground.guard }], guard := some (8, true) }) rfl (fun K hK => ?_) AllReadyH.nil
  go_simp
  refine (K5.out _ k4).mono ?_
  rintro e w5 ⟨rfl, q5⟩
  have k5 : Below v.heap.size v w5 := k4.trans (q5.mono k4.size)
  have j5 := HC.out k5
  go_simp
  refine hK.out _ _ (j5) (fun _ => ?_)
  clear hK K
  refine wpAnyH_take (i := 13) (oi := { dst := some 19, op := Op.binOp BinOp.eql 3 (Operand.tmp 16) (Operand.tmp 18) 3, type := 4, pos := "law.go:34", after := #[{ on := 10, ground := Ground.data }, { on := 12, ground := Ground.data }, { on := 8, ground := Ground.guard }], guard := some (8, true) }) (v := .bool true) rfl (by kernel_rfl) (by kernel_rfl) (by kernel_rfl) (fun _ _ _ h => h) (Or.inl ⟨by rfl, (by intro w hSw; (try dsimp only at hSw); go_simp)⟩) (by assumption) ?_
  simp only [Act.put, List.setIfInBounds_toArray, List.set_cons_zero, List.set_cons_succ]
  refine wpAnyH_take (i := 14) (oi := { dst := some 20, op := Op.pick (Operand.tmp 14) (Operand.tmp 19) (Operand.const (Value.bool false)), type := 4, pos := "law.go:34", after := #[{ on := 8, ground := Ground.data }, { on := 13, ground := Ground.data }], guard := none }) (v := .bool true) rfl (by kernel_rfl) (by kernel_rfl) (by kernel_rfl) (fun _ _ _ h => h) (Or.inl ⟨by rfl, (by intro w hSw; (try dsimp only at hSw); go_simp)⟩) (by assumption) ?_
  simp only [Act.put, List.setIfInBounds_toArray, List.set_cons_zero, List.set_cons_succ]
  refine wpAnyH_take (i := 15) (oi := { dst := some 21, op := Op.move (Operand.tmp 20), type := 4, pos := "law.go:34", after := #[{ on := 14, ground := Ground.data }, { on := 12, ground := Ground.chain }], guard := none }) (v := .bool true) rfl (by kernel_rfl) (by kernel_rfl) (by kernel_rfl) (fun _ _ _ h => h) (Or.inl ⟨by rfl, (by intro w hSw; (try dsimp only at hSw); go_simp)⟩) (by assumption) ?_
  simp only [Act.put, List.setIfInBounds_toArray, List.set_cons_zero, List.set_cons_succ]
  refine wpAnyH_take (i := 16) (oi := { dst := some 22, op := Op.load 25 (Operand.tmp 3), type := 25, pos := "law.go:34", after := #[{ on := 15, ground := Ground.guard }], guard := some (15, true) }) (v := .agg #[.slice a3 m1 c3, .slice a4 m2 c4]) rfl (by kernel_rfl) (by kernel_rfl) (by kernel_rfl) (fun _ _ _ h => h) (Or.inl ⟨by rfl, (by intro w hSw; (try dsimp only at hSw); go_simp)⟩) (by assumption) ?_
  simp only [Act.put, List.setIfInBounds_toArray, List.set_cons_zero, List.set_cons_succ]
  refine wpAnyH_take (i := 18) (oi := { dst := some 24, op := Op.load 25 (Operand.tmp 1), type := 25, pos := "law.go:34", after := #[{ on := 15, ground := Ground.guard }], guard := some (15, true) }) (v := .agg #[.slice x1 n1 y1, .slice x2 n2 y2]) rfl (by kernel_rfl) (by kernel_rfl) (by kernel_rfl) (fun _ _ _ h => h) (Or.inl ⟨by rfl, (by intro w hSw; (try dsimp only at hSw); go_simp)⟩) (by assumption) ?_
  simp only [Act.put, List.setIfInBounds_toArray, List.set_cons_zero, List.set_cons_succ]
  refine wpAnyH_ready (rs := [17]) (by kernel_rfl) (by simp) ?_
  refine AllReadyH.cons (o := { dst := some 23, op := Op.call { callee := Callee.value (Operand.func 13), args := #[Operand.tmp 22], argTypes := #[25] }, type := 3, pos := "law.go:34", after := #[{ on := 16, ground := Ground.data }, { on := 15, ground := Ground.chain }, { on := 15, ground := Ground.guard }], guard := some (15, true) }) rfl (fun K hK => ?_) AllReadyH.nil
  go_simp
  refine (K6.out _ k5).mono ?_
  rintro e w6 ⟨rfl, q6⟩
  have k6 : Below v.heap.size v w6 := k5.trans (q6.mono k5.size)
  have j6 := HC.out k6
  go_simp
  refine hK.out _ _ (j6) (fun _ => ?_)
  clear hK K
  refine wpAnyH_ready (rs := [19]) (by kernel_rfl) (by simp) ?_
  refine AllReadyH.cons (o := { dst := some 25, op := Op.call { callee := Callee.value (Operand.func 14), args := #[Operand.tmp 24], argTypes := #[25] }, type := 3, pos := "law.go:34", after := #[{ on := 18, ground := Ground.data }, { on := 17, ground := Ground.chain }, { on := 15, ground := Ground.guard }], guard := some (15, true) }) rfl (fun K hK => ?_) AllReadyH.nil
  go_simp
  refine (K7.out _ k6).mono ?_
  rintro e w7 ⟨rfl, q7⟩
  have k7 : Below v.heap.size v w7 := k6.trans (q7.mono k6.size)
  have j7 := HC.out k7
  go_simp
  refine hK.out _ _ (j7) (fun _ => ?_)
  clear hK K
  refine wpAnyH_take (i := 20) (oi := { dst := some 26, op := Op.binOp BinOp.eql 3 (Operand.tmp 23) (Operand.tmp 25) 3, type := 4, pos := "law.go:34", after := #[{ on := 17, ground := Ground.data }, { on := 19, ground := Ground.data }, { on := 15, ground := Ground.guard }], guard := some (15, true) }) (v := .bool true) rfl (by kernel_rfl) (by kernel_rfl) (by kernel_rfl) (fun _ _ _ h => h) (Or.inl ⟨by rfl, (by intro w hSw; (try dsimp only at hSw); go_simp)⟩) (by assumption) ?_
  simp only [Act.put, List.setIfInBounds_toArray, List.set_cons_zero, List.set_cons_succ]
  refine wpAnyH_take (i := 21) (oi := { dst := some 27, op := Op.pick (Operand.tmp 21) (Operand.tmp 26) (Operand.const (Value.bool false)), type := 4, pos := "law.go:34", after := #[{ on := 15, ground := Ground.data }, { on := 20, ground := Ground.data }], guard := none }) (v := .bool true) rfl (by kernel_rfl) (by kernel_rfl) (by kernel_rfl) (fun _ _ _ h => h) (Or.inl ⟨by rfl, (by intro w hSw; (try dsimp only at hSw); go_simp)⟩) (by assumption) ?_
  simp only [Act.put, List.setIfInBounds_toArray, List.set_cons_zero, List.set_cons_succ]
  refine wpAnyH_take (i := 22) (oi := { dst := some 28, op := Op.move (Operand.tmp 27), type := 4, pos := "law.go:34", after := #[{ on := 21, ground := Ground.data }, { on := 19, ground := Ground.chain }], guard := none }) (v := .bool true) rfl (by kernel_rfl) (by kernel_rfl) (by kernel_rfl) (fun _ _ _ h => h) (Or.inl ⟨by rfl, (by intro w hSw; (try dsimp only at hSw); go_simp)⟩) (by assumption) ?_
  simp only [Act.put, List.setIfInBounds_toArray, List.set_cons_zero, List.set_cons_succ]
  refine wpAnyH_take (i := 23) (oi := { dst := some 29, op := Op.load 25 (Operand.tmp 3), type := 25, pos := "law.go:34", after := #[{ on := 22, ground := Ground.guard }], guard := some (22, true) }) (v := .agg #[.slice a3 m1 c3, .slice a4 m2 c4]) rfl (by kernel_rfl) (by kernel_rfl) (by kernel_rfl) (fun _ _ _ h => h) (Or.inl ⟨by rfl, (by intro w hSw; (try dsimp only at hSw); go_simp)⟩) (by assumption) ?_
  simp only [Act.put, List.setIfInBounds_toArray, List.set_cons_zero, List.set_cons_succ]
  refine wpAnyH_take (i := 25) (oi := { dst := some 31, op := Op.load 25 (Operand.tmp 1), type := 25, pos := "law.go:34", after := #[{ on := 22, ground := Ground.guard }], guard := some (22, true) }) (v := .agg #[.slice x1 n1 y1, .slice x2 n2 y2]) rfl (by kernel_rfl) (by kernel_rfl) (by kernel_rfl) (fun _ _ _ h => h) (Or.inl ⟨by rfl, (by intro w hSw; (try dsimp only at hSw); go_simp)⟩) (by assumption) ?_
  simp only [Act.put, List.setIfInBounds_toArray, List.set_cons_zero, List.set_cons_succ]
  refine wpAnyH_ready (rs := [24]) (by kernel_rfl) (by simp) ?_
  refine AllReadyH.cons (o := { dst := some 30, op := Op.call { callee := Callee.value (Operand.func 15), args := #[Operand.tmp 29], argTypes := #[25] }, type := 4, pos := "law.go:34", after := #[{ on := 23, ground := Ground.data }, { on := 22, ground := Ground.chain }, { on := 22, ground := Ground.guard }], guard := some (22, true) }) rfl (fun K hK => ?_) AllReadyH.nil
  go_simp
  refine (K8.out _ k7).mono ?_
  rintro e w8 ⟨rfl, q8⟩
  have k8 : Below v.heap.size v w8 := k7.trans (q8.mono k7.size)
  have j8 := HC.out k8
  go_simp
  refine hK.out _ _ (j8) (fun _ => ?_)
  clear hK K
  refine wpAnyH_ready (rs := [26]) (by kernel_rfl) (by simp) ?_
  refine AllReadyH.cons (o := { dst := some 32, op := Op.call { callee := Callee.value (Operand.func 10), args := #[Operand.tmp 31], argTypes := #[25] }, type := 4, pos := "law.go:34", after := #[{ on := 25, ground := Ground.data }, { on := 24, ground := Ground.chain }, { on := 22, ground := Ground.guard }], guard := some (22, true) }) rfl (fun K hK => ?_) AllReadyH.nil
  go_simp
  refine (K3.out _ k8).mono ?_
  rintro e w9 ⟨rfl, q9⟩
  have k9 : Below v.heap.size v w9 := k8.trans (q9.mono k8.size)
  have j9 := HC.out k9
  go_simp
  refine hK.out _ _ (j9) (fun _ => ?_)
  clear hK K
  refine wpAnyH_take (i := 27) (oi := { dst := some 33, op := Op.move (Operand.tmp 32), type := 4, pos := "law.go:34", after := #[{ on := 26, ground := Ground.data }, { on := 26, ground := Ground.chain }, { on := 22, ground := Ground.guard }], guard := some (22, true) }) (v := .bool false) rfl (by kernel_rfl) (by kernel_rfl) (by kernel_rfl) (fun _ _ _ h => h) (Or.inl ⟨by rfl, (by intro w hSw; (try dsimp only at hSw); go_simp)⟩) (by assumption) ?_
  simp only [Act.put, List.setIfInBounds_toArray, List.set_cons_zero, List.set_cons_succ]
  refine wpAnyH_take (i := 28) (oi := { dst := some 34, op := Op.load 25 (Operand.tmp 1), type := 25, pos := "law.go:34", after := #[{ on := 27, ground := Ground.guard }], guard := some (27, true) }) (v := undef) rfl (by kernel_rfl) (by kernel_rfl) (by kernel_rfl) (fun _ _ _ h => h) (Or.inr ⟨by rfl, rfl⟩) (by assumption) ?_
  simp only [Act.put, List.setIfInBounds_toArray, List.set_cons_zero, List.set_cons_succ]
  refine wpAnyH_take (i := 29) (oi := { dst := some 35, op := Op.call { callee := Callee.value (Operand.func 16), args := #[Operand.tmp 34], argTypes := #[25] }, type := 4, pos := "law.go:34", after := #[{ on := 28, ground := Ground.data }, { on := 27, ground := Ground.chain }, { on := 27, ground := Ground.guard }], guard := some (27, true) }) (v := undef) rfl (by kernel_rfl) (by kernel_rfl) (by kernel_rfl) (fun _ _ _ h => h) (Or.inr ⟨by rfl, rfl⟩) (by assumption) ?_
  simp only [Act.put, List.setIfInBounds_toArray, List.set_cons_zero, List.set_cons_succ]
  refine wpAnyH_take (i := 30) (oi := { dst := some 36, op := Op.pick (Operand.tmp 33) (Operand.tmp 35) (Operand.const (Value.bool false)), type := 4, pos := "law.go:34", after := #[{ on := 27, ground := Ground.data }, { on := 29, ground := Ground.data }, { on := 22, ground := Ground.guard }], guard := some (22, true) }) (v := .bool false) rfl (by kernel_rfl) (by kernel_rfl) (by kernel_rfl) (fun _ _ _ h => h) (Or.inl ⟨by rfl, (by intro w hSw; (try dsimp only at hSw); go_simp)⟩) (by assumption) ?_
  simp only [Act.put, List.setIfInBounds_toArray, List.set_cons_zero, List.set_cons_succ]
  refine wpAnyH_take (i := 31) (oi := { dst := some 37, op := Op.binOp BinOp.eql 4 (Operand.tmp 30) (Operand.tmp 36) 4, type := 4, pos := "law.go:34", after := #[{ on := 24, ground := Ground.data }, { on := 30, ground := Ground.data }, { on := 22, ground := Ground.guard }], guard := some (22, true) }) (v := .bool true) rfl (by kernel_rfl) (by kernel_rfl) (by kernel_rfl) (fun _ _ _ h => h) (Or.inl ⟨by rfl, (by intro w hSw; (try dsimp only at hSw); go_simp)⟩) (by assumption) ?_
  simp only [Act.put, List.setIfInBounds_toArray, List.set_cons_zero, List.set_cons_succ]
  refine wpAnyH_take (i := 32) (oi := { dst := some 38, op := Op.pick (Operand.tmp 28) (Operand.tmp 37) (Operand.const (Value.bool false)), type := 4, pos := "law.go:34", after := #[{ on := 22, ground := Ground.data }, { on := 31, ground := Ground.data }], guard := none }) (v := .bool true) rfl (by kernel_rfl) (by kernel_rfl) (by kernel_rfl) (fun _ _ _ h => h) (Or.inl ⟨by rfl, (by intro w hSw; (try dsimp only at hSw); go_simp)⟩) (by assumption) ?_
  simp only [Act.put, List.setIfInBounds_toArray, List.set_cons_zero, List.set_cons_succ]
  refine wpAnyH_take (i := 33) (oi := { dst := some 39, op := Op.move (Operand.tmp 38), type := 4, pos := "law.go:34", after := #[{ on := 32, ground := Ground.data }, { on := 29, ground := Ground.chain }], guard := none }) (v := .bool true) rfl (by kernel_rfl) (by kernel_rfl) (by kernel_rfl) (fun _ _ _ h => h) (Or.inl ⟨by rfl, (by intro w hSw; (try dsimp only at hSw); go_simp)⟩) (by assumption) ?_
  simp only [Act.put, List.setIfInBounds_toArray, List.set_cons_zero, List.set_cons_succ]
  refine wpAnyH_take (i := 34) (oi := { dst := some 40, op := Op.load 25 (Operand.tmp 1), type := 25, pos := "law.go:34", after := #[{ on := 33, ground := Ground.guard }], guard := some (33, true) }) (v := .agg #[.slice x1 n1 y1, .slice x2 n2 y2]) rfl (by kernel_rfl) (by kernel_rfl) (by kernel_rfl) (fun _ _ _ h => h) (Or.inl ⟨by rfl, (by intro w hSw; (try dsimp only at hSw); go_simp)⟩) (by assumption) ?_
  simp only [Act.put, List.setIfInBounds_toArray, List.set_cons_zero, List.set_cons_succ]
  refine wpAnyH_take (i := 35) (oi := { dst := some 41, op := Op.load 25 (Operand.tmp 3), type := 25, pos := "law.go:34", after := #[{ on := 33, ground := Ground.guard }], guard := some (33, true) }) (v := .agg #[.slice a3 m1 c3, .slice a4 m2 c4]) rfl (by kernel_rfl) (by kernel_rfl) (by kernel_rfl) (fun _ _ _ h => h) (Or.inl ⟨by rfl, (by intro w hSw; (try dsimp only at hSw); go_simp)⟩) (by assumption) ?_
  simp only [Act.put, List.setIfInBounds_toArray, List.set_cons_zero, List.set_cons_succ]
  refine wpAnyH_ready (rs := [36]) (by kernel_rfl) (by simp) ?_
  refine AllReadyH.cons (o := { dst := some 42, op := Op.call { callee := Callee.value (Operand.func 17), args := #[Operand.tmp 40, Operand.tmp 41], argTypes := #[25, 25] }, type := 4, pos := "law.go:34", after := #[{ on := 34, ground := Ground.data }, { on := 35, ground := Ground.data }, { on := 33, ground := Ground.chain }, { on := 33, ground := Ground.guard }], guard := some (33, true) }) rfl (fun K hK => ?_) AllReadyH.nil
  go_simp
  refine (K11.out _ k9).mono ?_
  rintro e w10 ⟨rfl, q10⟩
  have k10 : Below v.heap.size v w10 := k9.trans (q10.mono k9.size)
  have j10 := HC.out k10
  go_simp
  refine hK.out _ _ (j10) (fun _ => ?_)
  clear hK K
  refine wpAnyH_take (i := 37) (oi := { dst := some 43, op := Op.pick (Operand.tmp 39) (Operand.tmp 42) (Operand.const (Value.bool false)), type := 4, pos := "law.go:34", after := #[{ on := 33, ground := Ground.data }, { on := 36, ground := Ground.data }], guard := none }) (v := .bool true) rfl (by kernel_rfl) (by kernel_rfl) (by kernel_rfl) (fun _ _ _ h => h) (Or.inl ⟨by rfl, (by intro w hSw; (try dsimp only at hSw); go_simp)⟩) (by assumption) ?_
  simp only [Act.put, List.setIfInBounds_toArray, List.set_cons_zero, List.set_cons_succ]
  refine wpAnyH_take (i := 38) (oi := { dst := some 2, op := Op.assign (Operand.tmp 43), type := 4, pos := "law.go:34", after := #[{ on := 37, ground := Ground.data }, { on := 36, ground := Ground.chain }, { on := 0, ground := Ground.phase }, { on := 1, ground := Ground.phase }, { on := 2, ground := Ground.phase }, { on := 3, ground := Ground.phase }, { on := 4, ground := Ground.phase }, { on := 5, ground := Ground.phase }, { on := 6, ground := Ground.phase }, { on := 7, ground := Ground.phase }, { on := 8, ground := Ground.phase }, { on := 9, ground := Ground.phase }, { on := 10, ground := Ground.phase }, { on := 11, ground := Ground.phase }, { on := 12, ground := Ground.phase }, { on := 13, ground := Ground.phase }, { on := 14, ground := Ground.phase }, { on := 15, ground := Ground.phase }, { on := 16, ground := Ground.phase }, { on := 17, ground := Ground.phase }, { on := 18, ground := Ground.phase }, { on := 19, ground := Ground.phase }, { on := 20, ground := Ground.phase }, { on := 21, ground := Ground.phase }, { on := 22, ground := Ground.phase }, { on := 23, ground := Ground.phase }, { on := 24, ground := Ground.phase }, { on := 25, ground := Ground.phase }, { on := 26, ground := Ground.phase }, { on := 27, ground := Ground.phase }, { on := 28, ground := Ground.phase }, { on := 29, ground := Ground.phase }, { on := 30, ground := Ground.phase }, { on := 31, ground := Ground.phase }, { on := 32, ground := Ground.phase }, { on := 33, ground := Ground.phase }, { on := 34, ground := Ground.phase }, { on := 35, ground := Ground.phase }, { on := 36, ground := Ground.phase }, { on := 37, ground := Ground.phase }], guard := none }) (v := .bool true) rfl (by kernel_rfl) (by kernel_rfl) (by kernel_rfl) (fun _ _ _ h => h) (Or.inl ⟨by rfl, (by intro w hSw; (try dsimp only at hSw); go_simp)⟩) (by assumption) ?_
  simp only [Act.put, List.setIfInBounds_toArray, List.set_cons_zero, List.set_cons_succ]
  refine wpAnyH_done (by kernel_rfl) ?_ _
  go_wp2
  go_ret
  exact ⟨rfl, kv.trans (k10.mono kv.size)⟩
end
end Go.Proofs.Ytnkaimkdlpieaaa
