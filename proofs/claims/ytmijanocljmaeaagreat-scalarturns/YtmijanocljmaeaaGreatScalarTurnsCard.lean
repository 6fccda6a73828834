/- Proved: whatever number and two arrays are handed in, ScalarTurns answers true: each of the eight functions tells the same both ways round. No condition. -/
import Derived.Test.YtmijanocljmaeaaGreatP0
import Derived.Test.YtmijanocljmaeaaGreatScalarTurnsW
import Derived.Lib.SmallJoins
import Derived.WalkKit
import Derived.ProofKit
import Derived.OpenShut
import Derived.Deep.DeepHandedRow
import Derived.Lib.LaidTab
namespace Go.Proofs.YtmijanocljmaeaaGreat.scalarTurns
set_option linter.unusedVariables false
set_option linter.unusedSimpArgs false
open Go.ChangeShapes Go.WideShapes Go.ChangeAt Go.RowKit Go.Joins

theorem own : ownKnob Tryz.prog.godebug = none := by kernel_rfl
theorem laidOut : laidOutB Tryz.prog = true := by kernel_rfl
theorem cells4 {cs : List Value} (h : cs.length = 4) : ∃ u0 u1 u2 u3, cs = [u0, u1, u2, u3] := by
 match cs, h with
 | [u0, u1, u2, u3], _ => exact ⟨_, _, _, _, rfl⟩
set_option maxRecDepth 100000 in
/-- Two arrays among the arguments. -/
theorem pairA_rd {H : Type} {enc : TypeId × Value → H} {W : World} {base : Nat} {v : Value} {d : DataW H} {p : List MemPlace} (hval : Value.okWide Tryz.prog W .any base 26 v) (h : DataW.Trod enc Tryz.prog W 0 (fun _ => true) true 26 v d p) :
    ∃ F x1 n1 y1 x2 n2 y2 x3 n3 y3 x4 n4 y4 t s, v = .agg #[.slice x1 n1 y1, .slice x2 n2 y2, .slice x3 n3 y3, .slice x4 n4 y4] ∧ ArV F (· < W.heap.size) W (.slice x1 n1 y1) (.slice x2 n2 y2) t ∧ ArV F (· < W.heap.size) W (.slice x3 n3 y3) (.slice x4 n4 y4) s := by
 have hv : ∃ cs, v = .agg cs ∧ cs.size = 4 := by
  unfold Value.okWide at hval
  rw [Tryz.underlying26] at hval
  obtain ⟨cs, e, hs, _⟩ := hval
  exact ⟨cs, e, hs.trans (by kernel_rfl)⟩
 obtain ⟨⟨cs⟩, rfl, hsz⟩ := hv
 obtain ⟨c0, c1, c2, c3, rfl⟩ := cells4 (show cs.length = 4 from hsz)
 obtain ⟨fuel, hf⟩ := h
 obtain ⟨xs, m, rfl, _, _, hl, hfs⟩ := DataW.trod_array Tryz.underlying26 hf
 match xs, hl with
 | [y0, y1], _ =>
  have g0 := hfs 0 (by omega)
  have g1 := hfs 1 (by omega)
  rw [cellsA_arr] at g0 g1
  change DataW.trod enc Tryz.prog W 0 (fun _ => true) true m 25 [c0, c1] = some y0 at g0
  change DataW.trod enc Tryz.prog W 0 (fun _ => true) true m 25 [c2, c3] = some y1 at g1
  obtain ⟨t, x1, n1, k1, x2, n2, k2, e1, e2, e3, _⟩ := arr_trod (m + 1) m m [c0, c1] _ (by omega) (Nat.le_refl _) g0 rfl
  obtain rfl : c0 = .slice x1 n1 k1 := by simpa using e1
  obtain rfl : c1 = .slice x2 n2 k2 := by simpa using e2
  obtain ⟨s, x3, n3, k3, x4, n4, k4, e4, e5, e6, _⟩ := arr_trod (m + 1) m m [c2, c3] _ (by omega) (Nat.le_refl _) g1 rfl
  obtain rfl : c2 = .slice x3 n3 k3 := by simpa using e4
  obtain rfl : c3 = .slice x4 n4 k4 := by simpa using e5
  exact ⟨m, x1, n1, k1, x2, n2, k2, x3, n3, k3, x4, n4, k4, t, s, rfl, e3, e6⟩
set_option maxRecDepth 100000 in
theorem u8_rd {H : Type} {enc : TypeId × Value → H} {W : World} {base : Nat} {v : Value} {d : DataW H} {p : List MemPlace} (hval : Value.okWide Tryz.prog W .any base 5 v) (h : DataW.Trod enc Tryz.prog W 0 (fun _ => true) true 5 v d p) : ∃ n : Int, v = .int .u8 n ∧ 0 ≤ n ∧ n ≤ 255 := by
 obtain ⟨x, rfl⟩ := okWide_int Tryz.underlying5 hval
 obtain ⟨fuel, hf⟩ := h
 obtain ⟨n, hn, _, hw⟩ := DataW.trod_int Tryz.underlying5 hf
 obtain rfl : x = n := by simpa [Value.cells] using hn
 have := bounds_u8 hw
 exact ⟨x, rfl, by omega, by omega⟩

set_option maxRecDepth 100000 in
theorem contract (H : Type) (enc : TypeId × Value → H) (W : World) (base : Nat) (args : Array Value) (ds gs : List (DataW H)) (before : List MemPlace)
    (hval : ∀ (j : Nat) t v, Tryz.f3.params[j]? = some t → args[j]? = some v → Value.okWide Tryz.prog W .any base t v)
    (hW : DataW.Whole enc Tryz.prog Tryz.f3.params.toList Rows.scalarTurnsSpec.vars false W args.toList ds gs before)
    (hsz : (DataW.weightsEach Tryz.prog (Tryz.f3.params.toList ++ []) (ds ++ gs)).all (· ≤ reachBytes) = true) :
    Calls Tryz.prog 3 args W fun e W' => ∃ v, e = .returned v ∧ Rows.scalarTurnsSpec.post enc Tryz.prog Tryz.f3 false true false false W args v W' := by
 have hW' := hW
 obtain ⟨p, q, hA0, hV, rfl, hfz, hnd⟩ := hW
 have hA : DataW.TrodAll enc Tryz.prog W 0 (fun _ => true) true Tryz.f3.params.toList args.toList ds p := hA0
 rw [Tryz.params3] at hA hval hsz
 obtain ⟨v0, v1, d0, d1, p0, p1, rfl, rfl, rfl, h0, h1⟩ := trodAll_two hA
 obtain ⟨rfl, rfl⟩ := trodVars_none hV
 clear hA0
 simp only [List.append_nil] at hW'
 obtain ⟨n, rfl, hn0, hn1⟩ := u8_rd (hval 0 5 v0 rfl rfl) h0
 obtain ⟨F, x1, n1, y1, x2, n2, y2, x3, n3, y3, x4, n4, y4, t, s, rfl, va, vb⟩ := pairA_rd (hval 1 26 v1 rfl rfl) h1
 have hlt : ∀ x ∈ p0 ++ p1, x.block < W.heap.size := fun x hx => by simpa using hW'.lt x (by simpa using hx)
 refine (scalarTurns_walk hn0 hn1 (fun _ h => h) va vb).mono fun e W' ⟨he, hnx⟩ => ?_
 subst he
 refine ⟨_, rfl, _, _, _, [], p0 ++ p1, [], hW', ?_, ?_, rfl, hnx.frame _, fun h => by cases h⟩
 · exact trodAll_mk1 (shut_bool Tryz.underlying4 _)
 · exact trodAll_mk2 (Below.trod laidOut (by kernel_rfl) (of_decide_eq_true (by kernel_rfl)) h0 hnx (fun x hx => hlt x (by simp [hx]))) (Below.trod laidOut (by kernel_rfl) (of_decide_eq_true (by kernel_rfl)) h1 hnx (fun x hx => hlt x (by simp [hx])))

theorem reads (os : Os) {H : Type} (enc : TypeId × Value → H) : ∃ places, DataW.whole enc Tryz.prog ((World.holding Tryz.prog os ⟨#[], #[], []⟩).forCall (fun _ _ => 0) ⟨#[], #[.int .u8 0, .agg #[.slice none 0 0, .slice none 0 0, .slice none 0 0, .slice none 0 0]], []⟩).memory Tryz.f3.params.toList Rows.scalarTurnsSpec.vars false #[Value.int .u8 0, .agg #[.slice none 0 0, .slice none 0 0, .slice none 0 0, .slice none 0 0]].toList 8 = some ([.lit (.int .u8 0), .agg [.agg [.nil, .nil], .agg [.nil, .nil]]], [], places) :=
 ⟨[], by kernel_rfl⟩
theorem laid_met (os : Os) (args : Array Value) : laidMet Tryz.prog Rows.scalarTurnsRow.laid ((World.holding Tryz.prog os ⟨#[], #[], []⟩).forCall (fun _ _ => 0) ⟨#[], args, []⟩).memory :=
 laidMet_of_run' 8 (by kernel_rfl) (by kernel_rfl)

set_option maxRecDepth 100000 in
theorem lifted (os : Os) (started : os.Started) (H : Type) (enc : TypeId × Value → H) (F : Stop.Interp) :
    ReturnsInHanded {} Tryz.checked os 3 .any ((OpenSpec.ofChange Rows.scalarTurnsSpec).preRow enc Tryz.prog Tryz.f3 Rows.scalarTurnsRow.domain false Rows.scalarTurnsRow.laid) (((OpenSpec.ofChange Rows.scalarTurnsSpec).at F).post enc Tryz.prog Tryz.f3 false true false false) := by
 obtain ⟨places, hx⟩ := reads os enc
 refine returnsInHanded_of_row (C := Tryz.checked) (s := OpenSpec.ofChange Rows.scalarTurnsSpec) own started (by kernel_rfl) Tryz.func3
  (witness_row_at (enc := enc) (C := Tryz.checked) false (World.holding Tryz.prog os ⟨#[], #[], []⟩) #[.int .u8 0, .agg #[.slice none 0 0, .slice none 0 0, .slice none 0 0, .slice none 0 0]] rfl (by kernel_rfl) (by kernel_rfl) (by kernel_rfl)
   (OpenSpec.preRow_of_cond 8 hx (by kernel_rfl) (fun k hk => by cases hk) (by kernel_rfl) (laid_met os _))) ?_
 intro W base args ds gs before hval hW _ _ hsz _ _ _
 exact contract H enc W base args ds gs before hval hW hsz

theorem said : Rows.ScalarTurnsSaid :=
 OpenClaim.holds_of_cond 3 Tryz.f3 rfl rfl rfl rfl rfl rfl rfl ⟨rfl, rfl, rfl, rfl, rfl⟩ rfl rfl rfl rfl rfl (by kernel_rfl) Tryz.func3 (by kernel_rfl)
  (of_decide_eq_true (by kernel_rfl)) (by unfold Func.isWrapper; first | (rw [if_pos (by decide +kernel)]; kernel_rfl) | (rw [if_neg (by decide +kernel)]; exact ⟨rfl, rfl⟩))
  (fun os started H enc _ F => by rw [OpenClaim.pre_eq_preRow]; exact lifted os started H enc F)
end Go.Proofs.YtmijanocljmaeaaGreat.scalarTurns
namespace Go.Proofs.YtmijanocljmaeaaGreat
theorem scalarTurns_card : Rows.ScalarTurnsSaid := scalarTurns.said
end Go.Proofs.YtmijanocljmaeaaGreat
