/- A place (machine.Where) among the arguments. -/
import Derived.Test.YtadkbcehhdcfaaaDoorRF
import Derived.Lib.SmallJoins
namespace Go.Proofs.YtadkbcehhdcfaaaDoor
set_option linter.unusedVariables false
set_option linter.unusedSimpArgs false
open Go.ChangeShapes Go.WideShapes Go.ChangeAt Go.RowKit Go.Joins

theorem cellsWhere : Tryd.prog.cellsOf 29 = 4 := by kernel_rfl
set_option maxRecDepth 100000 in
theorem where_rd {H : Type} {enc : TypeId × Value → H} {W : World} {base : Nat} {v : Value} {d : DataW H} {p : List MemPlace} (hval : Value.okWide Tryd.prog W .any base 29 v) (h : DataW.Trod enc Tryd.prog W 0 (fun _ => true) true 29 v d p) (hw : ∀ x ∈ d.weights Tryd.prog 29, x ≤ reachBytes) :
    ∃ (nm : ByteArray) (ln : Int) (tx : ByteArray) (at' : Int), v = .agg #[.string nm, .int .i64 ln, .string tx, .int .i64 at'] ∧ p = [] ∧ nm.size ≤ 140737488351232 ∧ tx.size ≤ 140737488351232 ∧ (-9223372036854775808 ≤ ln ∧ ln ≤ 9223372036854775807) ∧ (-9223372036854775808 ≤ at' ∧ at' ≤ 9223372036854775807) := by
  obtain ⟨v0, v1, v2, v3, y0, y1, y2, y3, n, rfl, hd, hp, hy0, hy1, hy2, hy3⟩ := open_agg4 Tryd.underlying29 (by kernel_rfl) cellsWhere hval h
  obtain ⟨nm, e0, z0, q0⟩ := DataW.trod_string Tryd.underlying9 hy0
  obtain ⟨ln, e1, z1, q1⟩ := DataW.trod_int Tryd.underlying3 hy1
  obtain ⟨tx, e2, z2, q2⟩ := DataW.trod_string Tryd.underlying9 hy2
  obtain ⟨at', e3, z3, q3⟩ := DataW.trod_int Tryd.underlying3 hy3
  have f0 : v0 = .string nm := by simpa using e0
  have f1 : v1 = .int .i64 ln := by simpa using e1
  have f2 : v2 = .string tx := by simpa using e2
  have f3 : v3 = .int .i64 at' := by simpa using e3
  subst f0 f1 f2 f3 z0 z1 z2 z3
  have b1 := bounds_i64 q1
  have b3 := bounds_i64 q3
  subst hd
  have hu := Tryd.underlying29
  simp only [DataW.weights, hu] at hw
  simp [DataW.weightsEach, DataW.weights] at hw
  unfold reachBytes at hw
  have n1 : nm.data.toList.length = nm.size := by simp
  have n2 : tx.data.toList.length = tx.size := by simp
  refine ⟨nm, ln, tx, at', rfl, by simpa using hp, ?_, ?_, ⟨by omega, by omega⟩, ⟨by omega, by omega⟩⟩
  · have := hw.1
    omega
  · have := hw.2
    omega
theorem where_weight {H : Type} {t0 : TypeId} {d0 d1 : DataW H} (hsz : (DataW.weightsEach Tryd.prog (#[t0, 29].toList ++ []) ([d0, d1] ++ [])).all (· ≤ reachBytes) = true) : ∀ x ∈ d1.weights Tryd.prog 29, x ≤ reachBytes := by
  intro x hx
  rw [List.all_eq_true] at hsz
  have := hsz x (by simp [DataW.weightsEach, hx])
  simpa using this
end Go.Proofs.YtadkbcehhdcfaaaDoor
