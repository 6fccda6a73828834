/- What became of a line (machine.Outcome) among the arguments. -/
import Derived.Test.YtadkbcehhdcfaaaDoorRH
import Derived.SliceStrings
namespace Go.Proofs.YtadkbcehhdcfaaaDoor
set_option linter.unusedVariables false
set_option linter.unusedSimpArgs false
open Go.ChangeShapes Go.WideShapes Go.ChangeAt Go.RowKit Go.Joins

theorem cellsOutcome : Tryd.prog.cellsOf 40 = 7 := by kernel_rfl
theorem cellsStrs : Tryd.prog.cellsOf 31 = 1 := by kernel_rfl
theorem cellsErrno : Tryd.prog.cellsOf 22 = 1 := by kernel_rfl
theorem cellsIntR : Tryd.prog.cellsOf 3 = 1 := by kernel_rfl
theorem bytesStr : Tryd.prog.bytesOf 9 = 16 := by kernel_rfl
theorem lt_of_cellO {w : World} {b off : Nat} {v : Value} (h : w.cell? ⟨b, off, none⟩ = some v) : b < w.heap.size := by
  rcases Nat.lt_or_ge b w.heap.size with h' | h'
  · exact h'
  · simp [World.cell?, Array.getElem?_eq_none h'] at h
set_option maxRecDepth 100000 in
theorem strs_cells {H : Type} {enc : TypeId × Value → H} {W : World} {fuel : Nat} {cs : List Value} {x : DataW H × List MemPlace} (h : DataW.trod enc Tryd.prog W 0 (fun _ => true) true fuel 31 cs = some x) (hw : ∀ k ∈ x.1.weights Tryd.prog 31, k ≤ reachBytes) :
    ∃ a ss c, cs = [.slice a ss.length c] ∧ RdS W.heap.size W (.slice a ss.length c) ss ∧ ss.length * 16 ≤ 140737488351232 := by
  rcases open_strings Tryd.underlying31 Tryd.underlying9 cellsStr h with ⟨hcs, hx⟩ | ⟨a, len, cap, zs, hcs, _, hl, hm, hz, hx, hcell, hwz⟩
  · exact ⟨none, [], 0, hcs, RdS.nil _ _, by simp⟩
  · simp only [if_true] at hz
    have hlen : (zs.take len).length = len := by simp; omega
    have hws : zs.length * 16 ≤ 140737488351232 := by
      have hu := Tryd.underlying31
      rw [hx] at hw
      simp only [DataW.weights, hu] at hw
      have h1 := hw _ (List.mem_cons_self ..)
      rw [bytesStr] at h1
      unfold reachBytes at h1
      simp [strs] at h1
      omega
    refine ⟨some a, zs.take len, cap, by rw [hlen]; exact hcs, ⟨some a, cap, rfl, by omega, by unfold maxLen at hm; omega, (fun e => by cases e), ?_⟩, by omega⟩
    by_cases h0 : len = 0
    · exact Or.inl (List.eq_nil_of_length_eq_zero (by omega))
    · obtain ⟨b, off, spot⟩ := a
      have hspot : spot = none := by simpa [Addr.add] using World.cell?_spot (hcell 0 (by omega))
      subst hspot
      have hc0 := hcell 0 (by omega)
      rw [Lib.add_plain] at hc0
      refine Or.inr ⟨b, off, rfl, lt_of_cellO hc0, fun j hj => ?_⟩
      rw [hlen] at hj
      have := hcell j (by omega)
      rw [Lib.add_plain] at this
      rw [this]
      have : (zs.take len).getD j noT = zs.getD j ByteArray.empty := by
        simp only [List.getD_eq_getElem?_getD, List.getElem?_take, if_pos hj]
        rw [List.getElem?_eq_getElem (by omega)]
        rfl
      rw [this]
theorem array7 {α : Type} {cs : Array α} (h : cs.size = 7) : ∃ c0 c1 c2 c3 c4 c5 c6, cs = #[c0, c1, c2, c3, c4, c5, c6] := by
  obtain ⟨l⟩ := cs
  match l, h with
  | [c0, c1, c2, c3, c4, c5, c6], _ => exact ⟨c0, c1, c2, c3, c4, c5, c6, rfl⟩
set_option maxRecDepth 100000 in
theorem outcome_rd {H : Type} {enc : TypeId × Value → H} {W : World} {base : Nat} {v : Value} {d : DataW H} {p : List MemPlace} (hval : Value.okWide Tryd.prog W .any base 40 v) (h : DataW.Trod enc Tryd.prog W 0 (fun _ => true) true 40 v d p) (hw : ∀ x ∈ d.weights Tryd.prog 40, x ≤ reachBytes) :
    ∃ (a : Option Addr) (ss : List ByteArray) (c : Nat) (e : Int) (nm : ByteArray) (ln : Int) (tx : ByteArray) (at' us : Int), v = .agg #[.slice a ss.length c, .int .i64 e, .string nm, .int .i64 ln, .string tx, .int .i64 at', .int .i64 us] ∧ RdS W.heap.size W (.slice a ss.length c) ss ∧ ss.length * 16 ≤ 140737488351232 ∧ nm.size ≤ 140737488351232 ∧ tx.size ≤ 140737488351232 ∧ (-9223372036854775808 ≤ ln ∧ ln ≤ 9223372036854775807) ∧ (-9223372036854775808 ≤ e ∧ e ≤ 9223372036854775807) := by
  obtain ⟨cs, rfl, hsz⟩ := okWide_struct Tryd.underlying40 hval
  rw [cellsOutcome] at hsz
  obtain ⟨c0, c1, c2, c3, c4, c5, c6, rfl⟩ := array7 hsz
  obtain ⟨fuel, hf⟩ := h
  obtain ⟨y0, y1, y2, y3, n, hx, _, h0, h1, h2, h3⟩ := trod_struct4 Tryd.underlying40 hf
  simp only [Value.cells, cellsStrs, cellsErrno, cellsIntR, cellsWhere, List.drop, List.take] at h0 h1 h2 h3
  obtain ⟨z0, z1, z2, z3, n2, hx2, _, k0, k1, k2, k3⟩ := trod_struct4 Tryd.underlying29 h2
  simp only [cellsStr, cellsIntR, List.drop, List.take] at k0 k1 k2 k3
  simp only [Prod.mk.injEq] at hx
  obtain ⟨hd, hp⟩ := hx
  subst hd
  have hu := Tryd.underlying40
  have hu2 := Tryd.underlying29
  simp only [DataW.weights, hu] at hw
  obtain ⟨e, f1, g1, q1⟩ := DataW.trod_int Tryd.underlying22 h1
  obtain ⟨nm, f2, g2, q2⟩ := DataW.trod_string Tryd.underlying9 k0
  obtain ⟨ln, f3, g3, q3⟩ := DataW.trod_int Tryd.underlying3 k1
  obtain ⟨tx, f4, g4, q4⟩ := DataW.trod_string Tryd.underlying9 k2
  obtain ⟨at', f5, g5, q5⟩ := DataW.trod_int Tryd.underlying3 k3
  obtain ⟨us, f6, g6, q6⟩ := DataW.trod_int Tryd.underlying3 h3
  obtain ⟨a, ss, c, f0, r0, l0⟩ := strs_cells h0 (fun k hk => hw k (by simp [DataW.weightsEach, hk]))
  subst g2 g3 g4 g5
  have w2 : ∀ k ∈ y2.1.weights Tryd.prog 29, k ≤ reachBytes := fun k hk => hw k (by simp [DataW.weightsEach, hk])
  rw [hx2] at w2
  simp only [DataW.weights, hu2] at w2
  simp [DataW.weightsEach, DataW.weights] at w2
  unfold reachBytes at w2
  have b1 := bounds_i64 q1
  have b3 := bounds_i64 q3
  simp only [List.cons.injEq, and_true] at f0 f1 f2 f3 f4 f5 f6
  subst f0 f1 f2 f3 f4 f5 f6
  refine ⟨a, ss, c, e, nm, ln, tx, at', us, rfl, r0, l0, ?_, ?_, ⟨by omega, by omega⟩, ⟨by omega, by omega⟩⟩
  · have := w2.1
    omega
  · have := w2.2
    omega
theorem outcome_weight {H : Type} {d0 : DataW H} (hsz : (DataW.weightsEach Tryd.prog (#[40].toList ++ []) ([d0] ++ [])).all (· ≤ reachBytes) = true) : ∀ x ∈ d0.weights Tryd.prog 40, x ≤ reachBytes := by
  intro x hx
  rw [List.all_eq_true] at hsz
  have := hsz x (by simp [DataW.weightsEach, hx])
  simpa using this
end Go.Proofs.YtadkbcehhdcfaaaDoor
