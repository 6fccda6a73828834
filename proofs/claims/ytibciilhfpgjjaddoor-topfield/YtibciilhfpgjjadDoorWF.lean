/- A world for the witness: the settled one, the listed tables holding what their initialisers lay. -/
import Derived.Test.YtibciilhfpgjjadDoorFrames
import Derived.Lib.SmallJoins
namespace Go.Proofs.YtibciilhfpgjjadDoor
set_option linter.unusedVariables false
set_option linter.unusedSimpArgs false
open Go.RowKit

def cellsOfData : DataW Unit → Array Value
  | .agg l => (l.map fun | .lit (.int k n) => Value.int k n | _ => Value.bool false).toArray
  | _ => #[]
def relaid (b : Nat) (cs : Array Value) (w : World) : World :=
  { w with heap := w.heap.modify b fun
      | .cells _ t frozen => .cells cs t frozen
      | o => o }
/-- The three tables laid. -/
def relaid3 (w : World) : World := relaid 0 (cellsOfData Rows.laid_internal_strconv_uint64pow10) (relaid 2 (cellsOfData Rows.laid_math_bits_deBruijn32tab) (relaid 3 (cellsOfData Rows.laid_math_bits_deBruijn64tab) w))

theorem laid_met (os : Os) (args : Array Value) : laidMet Tryd.prog [("math/bits.deBruijn32tab", Rows.laid_math_bits_deBruijn32tab), ("math/bits.deBruijn64tab", Rows.laid_math_bits_deBruijn64tab), ("internal/strconv.uint64pow10", Rows.laid_internal_strconv_uint64pow10)] (((relaid3 (World.holding Tryd.prog os ⟨#[], #[], []⟩))).forCall (fun _ _ => 0) ⟨#[], args, []⟩).memory :=
  laidMet_of_run' 8 (by kernel_rfl) (by kernel_rfl)
end Go.Proofs.YtibciilhfpgjjadDoor

/- A number among the arguments. -/
namespace Go.Proofs.YtibciilhfpgjjadDoor
set_option linter.unusedVariables false
set_option linter.unusedSimpArgs false
open Go.ChangeShapes Go.WideShapes Go.ChangeAt Go.RowKit Go.Joins

theorem cellsRat : Tryd.prog.cellsOf 24 = 3 := by kernel_rfl

set_option maxRecDepth 100000 in
theorem limbs_rd {H : Type} {enc : TypeId × Value → H} {W : World} {v : Value} {y : DataW H × List MemPlace} {fuel : Nat} (hf : DataW.trod enc Tryd.prog W 0 (fun _ => true) true fuel 22 [v] = some y) : ∃ a xs c, v = .slice a xs.length c ∧ Rd W.heap.size W (.slice a xs.length c) xs := by
  rcases open_ints Tryd.underlying22 Tryd.underlying51 cellsU32 hf with ⟨hcs, hx⟩ | ⟨a, len', cap', zs, hcs, _, hl, hm, hz, hx, hcell, hwz⟩
  · have hv : v = .slice none 0 0 := by simpa using hcs
    subst hv
    exact ⟨none, [], 0, rfl, lim_nil, none, 0, rfl, Nat.le_refl _, by omega, fun _ => rfl, Or.inl rfl⟩
  · have hv : v = .slice (some a) len' cap' := by simpa using hcs
    subst hv
    simp only [if_true] at hz
    have hlen : (zs.take len').length = len' := by simp; omega
    refine ⟨some a, zs.take len', cap', by rw [hlen], fun x hx => ?_, some a, cap', rfl, by omega, by unfold maxLen at hm; omega, (fun h => by cases h), ?_⟩
    · have := bounds_u32 (hwz x (List.mem_of_mem_take hx)); omega
    · by_cases h0 : len' = 0
      · exact Or.inl (by omega)
      · obtain ⟨b, off, spot⟩ := a
        have hspot : spot = none := by simpa [Addr.add] using World.cell?_spot (hcell 0 (by omega))
        subst hspot
        have hc0 := hcell 0 (by omega)
        rw [Lib.add_plain] at hc0
        refine Or.inr ⟨b, off, rfl, lt_of_cell hc0, fun j hj => ?_⟩
        rw [hlen] at hj
        have := hcell j (by omega)
        rw [Lib.add_plain] at this
        rw [this]
        have : (zs.take len').getD j 0 = zs.getD j 0 := by simp only [List.getD, List.getElem?_take]; rw [if_pos (by omega)]
        rw [this]

set_option maxRecDepth 100000 in
/-- A number among the arguments. -/
theorem rat_rd {H : Type} {enc : TypeId × Value → H} {W : World} {base : Nat} {v : Value} {d : DataW H} {p : List MemPlace} (hval : Value.okWide Tryd.prog W .any base 24 v) (h : DataW.Trod enc Tryd.prog W 0 (fun _ => true) true 24 v d p) :
    ∃ b a1 ns c1 a2 ds c2, v = .agg #[.bool b, .slice a1 ns.length c1, .slice a2 ds.length c2] ∧ Rd W.heap.size W (.slice a1 ns.length c1) ns ∧ Rd W.heap.size W (.slice a2 ds.length c2) ds := by
  obtain ⟨v0, v1, v2, y0, y1, y2, n, rfl, _, _, hy0, hy1, hy2⟩ := open_agg3 Tryd.underlying24 (by kernel_rfl) cellsRat hval h
  obtain ⟨b, hb, _⟩ := DataW.trod_bool Tryd.underlying4 hy0
  obtain ⟨a1, ns, c1, rfl, r1⟩ := limbs_rd hy1
  obtain ⟨a2, ds, c2, rfl, r2⟩ := limbs_rd hy2
  have hb' : v0 = .bool b := by simpa using hb
  subst hb'
  exact ⟨b, a1, ns, c1, a2, ds, c2, rfl, r1, r2⟩
end Go.Proofs.YtibciilhfpgjjadDoor
