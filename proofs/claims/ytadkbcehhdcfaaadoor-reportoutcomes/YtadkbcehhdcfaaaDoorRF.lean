/- From a statement's row to its walk: what the table of texts and that of powers of ten hold; a world for the witness. -/
import Derived.Test.YtadkbcehhdcfaaaDoorCards
import Derived.Test.YtadkbcehhdcfaaaDoorTie
import Derived.Test.YtadkbcehhdcfaaaDoorRC
import Derived.WalkKit
import Derived.ProofKit
import Derived.OpenShut
import Derived.Deep.DeepHandedRow
import Derived.Lib.LaidTab
import Derived.Lib.LaidU8
namespace Go.Proofs.YtadkbcehhdcfaaaDoor
set_option linter.unusedVariables false
set_option linter.unusedSimpArgs false
open Go.ChangeShapes Go.WideShapes Go.ChangeAt Go.RowKit

theorem own : ownKnob Tryd.prog.godebug = none := by kernel_rfl
theorem laidOut : laidOutB Tryd.prog = true := by kernel_rfl

def cellsOfLit : DataW Unit → List Value
  | .agg l => l.flatMap fun | .lit (.int k n) => [Value.int k n] | .lit (.string s) => [Value.string ⟨s.toArray⟩] | .agg m => m.map (fun | .lit (.int k n) => Value.int k n | _ => Value.bool false) | _ => [Value.bool false]
  | _ => []
def relaid (b : Nat) (cs : Array Value) (w : World) : World :=
  { w with heap := w.heap.modify b fun
      | .cells _ t frozen => .cells cs t frozen
      | o => o }
/-- The six tables laid. -/
def relaid6 (w : World) : World := relaid 0 (cellsOfLit Rows.laid_glyph_report_texts).toArray (relaid 2 (cellsOfLit Rows.laid_unicode_utf8_first).toArray (relaid 3 (cellsOfLit Rows.laid_unicode_utf8_acceptRanges).toArray (relaid 4 (cellsOfLit Rows.laid_internal_strconv_uint64pow10).toArray (relaid 5 (cellsOfLit Rows.laid_math_bits_deBruijn32tab).toArray (relaid 6 (cellsOfLit Rows.laid_math_bits_deBruijn64tab).toArray w)))))
abbrev laidRp : List (String × DataW Unit) := [("math/bits.deBruijn32tab", Rows.laid_math_bits_deBruijn32tab), ("math/bits.deBruijn64tab", Rows.laid_math_bits_deBruijn64tab), ("internal/strconv.uint64pow10", Rows.laid_internal_strconv_uint64pow10), ("unicode/utf8.acceptRanges", Rows.laid_unicode_utf8_acceptRanges), ("glyph/report.texts", Rows.laid_glyph_report_texts), ("unicode/utf8.first", Rows.laid_unicode_utf8_first)]
theorem laid_met (os : Os) (args : Array Value) : laidMet Tryd.prog laidRp (((relaid6 (World.holding Tryd.prog os ⟨#[], #[], []⟩))).forCall (fun _ _ => 0) ⟨#[], args, []⟩).memory :=
  laidMet_of_run' 8 (by kernel_rfl) (by kernel_rfl)

/-- An array of texts that reads as these holds them, cell for cell. -/
theorem cells_of_strs {H : Type} {enc : TypeId × Value → H} {P : Program} {w : World} {base : Nat} {sp : Nat → Bool} {held : Bool} {fuel : Nat} {t e : TypeId} {n : Nat} {cs : List Value} {zs : List (List UInt8)} {p : List MemPlace}
    (ht : P.underlying t = some (.array n e)) (he : P.underlying e = some .string) (hce : P.cellsOf e = 1) (hct : P.cellsOf t = n)
    (h : DataW.trod enc P w base sp held fuel t cs = some (.agg (zs.map fun z => .lit (.string z)), p)) : ∀ (i : Nat) (z : List UInt8), zs[i]? = some z → cs[i]? = some (.string ⟨z.toArray⟩) := by
  cases fuel with
  | zero => simp [DataW.trod] at h
  | succ fuel =>
    simp only [DataW.trod, ht, hce, hct, Nat.mul_one] at h
    split at h
    · rename_i hl
      obtain ⟨xs, hm, hx⟩ := Option.map_eq_some_iff.1 h
      have hxs : xs.map (·.1) = zs.map fun z => (DataW.lit (.string z) : DataW H) := by
        have := congrArg Prod.fst hx
        simpa using this
      have hxl : xs.length = n := by simpa using Lib.mapM_length hm
      have hzl : zs.length = n := by
        have := congrArg List.length hxs
        simp at this
        omega
      intro i z hz
      have hi : i < n := by rw [← hzl]; exact (List.getElem?_eq_some_iff.1 hz).1
      obtain ⟨b, hb, hf⟩ := Lib.mapM_at hm i i (by simp [hi])
      obtain ⟨s, hc, rfl, _⟩ := DataW.trod_string he hf
      have h1 : cs[i]? = some (.string s) := by
        have := congrArg (·[0]?) hc
        simpa [List.getElem?_take, List.getElem?_drop] using this
      have h2 : (xs.map (·.1))[i]? = some (DataW.lit (.string s.data.toList) : DataW H) := by simp [hb]
      rw [hxs] at h2
      simp only [List.getElem?_map, hz, Option.map_some, Option.some.injEq, DataW.lit.injEq, Lit.string.injEq] at h2
      rw [h1, h2]
    · cases h

theorem gTexts : Tryd.prog.globalNamed "glyph/report.texts" = some 0 := by kernel_rfl
theorem gTextsType : (Tryd.prog.globals[0]?).map (·.type) = some 48 := by kernel_rfl
theorem cellsTexts : Tryd.prog.cellsOf 48 = 10 := by kernel_rfl
theorem cellsStr : Tryd.prog.cellsOf 9 = 1 := by kernel_rfl
theorem gTab : Tryd.prog.globalNamed "internal/strconv.uint64pow10" = some 4 := by kernel_rfl
theorem gTabType : (Tryd.prog.globals[4]?).map (·.type) = some 121 := by kernel_rfl
theorem cellsTab : Tryd.prog.cellsOf 121 = 20 := by kernel_rfl
theorem cellsU64 : Tryd.prog.cellsOf 83 = 1 := by kernel_rfl
theorem texts_datum : (Rows.laid_glyph_report_texts : DataW Unit) = .agg ((wordsT.map fun b => b.data.toList).map fun z => .lit (.string z)) := by kernel_rfl
theorem pow_datum : (Rows.laid_internal_strconv_uint64pow10 : DataW Unit) = Lib.tabData .u64 Lib.pow10Tab := by kernel_rfl
/-- What a row's list gives of the two tables. -/
theorem tabsRp {W : World} (h : laidMetH Tryd.prog laidRp W) : TabT W ∧ Lib.TabIs Tryd.prog W "internal/strconv.uint64pow10" .u64 Lib.pow10Tab := by
  obtain ⟨ps, h1, _⟩ := h
  have r1 := Lib.LaidVars_reads h1 "glyph/report.texts" _ (.tail _ (.tail _ (.tail _ (.tail _ (.head _)))))
  have r2 := Lib.LaidVars_reads h1 "internal/strconv.uint64pow10" _ (.tail _ (.tail _ (.head _)))
  rw [texts_datum] at r1
  rw [pow_datum] at r2
  constructor
  · obtain ⟨g, t, cs, fuel, p, hg, hty, hvar, hd⟩ := r1
    obtain rfl := Option.some.inj (gTexts.symm.trans hg)
    obtain rfl := Option.some.inj (gTextsType.symm.trans hty)
    have hcs := cells_of_strs Tryd.underlying48 Tryd.underlying9 cellsStr cellsTexts hd
    intro i hi
    rw [World.var?_cell hg hvar i, ← Array.getElem?_toList]
    have hw : wordsT[i]? = some (wordsT.getD i noT) := by
      rw [List.getD_eq_getElem?_getD]
      have : i < wordsT.length := hi
      rw [List.getElem?_eq_getElem this]
      rfl
    rw [hcs i _ (by rw [List.getElem?_map, hw]; rfl)]
  · obtain ⟨g, t, cs, fuel, p, hg, hty, hvar, hd⟩ := r2
    obtain rfl := Option.some.inj (gTab.symm.trans hg)
    obtain rfl := Option.some.inj (gTabType.symm.trans hty)
    unfold Lib.TabIs
    rw [hvar, ← Lib.cells_of_tab Tryd.underlying121 Tryd.underlying83 cellsU64 cellsTab hd]
end Go.Proofs.YtadkbcehhdcfaaaDoor
