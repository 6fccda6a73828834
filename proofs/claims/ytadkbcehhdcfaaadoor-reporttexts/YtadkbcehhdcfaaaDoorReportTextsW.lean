/- ReportTexts: the walk. -/
import Derived.Test.YtadkbcehhdcfaaaDoorRD
namespace Go.Proofs.YtadkbcehhdcfaaaDoor
set_option linter.unusedVariables false
set_option linter.unusedSimpArgs false
open Go.RowKit

set_option maxRecDepth 100000 in
set_option maxHeartbeats 3200000 in
theorem reportTexts_walk (e : Int) (s : ByteArray) (w : World) (e0 : -9223372036854775808 ≤ e) (e1 : e ≤ 9223372036854775807) (hs : s.size ≤ 9223372036854775807) (hT : TabT w) (htab : Lib.TabIs Tryd.prog w "internal/strconv.uint64pow10" .u64 Lib.pow10Tab) :
    Calls Tryd.prog 3 #[.int .i64 e, .string s] w fun r w' => r = .returned (.bool true) ∧ Below w.heap.size w w' := by
  obtain ⟨pe, pb, HP⟩ : ∃ pe pb, parseF s = (pe, pb) := ⟨_, _, rfl⟩
  go_enter Tryd.func3, Tryd.ntmps3
  go_wp2_with fail
  have hq := repParse_any s w hT hs
  rw [HP] at hq
  refine hq.mono ?_
  clear hq
  rintro r w1 ⟨rfl, b1⟩
  have T1 := hT.below b1 hT.lt
  have H1 := tabIs_below htab b1
  clear hT htab
  go_wp2_with fail
  have hq := refParse_any s w1 hs
  rw [HP] at hq
  refine hq.mono ?_
  clear hq HP
  rintro r w2 ⟨rfl, b2⟩
  have T2 := T1.below b2 T1.lt
  have H2 := tabIs_below H1 b2
  have g2 := b1.trans (b2.mono b1.size)
  clear T1 H1 b1 b2
  go_wp2_with fail
  refine (live14_ok w2 T2 H2).mono ?_
  rintro r w3 ⟨rfl, b3⟩
  have T3 := T2.below b3 T2.lt
  have H3 := tabIs_below H2 b3
  have g3 := g2.trans (b3.mono g2.size)
  clear T2 H2 b3 g2
  go_wp2_with fail
  refine (repText_any e e0 e1 w3 T3 H3).mono ?_
  rintro r w4 ⟨rfl, b4⟩
  have g4 := g3.trans (b4.mono g3.size)
  clear T3 H3 b4 g3
  go_wp2_with fail
  refine (refText_any e e0 e1 w4).mono ?_
  rintro r w5 ⟨rfl, b5⟩
  have g5 := g4.trans (b5.mono g4.size)
  go_wp2
  go_ret
  exact ⟨rfl, g5⟩
end Go.Proofs.YtadkbcehhdcfaaaDoor
