/- ReportLines: the walk. -/
import Derived.Test.YtadkbcehhdcfaaaDoorRG
namespace Go.Proofs.YtadkbcehhdcfaaaDoor
set_option linter.unusedVariables false
set_option linter.unusedSimpArgs false
open Go.RowKit

theorem RdS.over {w w' : World} {v : Value} {ss : List ByteArray} (h : RdS w.heap.size w v ss) (k : Below w.heap.size w w') : RdS w'.heap.size w' v ss := (h.below k (Nat.le_refl _)).mono k.size
theorem below_drewS {B : Nat} {w : World} (q : Nat) : Below B w (w.drewN q) := ⟨rfl, rfl, rfl, Nat.le_refl _, fun _ _ => rfl⟩
theorem sameTexts_bl {B B' : Nat} {w : World} {a a' : Option Addr} {c c' : Nat} {ss : List ByteArray} (h1 : RdS B w (.slice a ss.length c) ss) (h2 : RdS B' w (.slice a' ss.length c') ss) :
    Calls Tryd.prog 13 #[.slice a ss.length c, .slice a' ss.length c'] w fun e w' => e = .returned (.bool true) ∧ Below w.heap.size w w' :=
  (sameTexts_eq h1 h2).mono fun e w' ⟨he, q, hq⟩ => ⟨he, hq ▸ below_drewS q⟩
set_option maxRecDepth 100000 in
set_option maxHeartbeats 12800000 in
theorem reportLines_walk (e : Int) (name text : ByteArray) (line at' : Int) (w : World) (hn : name.size ≤ 140737488351232) (ht : text.size ≤ 140737488351232) (h0 : -9223372036854775808 ≤ line) (h1 : line ≤ 9223372036854775807) (a0 : -9223372036854775808 ≤ at') (a1 : at' ≤ 9223372036854775807) (e0 : -9223372036854775808 ≤ e) (e1 : e ≤ 9223372036854775807) (hT : TabT w) (htab : Lib.TabIs Tryd.prog w "internal/strconv.uint64pow10" .u64 Lib.pow10Tab) :
    Calls Tryd.prog 4 #[.int .i64 e, .agg #[.string name, .int .i64 line, .string text, .int .i64 at']] w fun r w' => r = .returned (.bool true) ∧ Below w.heap.size w w' := by
  have X := boxA_new w #[.string name, .int .i64 line, .string text, .int .i64 at'] 29
  have g := below_alloc w (.cells #[.string name, .int .i64 line, .string text, .int .i64 at'] 29)
  have T := hT.below g hT.lt
  have H := Lib.tabIs_alloc htab (.cells #[.string name, .int .i64 line, .string text, .int .i64 at'] 29)
  have kLines := fun W hW h => repLines_any e name text line at' W hn ht h0 h1 e0 e1 hW h
  have kRef := fun W => refLines_any e name text line at' W hn ht h0 h1 e0 e1
  have kPre := fun W h => repPrefix_any name text line at' W (by omega) h0 h1 h
  have kRpre := fun W => refPrefix_any name text line at' W (by omega) h0 h1
  have kWh := fun W => where_any name text line at' W
  generalize linesF e name line text at' = LS at *
  generalize prefF name line = P at *
  clear hT htab
  go_enter Tryd.func4, Tryd.ntmps4
  go_wp2
  generalize hA : w.alloc (.cells #[.string name, .int .i64 line, .string text, .int .i64 at'] 29) = v at *
  clear hA
  have d0 := X.cell 0 rfl
  have d1 := X.cell 1 rfl
  have d2 := X.cell 2 rfl
  have d3 := X.cell 3 rfl
  have hcells : ∀ {w' : World}, Below v.heap.size v w' → w'.cell? ⟨w.heap.size, 0, none⟩ = some (.string name) ∧ w'.cell? ⟨w.heap.size, 1, none⟩ = some (.int .i64 line) ∧ w'.cell? ⟨w.heap.size, 2, none⟩ = some (.string text) ∧ w'.cell? ⟨w.heap.size, 3, none⟩ = some (.int .i64 at') := fun hb => ⟨(X.below hb X.lt).cell 0 rfl, (X.below hb X.lt).cell 1 rfl, (X.below hb X.lt).cell 2 rfl, (X.below hb X.lt).cell 3 rfl⟩
  go_region_held3 (fun w' => w'.cell? ⟨w.heap.size, 0, none⟩ = some (.string name) ∧ w'.cell? ⟨w.heap.size, 1, none⟩ = some (.int .i64 line) ∧ w'.cell? ⟨w.heap.size, 2, none⟩ = some (.string text) ∧ w'.cell? ⟨w.heap.size, 3, none⟩ = some (.int .i64 at'))
    (first | (go_keep; done) | exact t8 | exact t7 | exact t6 | exact t5 | exact t4 | exact t3 | exact t2 | exact t1)
    (first
      | (have j := t7; go_at_call 18; refine (kRpre _).mono ?_; rintro r w8 ⟨rfl, k8⟩; have b8 : Below v.heap.size v w8 := b7.trans (k8.mono b7.size); have t8 := hcells b8)
      | (have j := t6; go_at_call 16; refine (kWh _).mono ?_; rintro r w7 ⟨rfl, k7⟩; have b7 : Below v.heap.size v w7 := b6.trans (k7.mono b6.size); have t7 := hcells b7)
      | (have j := t5; go_at_call 17; refine (kPre _ (tabIs_below H b5)).mono ?_; rintro r w6 ⟨rfl, k6⟩; have b6 : Below v.heap.size v w6 := b5.trans (k6.mono b5.size); have t6 := hcells b6)
      | (have j := t4; go_at_call 13; refine (sameTexts_bl (R2.over k34) R4).mono ?_; rintro r w5 ⟨rfl, k5⟩; have b5 : Below v.heap.size v w5 := b4.trans (k5.mono b4.size); have t5 := hcells b5)
      | (have j := t3; go_at_call 15; refine (kRef _).mono ?_; rintro r w4 ⟨v4, rfl, o4, k4⟩; obtain ⟨x4, y4, rfl⟩ := row_form2S o4; have R4 := RdS.of_row o4; have b4 : Below v.heap.size v w4 := b3.trans (k4.mono b3.size); have k34 : Below w2.heap.size w2 w4 := k3.trans (k4.mono k3.size); have t4 := hcells b4; clear o4)
      | (have j := t2; go_at_call 16; refine (kWh _).mono ?_; rintro r w3 ⟨rfl, k3⟩; have b3 : Below v.heap.size v w3 := b2.trans (k3.mono b2.size); have t3 := hcells b3)
      | (have j := t1; go_at_call 14; refine (kLines _ (T.below b1 T.lt) (tabIs_below H b1)).mono ?_; rintro r w2 ⟨v2, rfl, o2, k2⟩; obtain ⟨x2, y2, rfl⟩ := row_form2S o2; have R2 := RdS.of_row o2; have b2 : Below v.heap.size v w2 := b1.trans (k2.mono b1.size); have t2 := hcells b2; clear o2)
      | (go_at_call 10; refine (live14_ok v.drew (T.below ⟨rfl, rfl, rfl, Nat.le_refl _, fun _ _ => rfl⟩ T.lt) H).mono ?_; rintro r w1 ⟨rfl, k1⟩; have b1 : Below v.heap.size v w1 := below_undrew k1; have t1 := hcells b1))
  all_goals
    have g8 := g.trans (b8.mono g.size)
    go_wp2
    go_ret
    exact ⟨rfl, g8⟩
end Go.Proofs.YtadkbcehhdcfaaaDoor
