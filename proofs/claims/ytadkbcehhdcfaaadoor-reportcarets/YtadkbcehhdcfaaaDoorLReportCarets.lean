/- ReportCarets: the walk. -/
import Derived.Test.YtadkbcehhdcfaaaDoorRI
namespace Go.Proofs.YtadkbcehhdcfaaaDoor
set_option linter.unusedVariables false
set_option linter.unusedSimpArgs false
open Go.RowKit

set_option linter.unusedSectionVars false
section
variable (e : Int) (name text : ByteArray) (line at' : Int) (w : World) (hn : name.size ≤ 140737488351232) (ht : text.size ≤ 140737488351232) (h0 : -9223372036854775808 ≤ line) (h1 : line ≤ 9223372036854775807) (a0 : -9223372036854775808 ≤ at') (a1 : at' ≤ 9223372036854775807) (e0 : -9223372036854775808 ≤ e) (e1 : e ≤ 9223372036854775807) (hT : TabT w) (htab : Lib.TabIs Tryd.prog w "internal/strconv.uint64pow10" .u64 Lib.pow10Tab)
include hn ht h0 h1 a0 a1 e0 e1 hT htab
set_option maxRecDepth 100000 in
set_option maxHeartbeats 6400000 in
/-- OK, or no character there. -/
theorem carets_off (hc : e = 0 ∨ (¬ e = 0 ∧ at' < 0)) :
    Calls Tryd.prog 7 #[.int .i64 e, .agg #[.string name, .int .i64 line, .string text, .int .i64 at']] w fun r w' => r = .returned (.bool true) ∧ Below w.heap.size w w' := by
  have X := boxA_new w #[.string name, .int .i64 line, .string text, .int .i64 at'] 29
  have g := below_alloc w (.cells #[.string name, .int .i64 line, .string text, .int .i64 at'] 29)
  have T := hT.below g hT.lt
  have H := Lib.tabIs_alloc htab (.cells #[.string name, .int .i64 line, .string text, .int .i64 at'] 29)
  have kLines := fun W hW h => repLines_any e name text line at' W hn ht h0 h1 e0 e1 hW h
  have HL : Hid (e = 0 → linesF e name line text at' = []) := fun h => by unfold linesF; rw [if_pos h]
  generalize linesF e name line text at' = LS at *
  have d0 := X.cell 0 rfl
  have d1 := X.cell 1 rfl
  have d2 := X.cell 2 rfl
  have d3 := X.cell 3 rfl
  clear hT htab
  go_enter Tryd.func7, Tryd.ntmps7
  go_wp2_with fail
  clear d0 d1 d2 d3
  generalize hA : w.alloc (.cells #[.string name, .int .i64 line, .string text, .int .i64 at'] 29) = v at *
  clear hA
  refine (kLines v T H).mono ?_
  rintro r w1 ⟨v1, rfl, o1, b1⟩
  have X1 := X.below b1 X.lt
  have T1 := T.below b1 T.lt
  have H1 := tabIs_below H b1
  have g1 := g.trans (b1.mono g.size)
  obtain ⟨x1, y1, rfl⟩ := row_form2S o1
  clear X T H g b1 kLines o1
  have d2 := X1.cell 2 rfl
  have d3 := X1.cell 3 rfl
  rcases hc with hc | ⟨hc, hc2⟩
  · have hz : (LS.length : Int) = 0 := by rw [HL.out hc]; rfl
    subst hc
    clear HL
    go_wp2
    go_quiet (fail)
    go_wp2_with fail
    refine (live14_ok _ (T1.below (B := w1.heap.size) (below_drewS _) T1.lt) (tabIs_below H1 (below_drewS _))).mono ?_
    rintro r w2 ⟨rfl, b2⟩
    have g2 : Below w.heap.size w w2 := (g1.trans (below_drewS _)).trans (b2.mono g1.size)
    go_wp2
    go_ret
    exact ⟨rfl, g2⟩
  · have hb : (e == 0) = false := by rw [beq_eq_false_iff_ne]; exact hc
    clear HL
    go_wp2
    go_quiet (fail)
    go_wp2_with fail
    refine (live14_ok _ (T1.below (B := w1.heap.size) (below_drewS _) T1.lt) (tabIs_below H1 (below_drewS _))).mono ?_
    rintro r w2 ⟨rfl, b2⟩
    have g2 : Below w.heap.size w w2 := (g1.trans (below_drewS _)).trans (b2.mono g1.size)
    go_wp2
    go_ret
    exact ⟨rfl, g2⟩
set_option maxRecDepth 100000 in
set_option maxHeartbeats 6400000 in
theorem carets_behind (hc : ¬ e = 0) (hc2 : ¬ at' < 0) (hc3 : ¬ at' < (Lib.runeCount text : Int)) :
    Calls Tryd.prog 7 #[.int .i64 e, .agg #[.string name, .int .i64 line, .string text, .int .i64 at']] w fun r w' => r = .returned (.bool true) ∧ Below w.heap.size w w' := by
  have X := boxA_new w #[.string name, .int .i64 line, .string text, .int .i64 at'] 29
  have g := below_alloc w (.cells #[.string name, .int .i64 line, .string text, .int .i64 at'] 29)
  have T := hT.below g hT.lt
  have H := Lib.tabIs_alloc htab (.cells #[.string name, .int .i64 line, .string text, .int .i64 at'] 29)
  have kLines := fun W hW h => repLines_any e name text line at' W hn ht h0 h1 e0 e1 hW h
  have kW := fun W => refWidth_any text W (by omega)
  have hrt : Lib.runeCount text ≤ text.size := Lib.runeCount_le text
  have hc4 : (Lib.runeCount text : Int) ≤ at' := by omega
  generalize linesF e name line text at' = LS at *
  generalize Lib.runeCount text = rt at *
  have d0 := X.cell 0 rfl
  have d1 := X.cell 1 rfl
  have d2 := X.cell 2 rfl
  have d3 := X.cell 3 rfl
  clear hT htab
  go_enter Tryd.func7, Tryd.ntmps7
  go_wp2_with fail
  clear d0 d1 d2 d3
  generalize hA : w.alloc (.cells #[.string name, .int .i64 line, .string text, .int .i64 at'] 29) = v at *
  clear hA
  refine (kLines v T H).mono ?_
  rintro r w1 ⟨v1, rfl, o1, b1⟩
  have X1 := X.below b1 X.lt
  have T1 := T.below b1 T.lt
  have H1 := tabIs_below H b1
  have g1 := g.trans (b1.mono g.size)
  obtain ⟨x1, y1, rfl⟩ := row_form2S o1
  clear X T H g b1 kLines o1
  have d0 := X1.cell 0 rfl
  have d1 := X1.cell 1 rfl
  have d2 := X1.cell 2 rfl
  have d3 := X1.cell 3 rfl
  have hb : (e == 0) = false := by rw [beq_eq_false_iff_ne]; exact hc
  have hb2 : decide (at' < 0) = false := decide_eq_false (by omega)
  have hb3 : decide ((rt : Int) ≤ at') = true := decide_eq_true (by omega)
  have hcells : ∀ {w' : World}, Below w1.heap.size w1 w' → w'.cell? ⟨w.heap.size, 0, none⟩ = some (.string name) ∧ w'.cell? ⟨w.heap.size, 1, none⟩ = some (.int .i64 line) ∧ w'.cell? ⟨w.heap.size, 2, none⟩ = some (.string text) ∧ w'.cell? ⟨w.heap.size, 3, none⟩ = some (.int .i64 at') := fun hb => ⟨(X1.below hb X1.lt).cell 0 rfl, (X1.below hb X1.lt).cell 1 rfl, (X1.below hb X1.lt).cell 2 rfl, (X1.below hb X1.lt).cell 3 rfl⟩
  go_wp2
  go_region_held3 (fun w' => w'.cell? ⟨w.heap.size, 0, none⟩ = some (.string name) ∧ w'.cell? ⟨w.heap.size, 1, none⟩ = some (.int .i64 line) ∧ w'.cell? ⟨w.heap.size, 2, none⟩ = some (.string text) ∧ w'.cell? ⟨w.heap.size, 3, none⟩ = some (.int .i64 at'))
    (first | (go_keep; done) | exact t1)
    (first | (go_at_call 21; refine (kW w1.drew).mono ?_; rintro r wa ⟨rfl, k1⟩; have b1 : Below w1.heap.size w1 wa := below_undrew k1; have t1 := hcells b1))
  have X2 := X1.below b1 X1.lt
  have T2 := T1.below b1 T1.lt
  have H2 := tabIs_below H1 b1
  have g2 := g1.trans (b1.mono g1.size)
  clear T1 H1 g1 X1 d0 d1 d2 d3 hcells
  go_wp2_with fail
  refine (live14_ok wa T2 H2).mono ?_
  rintro r w2 ⟨rfl, b2⟩
  have g3 := g2.trans (b2.mono g2.size)
  go_wp2
  go_ret
  exact ⟨rfl, g3⟩
end
end Go.Proofs.YtadkbcehhdcfaaaDoor

/- ReportCarets: the walk, where the caret stands below a character. -/
namespace Go.Proofs.YtadkbcehhdcfaaaDoor
set_option linter.unusedVariables false
set_option linter.unusedSimpArgs false
open Go.RowKit

theorem lt_of_cellR {w : World} {b off : Nat} {v : Value} (h : w.cell? ⟨b, off, none⟩ = some v) : b < w.heap.size := by
  rcases Nat.lt_or_ge b w.heap.size with h' | h'
  · exact h'
  · simp [World.cell?, Array.getElem?_eq_none h'] at h
theorem caret_at (n : Nat) (h : n < (blk n ++ ⟨#[94]⟩ : ByteArray).size) : ((blk n ++ ⟨#[94]⟩ : ByteArray)[n]'h).toNat = 94 := by
  have e : ∀ (s : ByteArray) (hs : n < s.size), s.data.toList = List.replicate n 32 ++ [94] → (s[n]'hs).toNat = 94 := by
    intro s hs hl
    have h2 : s.data.toList[n]? = some (s[n]'hs) := by
      rw [List.getElem?_eq_getElem (by simpa using hs)]
      simp
      rfl
    rw [hl, List.getElem?_append_right (by simp)] at h2
    simp at h2
    rw [← h2]
    rfl
  exact e _ h (by rw [ByteArray.data_append, Array.toList_append]; simp [blk])
set_option linter.unusedSectionVars false
section
variable (e : Int) (name text : ByteArray) (line at' : Int) (w : World) (hn : name.size ≤ 140737488351232) (ht : text.size ≤ 140737488351232) (h0 : -9223372036854775808 ≤ line) (h1 : line ≤ 9223372036854775807) (a0 : -9223372036854775808 ≤ at') (a1 : at' ≤ 9223372036854775807) (e0 : -9223372036854775808 ≤ e) (e1 : e ≤ 9223372036854775807) (hT : TabT w) (htab : Lib.TabIs Tryd.prog w "internal/strconv.uint64pow10" .u64 Lib.pow10Tab)
include hn ht h0 h1 a0 a1 e0 e1 hT htab
set_option maxRecDepth 100000 in
set_option maxHeartbeats 800000 in
theorem carets_on (hc : ¬ e = 0) (hc2 : ¬ at' < 0) (hc3 : at' < (Lib.runeCount text : Int)) :
    Calls Tryd.prog 7 #[.int .i64 e, .agg #[.string name, .int .i64 line, .string text, .int .i64 at']] w fun r w' => r = .returned (.bool true) ∧ Below w.heap.size w w' := by
  have X := boxA_new w #[.string name, .int .i64 line, .string text, .int .i64 at'] 29
  have g := below_alloc w (.cells #[.string name, .int .i64 line, .string text, .int .i64 at'] 29)
  have T := hT.below g hT.lt
  have H := Lib.tabIs_alloc htab (.cells #[.string name, .int .i64 line, .string text, .int .i64 at'] 29)
  have kLines := fun W hW h => repLines_any e name text line at' W hn ht h0 h1 e0 e1 hW h
  have kW := fun W => refWidth_any text W (by omega)
  have hrt : Lib.runeCount text ≤ text.size := Lib.runeCount_le text
  have hc4 : ¬ (Lib.runeCount text : Int) ≤ at' := by omega
  obtain ⟨k, hk⟩ : ∃ k : Nat, at' = (k : Int) := ⟨at'.toNat, by omega⟩
  have kP := fun W h => repPrefix_any name text line at' W (by omega) h0 h1 h
  have kWp := fun W => refWidth_any (prefF name line) W (by have := prefF_size name line h0 h1; omega)
  have hps := prefF_size name line h0 h1
  have hrc : Lib.runeCount (prefF name line) ≤ (prefF name line).size := Lib.runeCount_le _
  have HL : Hid (linesF e name line text at' = [textF e, prefF name line ++ text, blk (Lib.runeCount (prefF name line) + k) ++ ⟨#[94]⟩]) := by
    unfold Hid linesF
    rw [if_neg hc, blk_add, show atF text at' = k by unfold atF; omega]
  have HK : Hid (at' = (k : Int)) := hk
  clear hk
  generalize linesF e name line text at' = LS at *
  generalize Lib.runeCount text = rt at *
  generalize prefF name line = P at *
  generalize Lib.runeCount P = rc at *
  have d0 := X.cell 0 rfl
  have d1 := X.cell 1 rfl
  have d2 := X.cell 2 rfl
  have d3 := X.cell 3 rfl
  clear hT htab
  go_enter Tryd.func7, Tryd.ntmps7
  go_wp2_with fail
  clear d0 d1 d2 d3
  generalize hA : w.alloc (.cells #[.string name, .int .i64 line, .string text, .int .i64 at'] 29) = v at *
  clear hA
  refine (kLines v T H).mono ?_
  rintro r w1 ⟨v1, rfl, o1, b1⟩
  have X1 := X.below b1 X.lt
  have T1 := T.below b1 T.lt
  have H1 := tabIs_below H b1
  have g1 := g.trans (b1.mono g.size)
  obtain ⟨x1, y1, rfl⟩ := row_form2S o1
  clear X T H g b1 kLines
  have d0 := X1.cell 0 rfl
  have d1 := X1.cell 1 rfl
  have d2 := X1.cell 2 rfl
  have d3 := X1.cell 3 rfl
  have hb : (e == 0) = false := by rw [beq_eq_false_iff_ne]; exact hc
  have hb2 : decide (at' < 0) = false := decide_eq_false (by omega)
  have hb3 : decide ((rt : Int) ≤ at') = false := decide_eq_false (by omega)
  have hcells : ∀ {w' : World}, Below w1.heap.size w1 w' → w'.cell? ⟨w.heap.size, 0, none⟩ = some (.string name) ∧ w'.cell? ⟨w.heap.size, 1, none⟩ = some (.int .i64 line) ∧ w'.cell? ⟨w.heap.size, 2, none⟩ = some (.string text) ∧ w'.cell? ⟨w.heap.size, 3, none⟩ = some (.int .i64 at') := fun hb => ⟨(X1.below hb X1.lt).cell 0 rfl, (X1.below hb X1.lt).cell 1 rfl, (X1.below hb X1.lt).cell 2 rfl, (X1.below hb X1.lt).cell 3 rfl⟩
  go_wp2
  go_region_held3 (fun w' => w'.cell? ⟨w.heap.size, 0, none⟩ = some (.string name) ∧ w'.cell? ⟨w.heap.size, 1, none⟩ = some (.int .i64 line) ∧ w'.cell? ⟨w.heap.size, 2, none⟩ = some (.string text) ∧ w'.cell? ⟨w.heap.size, 3, none⟩ = some (.int .i64 at'))
    (first | (go_keep; done) | exact t1)
    (first | (go_at_call 21; refine (kW w1.drew).mono ?_; rintro r wa ⟨rfl, k1⟩; have b1 : Below w1.heap.size w1 wa := below_undrew k1; have t1 := hcells b1))
  have X2 := X1.below b1 X1.lt
  have T2 := T1.below b1 T1.lt
  have H2 := tabIs_below H1 b1
  have g2 := g1.trans (b1.mono g1.size)
  have R1 := RdS.of_row o1
  rw [HL.out] at R1
  obtain ⟨gg, oo, cap, hv, hc5, hc6, k0, k1', k2'⟩ := R1.three
  obtain ⟨hv1, hv2, hv3⟩ := Value.slice.inj hv
  subst hv1 hv3
  have hl3 : LS.length = 3 := by rw [HL.out]; rfl
  rw [hl3]
  clear hl3
  have k2a := b1.cell (p := ⟨gg, oo + 2, none⟩) (lt_of_cellR k2')
  rw [k2'] at k2a
  clear hv R1 o1 k0 k1' k2' hv2 HL T1 H1 g1 X1 d0 d1 d2 d3 hcells kW b1
  have d0 := X2.cell 0 rfl
  have d1 := X2.cell 1 rfl
  have d2 := X2.cell 2 rfl
  have d3 := X2.cell 3 rfl
  have hcells : ∀ {w' : World}, Below wa.heap.size wa w' → w'.cell? ⟨w.heap.size, 0, none⟩ = some (.string name) ∧ w'.cell? ⟨w.heap.size, 1, none⟩ = some (.int .i64 line) ∧ w'.cell? ⟨w.heap.size, 2, none⟩ = some (.string text) ∧ w'.cell? ⟨w.heap.size, 3, none⟩ = some (.int .i64 at') := fun hb => ⟨(X2.below hb X2.lt).cell 0 rfl, (X2.below hb X2.lt).cell 1 rfl, (X2.below hb X2.lt).cell 2 rfl, (X2.below hb X2.lt).cell 3 rfl⟩
  obtain ⟨N, HN⟩ : ∃ N, rc + k = N := ⟨_, rfl⟩
  rw [HN] at k2a
  have hw1 : IntKind.i64.wrap ((rc : Int) + at') = (N : Int) := by rw [IntKind.wrap_i64, HK.out]; have := HK.out; omega
  have hNb : N ≤ 1000000000000000 := by have := HK.out; omega
  have hN1 : (blk N ++ (⟨#[94]⟩ : ByteArray)).size = N + 1 := by rw [ByteArray.size_append, blk_size]; rfl
  have hN2 := caret_at N
  clear HN HK
  generalize blk N ++ (⟨#[94]⟩ : ByteArray) = S3 at *
  go_wp2
  go_region_held3 (fun w' => w'.cell? ⟨w.heap.size, 0, none⟩ = some (.string name) ∧ w'.cell? ⟨w.heap.size, 1, none⟩ = some (.int .i64 line) ∧ w'.cell? ⟨w.heap.size, 2, none⟩ = some (.string text) ∧ w'.cell? ⟨w.heap.size, 3, none⟩ = some (.int .i64 at'))
    (first | (go_keep; done) | exact t1 | exact t2)
    (first
      | (have j := t1; go_at_call 21; refine (kWp _).mono ?_; rintro r wc ⟨rfl, k3⟩; have b3 : Below wa.heap.size wa wc := b2.trans (k3.mono b2.size); have t2 := hcells b3)
      | (go_at_call 17; refine (kP wa.drew H2).mono ?_; rintro r wb ⟨rfl, k2⟩; have b2 : Below wa.heap.size wa wb := below_undrew k2; have t1 := hcells b2))
  have T3 := T2.below b3 T2.lt
  have H3 := tabIs_below H2 b3
  have g3 := g2.trans (b3.mono g2.size)
  have k3a := b3.cell (p := ⟨gg, oo + 2, none⟩) (lt_of_cellR k2a)
  rw [k2a] at k3a
  clear T2 H2 g2 k2a b2 d0 d1 d2 d3 t1 t2 hcells X2 kWp kP
  go_wp2_with fail
  refine (live14_ok wc T3 H3).mono ?_
  rintro r wd ⟨rfl, b4⟩
  have g4 := g3.trans (b4.mono g3.size)
  have k4a := b4.cell (p := ⟨gg, oo + 2, none⟩) (lt_of_cellR k3a)
  rw [k3a] at k4a
  clear T3 H3 g3 k3a
  have hN3 : (N : Int) < (S3.size : Int) := by omega
  have hN4 : N < S3.size := by omega
  have hN5 : (0 : Int) ≤ (N : Int) := by omega
  go_wp2
  go_ret
  exact ⟨rfl, g4⟩
end
theorem reportCarets_walk (e : Int) (name text : ByteArray) (line at' : Int) (w : World) (hn : name.size ≤ 140737488351232) (ht : text.size ≤ 140737488351232) (h0 : -9223372036854775808 ≤ line) (h1 : line ≤ 9223372036854775807) (a0 : -9223372036854775808 ≤ at') (a1 : at' ≤ 9223372036854775807) (e0 : -9223372036854775808 ≤ e) (e1 : e ≤ 9223372036854775807) (hT : TabT w) (htab : Lib.TabIs Tryd.prog w "internal/strconv.uint64pow10" .u64 Lib.pow10Tab) :
    Calls Tryd.prog 7 #[.int .i64 e, .agg #[.string name, .int .i64 line, .string text, .int .i64 at']] w fun r w' => r = .returned (.bool true) ∧ Below w.heap.size w w' := by
  by_cases hc : e = 0
  · exact carets_off e name text line at' w hn ht h0 h1 a0 a1 e0 e1 hT htab (Or.inl hc)
  by_cases hc2 : at' < 0
  · exact carets_off e name text line at' w hn ht h0 h1 a0 a1 e0 e1 hT htab (Or.inr ⟨hc, hc2⟩)
  by_cases hc3 : at' < (Lib.runeCount text : Int)
  · exact carets_on e name text line at' w hn ht h0 h1 a0 a1 e0 e1 hT htab hc hc2 hc3
  · exact carets_behind e name text line at' w hn ht h0 h1 a0 a1 e0 e1 hT htab hc hc2 hc3
end Go.Proofs.YtadkbcehhdcfaaaDoor
