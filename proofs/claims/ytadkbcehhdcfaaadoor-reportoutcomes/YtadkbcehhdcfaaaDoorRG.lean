/- The document's report of an error: glyphref14.Lines. -/
import Derived.Test.YtadkbcehhdcfaaaDoorRD
namespace Go.Proofs.YtadkbcehhdcfaaaDoor
set_option linter.unusedVariables false
set_option linter.unusedSimpArgs false
open Go.RowKit

theorem blk_add (a b : Nat) : blk (a + b) = blk a ++ blk b := by
  refine ByteArray.ext (Array.toList_inj.1 ?_)
  rw [ByteArray.data_append, Array.toList_append]
  simp [blk, List.replicate_append_replicate]
theorem blk_succ (a : Nat) : blk a ++ ⟨#[32]⟩ = blk (a + 1) := by
  rw [blk_add]
  rfl
set_option maxRecDepth 100000 in
set_option maxHeartbeats 6400000 in
theorem refLines_gt (e : Int) (name text : ByteArray) (line at' : Int) (w : World) (hn : name.size ≤ 140737488351232) (ht : text.size ≤ 140737488351232) (h0 : -9223372036854775808 ≤ line) (h1 : line ≤ 9223372036854775807) (e0 : -9223372036854775808 ≤ e) (e1 : e ≤ 9223372036854775807) (hE : ¬ e = 0) (hc : (Lib.runeCount text : Int) < at') :
    Calls Tryd.prog 15 #[.int .i64 e, .agg #[.string name, .int .i64 line, .string text, .int .i64 at']] w fun r w' => ∃ v, r = .returned v ∧ OwS w.heap.size w' v (linesF e name line text at') ∧ Below w.heap.size w w' := by
  have X := boxA_new w #[.string name, .int .i64 line, .string text, .int .i64 at'] 34
  have g := below_alloc w (.cells #[.string name, .int .i64 line, .string text, .int .i64 at'] 34)
  have HL : Hid (linesF e name line text at' = [textF e, prefF name line ++ text, blk (Lib.runeCount (prefF name line) + atF text at') ++ ⟨#[94]⟩]) := by unfold Hid linesF; rw [if_neg hE, blk_add]
  have hb : (e == 0) = false := by rw [beq_eq_false_iff_ne]; exact hE
  clear hE
  have c0 := X.cell 0 rfl
  have c1 := X.cell 1 rfl
  have c2 := X.cell 2 rfl
  have c3 := X.cell 3 rfl
  have hP := fun W => refPrefix_any name text line at' W (by omega) h0 h1
  have hps := prefF_size name line h0 h1
  have hTx := fun W => refText_any e e0 e1 W
  have hrc : Lib.runeCount (prefF name line) ≤ (prefF name line).size := Lib.runeCount_le _
  have hwt := fun W => refWidth_any text W (by omega)
  have hWd := fun W => refWidth_any (prefF name line) W (by omega)
  have hrt : Lib.runeCount text ≤ text.size := Lib.runeCount_le text
  have HAt : Hid (atF text at' = min (Lib.runeCount text) at'.toNat) := rfl
  generalize atF text at' = a at *
  generalize prefF name line = P at *
  generalize Lib.runeCount P = rc at *
  generalize Lib.runeCount text = rt at *
  generalize textF e = TX at *
  have HNa : Hid (a = rt) := by unfold Hid; rw [HAt.out]; omega
  go_enter Tryd.func15, Tryd.ntmps15
  go_wp2_with fail
  clear c0 c1 c2 c3
  generalize hA : w.alloc (.cells #[.string name, .int .i64 line, .string text, .int .i64 at'] 34) = v at *
  clear hA
  refine (hwt v).mono ?_
  rintro r w1 ⟨rfl, b1⟩
  have X1 := X.below b1 X.lt
  have g1 := g.trans (b1.mono g.size)
  clear X g b1
  have d0 := X1.cell 0 rfl
  have d1 := X1.cell 1 rfl
  have d2 := X1.cell 2 rfl
  have d3 := X1.cell 3 rfl
  go_wp2_with fail
  clear d0 d1 d2 d3
  refine (hwt _).mono ?_
  rintro r w2 ⟨rfl, b1⟩
  replace g1 := g1.trans (b1.mono g1.size)
  replace X1 := X1.below b1 X1.lt
  clear b1 hwt
  have d0 := X1.cell 0 rfl
  have d1 := X1.cell 1 rfl
  have d2 := X1.cell 2 rfl
  have d3 := X1.cell 3 rfl
  have hnn : ¬ (rt : Int) < 0 := by omega
  clear HAt
  have hal : rt ≤ 140737488351232 := by omega
  go_wp2
  clear d0 d1 d2 d3
  go_loopw [6, 7] (fun sv iv wr => ∃ i : Nat, i ≤ rc + rt ∧ sv = .string (blk i) ∧ iv = .int .i64 i ∧ BoxA wr w.heap.size 34 #[.string name, .int .i64 line, .string text, .int .i64 at'] ∧ Below w.heap.size w wr) (fun _ iv _ => rc + rt - (intOf iv).toNat)
  case atStart => exact ⟨0, by omega, rfl, rfl, X1, g1⟩
  case round =>
    obtain ⟨i, hi, rfl, rfl, X2, g2⟩ := hrel
    have d0 := X2.cell 0 rfl
    have d1 := X2.cell 1 rfl
    have d2 := X2.cell 2 rfl
    have d3 := X2.cell 3 rfl
    clear X1 g1
    go_wp2_with fail
    refine (hP _).mono ?_
    rintro r w3 ⟨rfl, b3⟩
    clear d0 d1 d2 d3
    go_wp2_with fail
    refine (hWd _).mono ?_
    rintro r w4 ⟨rfl, b4⟩
    have b34 := b3.trans (b4.mono b3.size)
    have X4 := X2.below b34 X2.lt
    have g4 := g2.trans (b34.mono g2.size)
    clear b3 b4 b34 X2 g2
    by_cases hlt : i < rc + rt
    · have q1 : (i : Int) < (rc : Int) + ((rt : Nat) : Int) := by omega
      have z := blk_size i
      have q2 : ¬ 9223372036854775807 < (blk i).size + (⟨#[32]⟩ : ByteArray).size := by have : (⟨#[32]⟩ : ByteArray).size = 1 := rfl; omega
      have q3 : ¬ 9223372036854775807 < (blk i).size + 1 := by omega
      have HS : Hid (blk i ++ ⟨#[32]⟩ = blk (i + 1)) := blk_succ i
      clear z
      go_wp2
      go_roundw
      case rel => exact ⟨i + 1, by omega, by rw [← HS.out], by go_num, X4, g4⟩
      case measure => simp [intOf]; omega
    · have q1 : ¬ (i : Int) < (rc : Int) + ((rt : Nat) : Int) := by omega
      have HI : Hid (blk i = blk (rc + rt)) := by unfold Hid; rw [show i = rc + rt by omega]
      have z := blk_size i
      have q4 : ¬ 9223372036854775807 < P.size + text.size := by omega
      have q5 : ¬ 9223372036854775807 < (blk i).size + 1 := by omega
      have q6 : ¬ 9223372036854775807 < (blk i).size + (⟨#[94]⟩ : ByteArray).size := by have : (⟨#[94]⟩ : ByteArray).size = 1 := rfl; omega
      generalize blk i = BI at *
      clear z hi hlt
      have hcells : ∀ {w' : World}, Below w4.heap.size w4 w' → w'.cell? ⟨w.heap.size, 0, none⟩ = some (.string name) ∧ w'.cell? ⟨w.heap.size, 1, none⟩ = some (.int .i64 line) ∧ w'.cell? ⟨w.heap.size, 2, none⟩ = some (.string text) ∧ w'.cell? ⟨w.heap.size, 3, none⟩ = some (.int .i64 at') := fun hb => ⟨(X4.below hb X4.lt).cell 0 rfl, (X4.below hb X4.lt).cell 1 rfl, (X4.below hb X4.lt).cell 2 rfl, (X4.below hb X4.lt).cell 3 rfl⟩
      have d0 := X4.cell 0 rfl
      have d1 := X4.cell 1 rfl
      have d2 := X4.cell 2 rfl
      have d3 := X4.cell 3 rfl
      go_wp2
      go_region_held3 (fun w' => w'.cell? ⟨w.heap.size, 0, none⟩ = some (.string name) ∧ w'.cell? ⟨w.heap.size, 1, none⟩ = some (.int .i64 line) ∧ w'.cell? ⟨w.heap.size, 2, none⟩ = some (.string text) ∧ w'.cell? ⟨w.heap.size, 3, none⟩ = some (.int .i64 at'))
        (first | (go_keep; done) | exact t1 | exact t2)
        (first
          | (go_at_call 12; refine (hTx w4.drew).mono ?_; rintro e wa ⟨rfl, k1'⟩; have ba : Below w4.heap.size w4 wa := below_undrew k1'; have t1 := hcells ba)
          | (have j := t1; go_at_call 18; refine (hP _).mono ?_; rintro e wb ⟨rfl, k2⟩; have bb : Below w4.heap.size w4 wb := ba.trans (k2.mono ba.size); have t2 := hcells bb))
      all_goals
        have gd := g4.trans (bb.mono g4.size)
        have hO := owS_three wb TX (P ++ text) (BI ++ ⟨#[94]⟩)
        go_wp2
        go_ret
        exact ⟨_, rfl, by rw [HL.out, HNa.out, ← HI.out]; exact hO.up gd.size, gd.alloc gd.size _⟩
set_option maxRecDepth 100000 in
set_option maxHeartbeats 6400000 in
theorem refLines_lt (e : Int) (name text : ByteArray) (line at' : Int) (w : World) (hn : name.size ≤ 140737488351232) (ht : text.size ≤ 140737488351232) (h0 : -9223372036854775808 ≤ line) (h1 : line ≤ 9223372036854775807) (e0 : -9223372036854775808 ≤ e) (e1 : e ≤ 9223372036854775807) (hE : ¬ e = 0) (hc : ¬ (Lib.runeCount text : Int) < at') (hc2 : at' < 0) :
    Calls Tryd.prog 15 #[.int .i64 e, .agg #[.string name, .int .i64 line, .string text, .int .i64 at']] w fun r w' => ∃ v, r = .returned v ∧ OwS w.heap.size w' v (linesF e name line text at') ∧ Below w.heap.size w w' := by
  have X := boxA_new w #[.string name, .int .i64 line, .string text, .int .i64 at'] 34
  have g := below_alloc w (.cells #[.string name, .int .i64 line, .string text, .int .i64 at'] 34)
  have HL : Hid (linesF e name line text at' = [textF e, prefF name line ++ text, blk (Lib.runeCount (prefF name line) + atF text at') ++ ⟨#[94]⟩]) := by unfold Hid linesF; rw [if_neg hE, blk_add]
  have hb : (e == 0) = false := by rw [beq_eq_false_iff_ne]; exact hE
  clear hE
  have c0 := X.cell 0 rfl
  have c1 := X.cell 1 rfl
  have c2 := X.cell 2 rfl
  have c3 := X.cell 3 rfl
  have hP := fun W => refPrefix_any name text line at' W (by omega) h0 h1
  have hps := prefF_size name line h0 h1
  have hTx := fun W => refText_any e e0 e1 W
  have hrc : Lib.runeCount (prefF name line) ≤ (prefF name line).size := Lib.runeCount_le _
  have hwt := fun W => refWidth_any text W (by omega)
  have hWd := fun W => refWidth_any (prefF name line) W (by omega)
  have hrt : Lib.runeCount text ≤ text.size := Lib.runeCount_le text
  have HAt : Hid (atF text at' = min (Lib.runeCount text) at'.toNat) := rfl
  generalize atF text at' = a at *
  generalize prefF name line = P at *
  generalize Lib.runeCount P = rc at *
  generalize Lib.runeCount text = rt at *
  generalize textF e = TX at *
  have HNa : Hid (a = 0) := by unfold Hid; rw [HAt.out]; omega
  go_enter Tryd.func15, Tryd.ntmps15
  go_wp2_with fail
  clear c0 c1 c2 c3
  generalize hA : w.alloc (.cells #[.string name, .int .i64 line, .string text, .int .i64 at'] 34) = v at *
  clear hA
  refine (hwt v).mono ?_
  rintro r w1 ⟨rfl, b1⟩
  have X1 := X.below b1 X.lt
  have g1 := g.trans (b1.mono g.size)
  clear X g b1
  have d0 := X1.cell 0 rfl
  have d1 := X1.cell 1 rfl
  have d2 := X1.cell 2 rfl
  have d3 := X1.cell 3 rfl
  clear hwt
  clear HAt
  have hal : 0 ≤ 140737488351232 := by omega
  go_wp2
  clear d0 d1 d2 d3
  go_loopw [6, 7] (fun sv iv wr => ∃ i : Nat, i ≤ rc + 0 ∧ sv = .string (blk i) ∧ iv = .int .i64 i ∧ BoxA wr w.heap.size 34 #[.string name, .int .i64 line, .string text, .int .i64 at'] ∧ Below w.heap.size w wr) (fun _ iv _ => rc + 0 - (intOf iv).toNat)
  case atStart => exact ⟨0, by omega, rfl, rfl, X1, g1⟩
  case round =>
    obtain ⟨i, hi, rfl, rfl, X2, g2⟩ := hrel
    have d0 := X2.cell 0 rfl
    have d1 := X2.cell 1 rfl
    have d2 := X2.cell 2 rfl
    have d3 := X2.cell 3 rfl
    clear X1 g1
    go_wp2_with fail
    refine (hP _).mono ?_
    rintro r w3 ⟨rfl, b3⟩
    clear d0 d1 d2 d3
    go_wp2_with fail
    refine (hWd _).mono ?_
    rintro r w4 ⟨rfl, b4⟩
    have b34 := b3.trans (b4.mono b3.size)
    have X4 := X2.below b34 X2.lt
    have g4 := g2.trans (b34.mono g2.size)
    clear b3 b4 b34 X2 g2
    by_cases hlt : i < rc + 0
    · have q1 : (i : Int) < (rc : Int) + ((0 : Nat) : Int) := by omega
      have z := blk_size i
      have q2 : ¬ 9223372036854775807 < (blk i).size + (⟨#[32]⟩ : ByteArray).size := by have : (⟨#[32]⟩ : ByteArray).size = 1 := rfl; omega
      have q3 : ¬ 9223372036854775807 < (blk i).size + 1 := by omega
      have HS : Hid (blk i ++ ⟨#[32]⟩ = blk (i + 1)) := blk_succ i
      clear z
      go_wp2
      go_roundw
      case rel => exact ⟨i + 1, by omega, by rw [← HS.out], by go_num, X4, g4⟩
      case measure => simp [intOf]; omega
    · have q1 : ¬ (i : Int) < (rc : Int) + ((0 : Nat) : Int) := by omega
      have HI : Hid (blk i = blk (rc + 0)) := by unfold Hid; rw [show i = rc + 0 by omega]
      have z := blk_size i
      have q4 : ¬ 9223372036854775807 < P.size + text.size := by omega
      have q5 : ¬ 9223372036854775807 < (blk i).size + 1 := by omega
      have q6 : ¬ 9223372036854775807 < (blk i).size + (⟨#[94]⟩ : ByteArray).size := by have : (⟨#[94]⟩ : ByteArray).size = 1 := rfl; omega
      generalize blk i = BI at *
      clear z hi hlt
      have hcells : ∀ {w' : World}, Below w4.heap.size w4 w' → w'.cell? ⟨w.heap.size, 0, none⟩ = some (.string name) ∧ w'.cell? ⟨w.heap.size, 1, none⟩ = some (.int .i64 line) ∧ w'.cell? ⟨w.heap.size, 2, none⟩ = some (.string text) ∧ w'.cell? ⟨w.heap.size, 3, none⟩ = some (.int .i64 at') := fun hb => ⟨(X4.below hb X4.lt).cell 0 rfl, (X4.below hb X4.lt).cell 1 rfl, (X4.below hb X4.lt).cell 2 rfl, (X4.below hb X4.lt).cell 3 rfl⟩
      have d0 := X4.cell 0 rfl
      have d1 := X4.cell 1 rfl
      have d2 := X4.cell 2 rfl
      have d3 := X4.cell 3 rfl
      go_wp2
      go_region_held3 (fun w' => w'.cell? ⟨w.heap.size, 0, none⟩ = some (.string name) ∧ w'.cell? ⟨w.heap.size, 1, none⟩ = some (.int .i64 line) ∧ w'.cell? ⟨w.heap.size, 2, none⟩ = some (.string text) ∧ w'.cell? ⟨w.heap.size, 3, none⟩ = some (.int .i64 at'))
        (first | (go_keep; done) | exact t1 | exact t2)
        (first
          | (go_at_call 12; refine (hTx w4.drew).mono ?_; rintro e wa ⟨rfl, k1'⟩; have ba : Below w4.heap.size w4 wa := below_undrew k1'; have t1 := hcells ba)
          | (have j := t1; go_at_call 18; refine (hP _).mono ?_; rintro e wb ⟨rfl, k2⟩; have bb : Below w4.heap.size w4 wb := ba.trans (k2.mono ba.size); have t2 := hcells bb))
      all_goals
        have gd := g4.trans (bb.mono g4.size)
        have hO := owS_three wb TX (P ++ text) (BI ++ ⟨#[94]⟩)
        go_wp2
        go_ret
        exact ⟨_, rfl, by rw [HL.out, HNa.out, ← HI.out]; exact hO.up gd.size, gd.alloc gd.size _⟩
set_option maxRecDepth 100000 in
set_option maxHeartbeats 6400000 in
theorem refLines_in (e : Int) (name text : ByteArray) (line at' : Int) (w : World) (hn : name.size ≤ 140737488351232) (ht : text.size ≤ 140737488351232) (h0 : -9223372036854775808 ≤ line) (h1 : line ≤ 9223372036854775807) (e0 : -9223372036854775808 ≤ e) (e1 : e ≤ 9223372036854775807) (hE : ¬ e = 0) (hc : ¬ (Lib.runeCount text : Int) < at') (hc2 : ¬ at' < 0) :
    Calls Tryd.prog 15 #[.int .i64 e, .agg #[.string name, .int .i64 line, .string text, .int .i64 at']] w fun r w' => ∃ v, r = .returned v ∧ OwS w.heap.size w' v (linesF e name line text at') ∧ Below w.heap.size w w' := by
  have X := boxA_new w #[.string name, .int .i64 line, .string text, .int .i64 at'] 34
  have g := below_alloc w (.cells #[.string name, .int .i64 line, .string text, .int .i64 at'] 34)
  have HL : Hid (linesF e name line text at' = [textF e, prefF name line ++ text, blk (Lib.runeCount (prefF name line) + atF text at') ++ ⟨#[94]⟩]) := by unfold Hid linesF; rw [if_neg hE, blk_add]
  have hb : (e == 0) = false := by rw [beq_eq_false_iff_ne]; exact hE
  clear hE
  have c0 := X.cell 0 rfl
  have c1 := X.cell 1 rfl
  have c2 := X.cell 2 rfl
  have c3 := X.cell 3 rfl
  have hP := fun W => refPrefix_any name text line at' W (by omega) h0 h1
  have hps := prefF_size name line h0 h1
  have hTx := fun W => refText_any e e0 e1 W
  have hrc : Lib.runeCount (prefF name line) ≤ (prefF name line).size := Lib.runeCount_le _
  have hwt := fun W => refWidth_any text W (by omega)
  have hWd := fun W => refWidth_any (prefF name line) W (by omega)
  have hrt : Lib.runeCount text ≤ text.size := Lib.runeCount_le text
  have HAt : Hid (atF text at' = min (Lib.runeCount text) at'.toNat) := rfl
  generalize atF text at' = a at *
  generalize prefF name line = P at *
  generalize Lib.runeCount P = rc at *
  generalize Lib.runeCount text = rt at *
  generalize textF e = TX at *
  obtain ⟨k, rfl⟩ : ∃ k : Nat, at' = (k : Int) := ⟨at'.toNat, by omega⟩
  have HNa : Hid (a = k) := by unfold Hid; rw [HAt.out]; omega
  have hkb : decide ((k : Int) < 0) = false := decide_eq_false hc2
  have hkc : decide (rt < k) = false := decide_eq_false (by omega)
  go_enter Tryd.func15, Tryd.ntmps15
  go_wp2_with fail
  clear c0 c1 c2 c3
  generalize hA : w.alloc (.cells #[.string name, .int .i64 line, .string text, .int .i64 (k : Int)] 34) = v at *
  clear hA
  refine (hwt v).mono ?_
  rintro r w1 ⟨rfl, b1⟩
  have X1 := X.below b1 X.lt
  have g1 := g.trans (b1.mono g.size)
  clear X g b1
  have d0 := X1.cell 0 rfl
  have d1 := X1.cell 1 rfl
  have d2 := X1.cell 2 rfl
  have d3 := X1.cell 3 rfl
  clear hwt
  clear HAt
  have hal : k ≤ 140737488351232 := by omega
  go_wp2
  clear d0 d1 d2 d3
  go_loopw [6, 7] (fun sv iv wr => ∃ i : Nat, i ≤ rc + k ∧ sv = .string (blk i) ∧ iv = .int .i64 i ∧ BoxA wr w.heap.size 34 #[.string name, .int .i64 line, .string text, .int .i64 (k : Int)] ∧ Below w.heap.size w wr) (fun _ iv _ => rc + k - (intOf iv).toNat)
  case atStart => exact ⟨0, by omega, rfl, rfl, X1, g1⟩
  case round =>
    obtain ⟨i, hi, rfl, rfl, X2, g2⟩ := hrel
    have d0 := X2.cell 0 rfl
    have d1 := X2.cell 1 rfl
    have d2 := X2.cell 2 rfl
    have d3 := X2.cell 3 rfl
    clear X1 g1
    go_wp2_with fail
    refine (hP _).mono ?_
    rintro r w3 ⟨rfl, b3⟩
    clear d0 d1 d2 d3
    go_wp2_with fail
    refine (hWd _).mono ?_
    rintro r w4 ⟨rfl, b4⟩
    have b34 := b3.trans (b4.mono b3.size)
    have X4 := X2.below b34 X2.lt
    have g4 := g2.trans (b34.mono g2.size)
    clear b3 b4 b34 X2 g2
    by_cases hlt : i < rc + k
    · have q1 : (i : Int) < (rc : Int) + ((k : Nat) : Int) := by omega
      have z := blk_size i
      have q2 : ¬ 9223372036854775807 < (blk i).size + (⟨#[32]⟩ : ByteArray).size := by have : (⟨#[32]⟩ : ByteArray).size = 1 := rfl; omega
      have q3 : ¬ 9223372036854775807 < (blk i).size + 1 := by omega
      have HS : Hid (blk i ++ ⟨#[32]⟩ = blk (i + 1)) := blk_succ i
      clear z
      go_wp2
      go_roundw
      case rel => exact ⟨i + 1, by omega, by rw [← HS.out], by go_num, X4, g4⟩
      case measure => simp [intOf]; omega
    · have q1 : ¬ (i : Int) < (rc : Int) + ((k : Nat) : Int) := by omega
      have HI : Hid (blk i = blk (rc + k)) := by unfold Hid; rw [show i = rc + k by omega]
      have z := blk_size i
      have q4 : ¬ 9223372036854775807 < P.size + text.size := by omega
      have q5 : ¬ 9223372036854775807 < (blk i).size + 1 := by omega
      have q6 : ¬ 9223372036854775807 < (blk i).size + (⟨#[94]⟩ : ByteArray).size := by have : (⟨#[94]⟩ : ByteArray).size = 1 := rfl; omega
      generalize blk i = BI at *
      clear z hi hlt
      have hcells : ∀ {w' : World}, Below w4.heap.size w4 w' → w'.cell? ⟨w.heap.size, 0, none⟩ = some (.string name) ∧ w'.cell? ⟨w.heap.size, 1, none⟩ = some (.int .i64 line) ∧ w'.cell? ⟨w.heap.size, 2, none⟩ = some (.string text) ∧ w'.cell? ⟨w.heap.size, 3, none⟩ = some (.int .i64 (k : Int)) := fun hb => ⟨(X4.below hb X4.lt).cell 0 rfl, (X4.below hb X4.lt).cell 1 rfl, (X4.below hb X4.lt).cell 2 rfl, (X4.below hb X4.lt).cell 3 rfl⟩
      have d0 := X4.cell 0 rfl
      have d1 := X4.cell 1 rfl
      have d2 := X4.cell 2 rfl
      have d3 := X4.cell 3 rfl
      go_wp2
      go_region_held3 (fun w' => w'.cell? ⟨w.heap.size, 0, none⟩ = some (.string name) ∧ w'.cell? ⟨w.heap.size, 1, none⟩ = some (.int .i64 line) ∧ w'.cell? ⟨w.heap.size, 2, none⟩ = some (.string text) ∧ w'.cell? ⟨w.heap.size, 3, none⟩ = some (.int .i64 (k : Int)))
        (first | (go_keep; done) | exact t1 | exact t2)
        (first
          | (go_at_call 12; refine (hTx w4.drew).mono ?_; rintro e wa ⟨rfl, k1'⟩; have ba : Below w4.heap.size w4 wa := below_undrew k1'; have t1 := hcells ba)
          | (have j := t1; go_at_call 18; refine (hP _).mono ?_; rintro e wb ⟨rfl, k2⟩; have bb : Below w4.heap.size w4 wb := ba.trans (k2.mono ba.size); have t2 := hcells bb))
      all_goals
        have gd := g4.trans (bb.mono g4.size)
        have hO := owS_three wb TX (P ++ text) (BI ++ ⟨#[94]⟩)
        go_wp2
        go_ret
        exact ⟨_, rfl, by rw [HL.out, HNa.out, ← HI.out]; exact hO.up gd.size, gd.alloc gd.size _⟩
set_option maxRecDepth 100000 in
theorem refLines_any (e : Int) (name text : ByteArray) (line at' : Int) (w : World) (hn : name.size ≤ 140737488351232) (ht : text.size ≤ 140737488351232) (h0 : -9223372036854775808 ≤ line) (h1 : line ≤ 9223372036854775807) (e0 : -9223372036854775808 ≤ e) (e1 : e ≤ 9223372036854775807) :
    Calls Tryd.prog 15 #[.int .i64 e, .agg #[.string name, .int .i64 line, .string text, .int .i64 at']] w fun r w' => ∃ v, r = .returned v ∧ OwS w.heap.size w' v (linesF e name line text at') ∧ Below w.heap.size w w' := by
  by_cases hE : e = 0
  · have g := below_alloc w (.cells #[.string name, .int .i64 line, .string text, .int .i64 at'] 34)
    have HL : Hid (linesF e name line text at' = []) := by unfold Hid linesF; rw [if_pos hE]
    have hb : (e == 0) = true := by rw [beq_iff_eq]; exact hE
    clear hE
    go_enter Tryd.func15, Tryd.ntmps15
    go_wp2
    go_ret
    exact ⟨_, rfl, by rw [HL.out]; exact owS_none _ _, g⟩
  by_cases hc : (Lib.runeCount text : Int) < at'
  · exact refLines_gt e name text line at' w hn ht h0 h1 e0 e1 hE hc
  · by_cases hc2 : at' < 0
    · exact refLines_lt e name text line at' w hn ht h0 h1 e0 e1 hE hc hc2
    · exact refLines_in e name text line at' w hn ht h0 h1 e0 e1 hE hc hc2
end Go.Proofs.YtadkbcehhdcfaaaDoor

/- glyphref11.SameTexts of two equal rows; glyphlaw14.where. -/
namespace Go.Proofs.YtadkbcehhdcfaaaDoor
set_option linter.unusedVariables false
set_option linter.unusedSimpArgs false
open Go.RowKit

theorem RdS.capR {B : Nat} {w : World} {a : Option Addr} {n c : Nat} {ss : List ByteArray} (h : RdS B w (.slice a n c) ss) : n = ss.length ∧ ss.length ≤ c ∧ c ≤ 9223372036854775807 := by
  obtain ⟨a', c', h1, h2, h3, _⟩ := h
  obtain ⟨_, e2, e3⟩ := Value.slice.inj h1
  omega
set_option maxRecDepth 100000 in
set_option maxHeartbeats 4000000 in
theorem sameTexts_eq {B B' : Nat} {w : World} {a a' : Option Addr} {c c' : Nat} {ss : List ByteArray} (h1 : RdS B w (.slice a ss.length c) ss) (h2 : RdS B' w (.slice a' ss.length c') ss) :
    Calls Tryd.prog 13 #[.slice a ss.length c, .slice a' ss.length c'] w fun e w' => e = .returned (.bool true) ∧ ∃ q, w' = w.drewN q := by
  have H1 : Hid (RdS B w (.slice a ss.length c) ss) := h1
  have H2 : Hid (RdS B' w (.slice a' ss.length c') ss) := h2
  obtain ⟨_, hc1, hc2⟩ := h1.capR
  clear h1 h2
  go_enter Tryd.func13, Tryd.ntmps13
  go_wp2
  go_loopw [5] (fun s wr => (∃ q, wr = w.drewN q) ∧ ∃ j : Nat, j ≤ ss.length ∧ s = .int .i64 j) (fun s _ => ss.length - (intOf s).toNat)
  case atStart => exact ⟨⟨0, rfl⟩, 0, Nat.zero_le _, rfl⟩
  case round =>
    obtain ⟨⟨q, rfl⟩, j, hj, rfl⟩ := hrel
    by_cases hlt : j < ss.length
    · obtain ⟨g, o, rfl, hg, hc⟩ := H1.out.ptr (by omega)
      obtain ⟨g', o', rfl, hg', hc'⟩ := H2.out.ptr (by omega)
      have q1 := hc j hlt
      have q2 := hc' j hlt
      generalize ss.getD j noT = p at *
      clear hc hc'
      go_wp2
      go_quiet (fail)
      go_wp2
      go_roundw
      case rel => exact ⟨⟨_, rfl⟩, j + 1, by omega, by go_num⟩
      case measure => simp [intOf]; omega
    · go_wp2
      go_ret
      exact ⟨rfl, _, rfl⟩
theorem BoxA.set4 {w : World} {B ty : Nat} {u0 u1 u2 u3 : Value} (h : BoxA w B ty #[u0, u1, u2, u3]) (v0 v1 v2 v3 : Value) : BoxA ((((w.setCell ⟨B, 0, none⟩ v0).setCell ⟨B, 1, none⟩ v1).setCell ⟨B, 2, none⟩ v2).setCell ⟨B, 3, none⟩ v3) B ty #[v0, v1, v2, v3] := by
  unfold BoxA at h ⊢
  simp [World.setCell, Array.getElem?_modify, h]
set_option maxRecDepth 100000 in
set_option maxHeartbeats 1600000 in
theorem where_any (name text : ByteArray) (line at' : Int) (w : World) :
    Calls Tryd.prog 16 #[.agg #[.string name, .int .i64 line, .string text, .int .i64 at']] w fun r w' => r = .returned (.agg #[.string name, .int .i64 line, .string text, .int .i64 at']) ∧ Below w.heap.size w w' := by
  have X := boxA_new w #[.string name, .int .i64 line, .string text, .int .i64 at'] 29
  have g := below_alloc w (.cells #[.string name, .int .i64 line, .string text, .int .i64 at'] 29)
  go_enter Tryd.func16, Tryd.ntmps16
  go_wp2
  have Y := boxA_new (w.alloc (.cells #[.string name, .int .i64 line, .string text, .int .i64 at'] 29)) #[.string name, .int .i64 line, .string text, .int .i64 at'] 34
  rw [World.size_alloc] at Y
  have r0 := Y.cell 0 rfl
  have r1 := Y.cell 1 rfl
  have r2 := Y.cell 2 rfl
  have r3 := Y.cell 3 rfl
  refine bodyPost_ret (v := .agg #[.string name, .int .i64 line, .string text, .int .i64 at']) (by simp [results, Tryd.results16, go_sem, r0, r1, r2, r3]) rfl ?_
  exact ⟨rfl, g.alloc g.size _⟩
end Go.Proofs.YtadkbcehhdcfaaaDoor
