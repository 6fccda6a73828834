/- report.decimal: strconv.Itoa, and the minus sign turned into a macron. -/
import Derived.Test.YtadkbcehhdcfaaaDoorJ2
import Derived.Test.YtadkbcehhdcfaaaDoorRB
import Derived.Test.YtadkbcehhdcfaaaDoorJ4
import Derived.Lib.Bytealg
import Derived.Lib.ItoaLen
import Derived.Test.YtadkbcehhdcfaaaDoorRA
import Derived.Lib.OthersKept
import Derived.Deep.RegionHeld3
namespace Go.Proofs.YtadkbcehhdcfaaaDoor
set_option linter.unusedVariables false
set_option linter.unusedSimpArgs false
open Go.RowKit Go.Sort

/-- A whole number as it is written. -/
def decL (n : Int) : List UInt8 := if n < 0 then 194 :: 175 :: Lib.decDigits n.natAbs else Lib.decDigits n.natAbs
def decB (n : Int) : ByteArray := ⟨(decL n).toArray⟩
theorem digs_no45 {l : List UInt8} (h : digs l) : l.count 45 = 0 := by
  rw [List.count_eq_zero]
  intro hm
  have := (h _ hm).1
  revert this
  decide
theorem below_grow_drew (w : World) (k : Nat) (os : Array Obj) : Below w.heap.size w (grow (w.drewN k) os) := by
  have hb : Below w.heap.size w (grow w os) := by
    refine ⟨rfl, rfl, rfl, ?_, fun q hq => ?_⟩
    · simp [grow]
    · simp [grow, Array.getElem?_append, hq]
  exact below_drewN' hb k
theorem itoa_pos {n : Int} (h : ¬ n < 0) : Lib.itoa n = Lib.decDigits n.natAbs := by
  unfold Lib.itoa
  rw [if_neg h, show n.toNat = n.natAbs by omega]
theorem itoa_minus {n : Int} (h : n < 0) : Lib.itoa n = 45 :: Lib.decDigits n.natAbs := by
  unfold Lib.itoa
  rw [if_pos h]

set_option maxRecDepth 100000 in
set_option maxHeartbeats 1600000 in
theorem replace_plain (s : ByteArray) (w : World) (h0 : s.data.toList.count 45 = 0) :
    Calls Tryd.prog 29 #[.string s, .string ⟨#[45]⟩, .string ⟨#[194, 175]⟩, .int .i64 1] w fun e w' => e = .returned (.string s) ∧ w = w' := by
  go_enter Tryd.func29, Tryd.ntmps29
  go_wp2_with fail
  refine (Tryd.strings_Count_one s 45 _).mono ?_
  rintro e w' ⟨rfl, rfl⟩
  rw [show Lib.countByte s.data.toList 45 = s.data.toList.count 45 from rfl, h0]
  go_wp2
  go_ret
  exact ⟨rfl, rfl⟩
theorem bytes_dropR (s : ByteArray) (i : Nat) : (s.extract i s.size).data.toList = s.data.toList.drop i := by
  rw [ByteArray.data_extract, Array.toList_extract, List.extract]
  rw [List.take_of_length_le (by simp)]
set_option maxRecDepth 100000 in
set_option maxHeartbeats 1600000 in
theorem replace_minus (s : ByteArray) (d : List UInt8) (w : World) (hs : s.data.toList = 45 :: d) (hd : d.count 45 = 0) (hl : s.size ≤ 100) :
    Calls Tryd.prog 29 #[.string s, .string ⟨#[45]⟩, .string ⟨#[194, 175]⟩, .int .i64 1] w fun e w' => e = .returned (.string ⟨(194 :: 175 :: d).toArray⟩) ∧ Below w.heap.size w w' := by
  have hc : s.data.toList.count 45 = 1 := by rw [hs, List.count_cons_self, hd]
  have hs1 : 1 ≤ s.size := by
    have h1 := congrArg List.length hs
    have h2 : s.data.toList.length = s.size := by simp
    rw [List.length_cons] at h1
    omega
  have hix : Lib.indexByte s.data.toList 45 = 0 := by rw [hs]; rfl
  have HE0 : Hid (Lib.byteCells [] ++ Lib.strCells ByteArray.empty ++ Lib.strCells ⟨#[194, 175]⟩ = Lib.byteCells [194, 175]) := by
    unfold Hid
    rfl
  have HE1 : Hid (Lib.byteCells [194, 175] ++ Lib.strCells (s.extract 1 s.size) = Lib.byteCells (194 :: 175 :: d)) := by
    unfold Hid
    rw [Lib.strCells_eq, bytes_dropR, hs, ← Lib.byteCells_append]
    rfl
  clear hs hd
  go_enter Tryd.func29, Tryd.ntmps29
  go_wp2_with fail
  refine (Tryd.strings_Count_one s 45 _).mono ?_
  rintro e w' ⟨rfl, rfl⟩
  rw [show Lib.countByte s.data.toList 45 = s.data.toList.count 45 from rfl, hc]
  clear hc
  go_wp2_with fail
  rw [show ((s.size : Int) + 1) = ((s.size + 1 : Nat) : Int) by omega]
  refine (Tryd.Builder_Grow_fresh w'.heap.size w'.heap.size (s.size + 1) _ (Nat.le_refl _) (boxA_new w' #[.pointer none, .slice none 0 0] 66) (by simp) (by omega)).mono ?_
  rintro e w1 ⟨rfl, hBA, k1⟩
  have kb : Below w'.heap.size w' w1 := (below_alloc w' (.cells #[.pointer none, .slice none 0 0] 66)).trans k1
  have HB0 : Hid (Lib.BuilderAt 66 5 w'.heap.size w'.heap.size (.pointer (some ⟨w'.heap.size, 0, none⟩)) (Lib.byteCells []) w1) := hBA
  clear hBA k1
  have hmp : (0 : Int) < ((#[(45 : UInt8)].size : Nat) : Int) := by decide
  go_wp2
  go_loopw [11, 53] (fun sv kv wr => ∃ (k : Nat) (l : List UInt8), sv = .int .i64 k ∧ kv = .int .i64 k ∧ ((k = 0 ∧ Hid (l = [])) ∨ (k = 1 ∧ Hid (l = [194, 175]))) ∧ Hid (Lib.BuilderAt 66 5 w'.heap.size w'.heap.size (.pointer (some ⟨w'.heap.size, 0, none⟩)) (Lib.byteCells l) wr) ∧ Below w'.heap.size w' wr) (fun _ kv _ => 1 - (intOf kv).toNat)
  case atStart => exact ⟨0, [], rfl, rfl, Or.inl ⟨rfl, rfl⟩, HB0, kb⟩
  case round =>
    obtain ⟨k, l, rfl, rfl, hk, HB, hb⟩ := hrel
    have hsz := hb.size
    rcases hk with ⟨rfl, HL⟩ | ⟨rfl, HL⟩
    · have HBb := HB.out
      rw [HL.out] at HBb
      have HB1 : Hid (Lib.BuilderAt 66 5 w'.heap.size w'.heap.size (.pointer (some ⟨w'.heap.size, 0, none⟩)) (Lib.byteCells []) wr) := HBb
      clear HBb HB HL
      go_wp2_with fail
      refine (Tryd.strings_Index_one s 45 _).mono ?_
      rintro e w2 ⟨rfl, rfl⟩
      rw [hix]
      clear hix
      go_wp2_with fail
      have hq1 := writeString_any w'.heap.size w'.heap.size _ ByteArray.empty w2 (Or.inr HB1.out) (by decide) (by omega)
      refine hq1.mono ?_
      clear hq1 HB1
      rintro e w3 ⟨rfl, hB3, k3⟩
      have s3 := k3.size
      go_wp2_with fail
      have hq2 := writeString_any w'.heap.size w'.heap.size _ ⟨#[194, 175]⟩ w3 (Or.inr hB3) (by decide) (by omega)
      refine hq2.mono ?_
      clear hq2 hB3
      rintro e w4 ⟨rfl, hB4, k4⟩
      rw [HE0.out] at hB4
      have HB4 : Hid (Lib.BuilderAt 66 5 w'.heap.size w'.heap.size (.pointer (some ⟨w'.heap.size, 0, none⟩)) (Lib.byteCells [194, 175]) w4) := hB4
      have hb4 := (hb.trans k3).trans k4
      clear hB4 k3 k4 hb
      go_wp2
      go_roundw
      case rel => exact ⟨1, _, by go_num, by go_num, Or.inr ⟨rfl, rfl⟩, HB4, hb4⟩
      case measure => simp [intOf]
    · have HBb := HB.out
      rw [HL.out] at HBb
      clear HB HL hix
      have HB1 : Hid (Lib.BuilderAt 66 5 w'.heap.size w'.heap.size (.pointer (some ⟨w'.heap.size, 0, none⟩)) (Lib.byteCells [194, 175]) wr) := HBb
      clear HBb
      go_wp2_with fail
      have hq1 := writeString_any w'.heap.size w'.heap.size _ (s.extract 1 s.size) wr (Or.inr HB1.out) (by rw [Lib.byteCells_length, ByteArray.size_extract]; simp; omega) (by omega)
      refine hq1.mono ?_
      clear hq1 HB1
      rintro e w3 ⟨rfl, hB3, k3⟩
      rw [HE1.out] at hB3
      have s3 := k3.size
      go_wp2_with fail
      refine (Tryd.Builder_String_any w'.heap.size w'.heap.size (194 :: 175 :: d) w3 (Or.inr hB3) (by omega)).mono ?_
      rintro e w4 ⟨rfl, k4⟩
      have hb4 := (hb.trans k3).trans k4
      clear hB3 k3 k4 hb
      go_wp2
      go_ret
      exact ⟨rfl, hb4⟩

set_option maxRecDepth 100000 in
theorem decimal_any (n : Int) (h0 : -9223372036854775808 ≤ n) (h1 : n ≤ 9223372036854775807) (w : World) (htab : Lib.TabIs Tryd.prog w "internal/strconv.uint64pow10" .u64 Lib.pow10Tab) :
    Calls Tryd.prog 23 #[.int .i64 n] w fun e w' => e = .returned (.string (decB n)) ∧ Below w.heap.size w w' := by
  have hlen := Lib.itoa_length_le n h0 h1
  go_enter Tryd.func23, Tryd.ntmps23
  go_wp2_with fail
  refine (Tryd.strconv_Itoa n h0 h1 w htab).mono ?_
  rintro e w1 ⟨rfl, k, os, hw⟩
  have b1 : Below w.heap.size w w1 := by
    rw [hw]
    exact below_grow_drew w k os
  clear hw
  obtain ⟨S, hS⟩ : ∃ S : ByteArray, (⟨(Lib.itoa n).toArray⟩ : ByteArray) = S := ⟨_, rfl⟩
  have hSl : S.data.toList = Lib.itoa n := by rw [← hS]
  have hSs : S.size ≤ 100 := by
    have h2 : S.data.toList.length = S.size := by simp
    rw [hSl] at h2
    omega
  rw [hS]
  by_cases hn : n < 0
  · have HT : Hid (decB n = ⟨(194 :: 175 :: Lib.decDigits n.natAbs).toArray⟩) := by unfold Hid decB decL; rw [if_pos hn]
    rw [itoa_minus hn] at hSl
    clear hS hlen
    go_wp2_with fail
    refine (replace_minus S _ w1 hSl (digs_no45 (dval_decDigits _).2.1) hSs).mono ?_
    rintro e w2 ⟨rfl, b2⟩
    go_wp2
    go_ret
    exact ⟨by rw [HT.out]; rfl, b1.trans (b2.mono b1.size)⟩
  · have HT : Hid (decB n = S) := by
      unfold Hid decB decL
      rw [if_neg hn, ← itoa_pos hn, hS]
    rw [itoa_pos hn] at hSl
    clear hS hlen
    go_wp2_with fail
    refine (replace_plain S w1 (by rw [hSl]; exact digs_no45 (dval_decDigits _).2.1)).mono ?_
    rintro e w2 ⟨rfl, rfl⟩
    go_wp2
    go_ret
    exact ⟨by rw [HT.out]; rfl, b1⟩
end Go.Proofs.YtadkbcehhdcfaaaDoor

/- How many characters a text has: show.Width and the document's. -/
namespace Go.Proofs.YtadkbcehhdcfaaaDoor
set_option linter.unusedVariables false
set_option linter.unusedSimpArgs false
open Go.RowKit

set_option maxRecDepth 100000 in
theorem showWidth_any (s : ByteArray) (w : World) (hs : s.size < 9223372036854775807) :
    Calls Tryd.prog 26 #[.string s] w fun e w' => e = .returned (.int .i64 (Lib.runeCount s)) ∧ Below w.heap.size w w' := by
  go_enter Tryd.func26, Tryd.ntmps26
  go_wp2_with fail
  refine (Tryd.utf8_RuneCountInString s w hs).mono ?_
  rintro e w1 ⟨rfl, pos, rfl⟩
  have HB : Below w.heap.size w (w.iter s pos) := below_alloc _ _
  go_wp2
  go_ret
  exact ⟨rfl, HB⟩
set_option maxRecDepth 100000 in
set_option maxHeartbeats 1600000 in
theorem refWidth_any (s : ByteArray) (w : World) (hs : s.size < 9223372036854775807) :
    Calls Tryd.prog 21 #[.string s] w fun e w' => e = .returned (.int .i64 (Lib.runeCount s)) ∧ Below w.heap.size w w' := by
  go_enter Tryd.func21, Tryd.ntmps21
  go_wp2
  go_loopw [3] (fun n wr => ∃ (pos fuel cnt : Nat), wr = w.iter s pos ∧ n = .int .i64 cnt ∧ cnt ≤ pos ∧ pos ≤ s.size ∧ Hid (cnt + Lib.runeCountFrom s fuel pos = Lib.runeCount s) ∧ s.size ≤ pos + fuel) (fun _ wr => s.size - wr.iterPos w.heap.size)
  case atStart => exact ⟨0, s.size, 0, rfl, rfl, by omega, by omega, (by unfold Hid; simp [Lib.runeCount]), by omega⟩
  case round =>
    obtain ⟨pos, fuel, cnt, rfl, rfl, hc, hps, HC, hf⟩ := hrel
    by_cases hp : pos < s.size
    · have hnx : ∀ ty, (Instr.next (.pointer (some ⟨w.heap.size, 0, none⟩)) true ty).run Tryd.prog (w.iter s pos) = _ := fun ty => run_next_any w s pos ty hp
      have hwd := Lib.decode_width_pos s pos hp
      have hle : pos + (Utf8.decode s pos).2 ≤ s.size := dec_end s pos hp
      obtain ⟨f, rfl⟩ : ∃ f, fuel = f + 1 := ⟨fuel - 1, by omega⟩
      have HS : Hid (Lib.runeCountFrom s (f + 1) pos = 1 + Lib.runeCountFrom s f (pos + (Utf8.decode s pos).2)) := by
        unfold Hid
        rw [Lib.runeCountFrom, if_pos hp]
      generalize (Utf8.decode s pos).2 = n at *
      generalize (Utf8.decode s pos).1 = C at *
      go_wp2
      go_roundw
      case rel => exact ⟨pos + n, f, cnt + 1, rfl, by go_num, by omega, by omega, (by unfold Hid; have := HC.out; have := HS.out; omega), by omega⟩
      case measure => simp only [World.iterPos_iter]; omega
    · have hnx : ∀ ty, (Instr.next (.pointer (some ⟨w.heap.size, 0, none⟩)) true ty).run Tryd.prog (w.iter s pos) = _ := fun ty => run_next_end w s pos ty hp
      have hcnt : cnt = Lib.runeCount s := by have := HC.out; rw [Lib.runeCountFrom_end s fuel pos hp] at this; omega
      have HB : Below w.heap.size w (w.iter s pos) := below_alloc _ _
      have H7 : Hid (cnt = Lib.runeCount s) := hcnt
      clear hcnt HC
      go_wp2
      go_ret
      exact ⟨by rw [← H7.out]; rfl, HB⟩
end Go.Proofs.YtadkbcehhdcfaaaDoor

/- The errors' texts: report.Text, report.Parse, and the document's. -/
namespace Go.Proofs.YtadkbcehhdcfaaaDoor
set_option linter.unusedVariables false
set_option linter.unusedSimpArgs false
open Go.RowKit

def wordsT : List ByteArray := [⟨#[]⟩, ⟨#[83, 89, 78, 84, 65, 88, 32, 69, 82, 82, 79, 82]⟩, ⟨#[86, 65, 76, 85, 69, 32, 69, 82, 82, 79, 82]⟩, ⟨#[68, 79, 77, 65, 73, 78, 32, 69, 82, 82, 79, 82]⟩, ⟨#[82, 65, 78, 75, 32, 69, 82, 82, 79, 82]⟩, ⟨#[76, 69, 78, 71, 84, 72, 32, 69, 82, 82, 79, 82]⟩, ⟨#[73, 78, 68, 69, 88, 32, 69, 82, 82, 79, 82]⟩, ⟨#[65, 88, 73, 83, 32, 69, 82, 82, 79, 82]⟩, ⟨#[76, 73, 77, 73, 84, 32, 69, 82, 82, 79, 82]⟩, ⟨#[73, 78, 84, 69, 82, 82, 85, 80, 84]⟩]
def defnB : ByteArray := ⟨#[68, 69, 70, 78, 32, 69, 82, 82, 79, 82]⟩
/-- The program's table of texts. -/
def TabT (w : World) : Prop := ∀ i, i < 10 → w.cell? ⟨0, i, none⟩ = some (.string (wordsT.getD i noT))
theorem TabT.below {B : Nat} {w w' : World} (h : TabT w) (k : Below B w w') (hB : 0 < B) : TabT w' := fun i hi => by
  rw [k.cell (p := ⟨0, i, none⟩) hB]
  exact h i hi
theorem TabT.lt {w : World} (h : TabT w) : 0 < w.heap.size := by
  have := h 0 (by decide)
  rcases Nat.eq_zero_or_pos w.heap.size with h0 | h0
  · simp [World.cell?, Array.getElem?_eq_none (show w.heap.size ≤ 0 by omega)] at this
  · exact h0
/-- An error's text. -/
def textF (e : Int) : ByteArray := if 0 ≤ e ∧ e < 10 then wordsT.getD e.toNat noT else if e = 28 then defnB else ⟨#[69, 82, 82, 79, 82, 32]⟩ ++ decB e
/-- The first of the texts from i on that is s. -/
def hitF (s : ByteArray) : Nat → Nat → Option Nat
  | 0, _ => none
  | f + 1, i => if wordsT.getD i noT = s then some i else hitF s f (i + 1)
def parseF (s : ByteArray) : Int × Bool := if s = defnB then (28, true) else match hitF s 9 1 with
  | some i => ((i : Int), true)
  | none => (0, false)
theorem same_text (x y : ByteArray) : (x.toList == y.toList) = decide (x = y) := by
  by_cases h : x = y
  · rw [decide_eq_true h, h]; simp
  · rw [decide_eq_false h, beq_eq_false_iff_ne]
    exact fun e => h (ByteArray.ext (Array.toList_inj.mp (by rw [← ByteArray.toList_eq, ← ByteArray.toList_eq]; exact e)))
theorem same_lit (x y : ByteArray) (L : List UInt8) (h : y.toList = L) : (x.toList == L) = decide (x = y) := by rw [← h]; exact same_text x y

theorem decB_size (e : Int) (h0 : -9223372036854775808 ≤ e) (h1 : e ≤ 9223372036854775807) : (decB e).size ≤ 200 := by
  have h2 := Lib.itoa_length_le e h0 h1
  have h3 : (decB e).size = (decL e).length := by simp [decB, ByteArray.size]
  rw [h3]
  unfold decL
  by_cases hn : e < 0
  · rw [if_pos hn]
    rw [itoa_minus hn] at h2
    simp at h2 ⊢
    omega
  · rw [if_neg hn]
    rw [itoa_pos hn] at h2
    omega

set_option maxRecDepth 100000 in
set_option maxHeartbeats 1600000 in
theorem repText_any (e : Int) (h0 : -9223372036854775808 ≤ e) (h1 : e ≤ 9223372036854775807) (w : World) (hT : TabT w) (htab : Lib.TabIs Tryd.prog w "internal/strconv.uint64pow10" .u64 Lib.pow10Tab) :
    Calls Tryd.prog 11 #[.int .i64 e] w fun r w' => r = .returned (.string (textF e)) ∧ Below w.heap.size w w' := by
  by_cases hr : 0 ≤ e ∧ e < 10
  · obtain ⟨k, rfl⟩ : ∃ k : Nat, e = (k : Int) := ⟨e.toNat, by omega⟩
    have hk : k < 10 := by omega
    have hc := hT k hk
    have HF : Hid (textF (k : Int) = wordsT.getD k noT) := by
      unfold Hid textF
      rw [if_pos hr, Int.toNat_natCast]
    generalize wordsT.getD k noT = X at *
    clear hr htab
    go_enter Tryd.func11, Tryd.ntmps11
    go_wp2
    go_ret
    exact ⟨by rw [HF.out]; rfl, Below.refl _ _⟩
  · have hA : (decide (0 ≤ e) && decide (e < 10)) = false := by
      rw [Bool.and_eq_false_iff, decide_eq_false_iff_not, decide_eq_false_iff_not]; omega
    have hAB : (¬ 0 ≤ e) ∨ (0 ≤ e ∧ ¬ e < 10) := by omega
    by_cases h28 : e = 28
    · subst h28
      have HF : Hid (textF 28 = defnB) := by unfold Hid; decide
      clear hr hA hAB
      go_enter Tryd.func11, Tryd.ntmps11
      go_wp2
      go_ret
      exact ⟨by rw [HF.out]; rfl, Below.refl _ _⟩
    · have HF : Hid (textF e = ⟨#[69, 82, 82, 79, 82, 32]⟩ ++ decB e) := by
        unfold Hid textF
        rw [if_neg hr, if_neg h28]
      have e28 : (e == 28) = false := by rw [beq_eq_false_iff_ne]; exact h28
      have hd := decimal_any e h0 h1 w htab
      have hsz : (decB e).size ≤ 200 := decB_size e h0 h1
      generalize decB e = D at *
      clear hr hA h28 htab
      rcases hAB with ha | ⟨ha, hb⟩
      all_goals
        go_enter Tryd.func11, Tryd.ntmps11
        go_wp2_with fail
        refine hd.mono ?_
        rintro r w1 ⟨rfl, b1⟩
        go_wp2
        go_ret
        exact ⟨by rw [HF.out]; rfl, b1⟩

set_option maxRecDepth 100000 in
theorem index_texts (i : Nat) (hi : i < 10) (w : World) : (Instr.index 48 (.agg #[.string ⟨#[]⟩, .string ⟨#[83, 89, 78, 84, 65, 88, 32, 69, 82, 82, 79, 82]⟩, .string ⟨#[86, 65, 76, 85, 69, 32, 69, 82, 82, 79, 82]⟩, .string ⟨#[68, 79, 77, 65, 73, 78, 32, 69, 82, 82, 79, 82]⟩, .string ⟨#[82, 65, 78, 75, 32, 69, 82, 82, 79, 82]⟩, .string ⟨#[76, 69, 78, 71, 84, 72, 32, 69, 82, 82, 79, 82]⟩, .string ⟨#[73, 78, 68, 69, 88, 32, 69, 82, 82, 79, 82]⟩, .string ⟨#[65, 88, 73, 83, 32, 69, 82, 82, 79, 82]⟩, .string ⟨#[76, 73, 77, 73, 84, 32, 69, 82, 82, 79, 82]⟩, .string ⟨#[73, 78, 84, 69, 82, 82, 85, 80, 84]⟩]) (.int .i64 (i : Int))).run Tryd.prog w = .ok (.string (wordsT.getD i noT)) w := by
  have : i = 0 ∨ i = 1 ∨ i = 2 ∨ i = 3 ∨ i = 4 ∨ i = 5 ∨ i = 6 ∨ i = 7 ∨ i = 8 ∨ i = 9 := by omega
  rcases this with rfl | rfl | rfl | rfl | rfl | rfl | rfl | rfl | rfl | rfl <;> rfl
theorem hitF_step (s : ByteArray) (f i : Nat) : hitF s (f + 1) i = if wordsT.getD i noT = s then some i else hitF s f (i + 1) := rfl
theorem hitF_defn : hitF defnB 9 1 = none := by decide +kernel
set_option maxRecDepth 100000 in
set_option maxHeartbeats 1600000 in
theorem repParse_any (s : ByteArray) (w : World) (hT : TabT w) (hs : s.size ≤ 9223372036854775807) :
    Calls Tryd.prog 8 #[.string s] w fun r w' => r = .returned (.tuple #[.int .i64 (parseF s).1, .bool (parseF s).2]) ∧ Below w.heap.size w w' := by
  have hl := same_lit s defnB [68, 69, 70, 78, 32, 69, 82, 82, 79, 82] (by rw [ByteArray.toList_eq]; rfl)
  by_cases hd : s = defnB
  · have HF : Hid (parseF s = (28, true)) := by unfold Hid parseF; rw [if_pos hd]
    rw [decide_eq_true hd] at hl
    clear hd
    go_enter Tryd.func8, Tryd.ntmps8
    go_wp2
    go_ret2
    exact ⟨by rw [HF.out]; rfl, Below.refl _ _⟩
  have HF : Hid (parseF s = match hitF s 9 1 with | some i => ((i : Int), true) | none => (0, false)) := by unfold Hid parseF; rw [if_neg hd]
  rw [decide_eq_false hd] at hl
  clear hd
  have h0 := hT 0 (by decide)
  have h1 := hT 1 (by decide)
  have h2 := hT 2 (by decide)
  have h3 := hT 3 (by decide)
  have h4 := hT 4 (by decide)
  have h5 := hT 5 (by decide)
  have h6 := hT 6 (by decide)
  have h7 := hT 7 (by decide)
  have h8 := hT 8 (by decide)
  have h9 := hT 9 (by decide)
  simp only [wordsT, List.getD_cons_zero, List.getD_cons_succ] at h0 h1 h2 h3 h4 h5 h6 h7 h8 h9
  have hix := index_texts
  go_enter Tryd.func8, Tryd.ntmps8
  go_wp2
  clear h0 h1 h2 h3 h4 h5 h6 h7 h8 h9
  go_loopw [9] (fun iv wr => ∃ i : Nat, i ≤ 10 ∧ iv = .int .i64 i ∧ Hid (1 ≤ i → hitF s 9 1 = hitF s (10 - i) i) ∧ wr = w) (fun iv _ => 10 - (intOf iv).toNat)
  case atStart => exact ⟨0, by omega, rfl, (fun h => by omega), rfl⟩
  case round =>
    obtain ⟨i, hi, rfl, HI, hw⟩ := hrel
    obtain rfl := hw.symm
    by_cases hlt : i < 10
    · have hx := hix i hlt
      have hst := same_text (wordsT.getD i noT) s
      have hstp := hitF_step s (9 - i) i
      rw [show 9 - i + 1 = 10 - i by omega, show 9 - i = 10 - (i + 1) by omega] at hstp
      generalize wordsT.getD i noT = X at *
      clear hix
      by_cases h0 : i = 0
      · have H0 : Hid (hitF s 9 1 = hitF s (10 - (i + 1)) (i + 1)) := by unfold Hid; rw [h0]
        have hng : ¬ (0 : Int) < (i : Int) := by omega
        clear h0 HI hstp
        go_wp2
        go_roundw
        case rel => exact ⟨i + 1, by omega, by go_num, (fun _ => H0.out), (by first | trivial | rfl)⟩
        case measure => simp [intOf]; omega
      have hpos : (0 : Int) < (i : Int) := by omega
      by_cases hX : X = s
      · rw [decide_eq_true hX] at hst
        have HR : Hid (parseF s = ((i : Int), true)) := by
          unfold Hid
          rw [HF.out, HI.out (by omega), hstp, if_pos hX]
        clear hX hstp HI HF h0
        go_wp2
        go_ret2
        exact ⟨by rw [HR.out]; rfl, Below.refl _ _⟩
      · rw [decide_eq_false hX] at hst
        have HI2 : Hid (hitF s 9 1 = hitF s (10 - (i + 1)) (i + 1)) := by
          unfold Hid
          rw [HI.out (by omega), hstp, if_neg hX]
        clear hX hstp HI h0
        go_wp2
        go_roundw
        case rel => exact ⟨i + 1, by omega, by go_num, (fun _ => HI2.out), (by first | trivial | rfl)⟩
        case measure => simp [intOf]; omega
    · have HR : Hid (parseF s = (0, false)) := by
        unfold Hid
        rw [HF.out, HI.out (by omega), show 10 - i = 0 by omega]
        rfl
      clear HI HF hix
      go_wp2
      go_ret2
      exact ⟨by rw [HR.out]; rfl, Below.refl _ _⟩

/-- The document's words: a new row of the ten texts. -/
theorem refWords_any (w : World) : Calls Tryd.prog 22 #[] w fun r w' => ∃ g, r = .returned (.slice (some ⟨g, 0, none⟩) 10 10) ∧ w.heap.size ≤ g ∧ (∀ i, i < 10 → w'.cell? ⟨g, i, none⟩ = some (.string (wordsT.getD i noT))) ∧ Below w.heap.size w w' := by
  have hb := below_alloc w (.cells #[.string ⟨#[]⟩, .string ⟨#[83, 89, 78, 84, 65, 88, 32, 69, 82, 82, 79, 82]⟩, .string ⟨#[86, 65, 76, 85, 69, 32, 69, 82, 82, 79, 82]⟩, .string ⟨#[68, 79, 77, 65, 73, 78, 32, 69, 82, 82, 79, 82]⟩, .string ⟨#[82, 65, 78, 75, 32, 69, 82, 82, 79, 82]⟩, .string ⟨#[76, 69, 78, 71, 84, 72, 32, 69, 82, 82, 79, 82]⟩, .string ⟨#[73, 78, 68, 69, 88, 32, 69, 82, 82, 79, 82]⟩, .string ⟨#[65, 88, 73, 83, 32, 69, 82, 82, 79, 82]⟩, .string ⟨#[76, 73, 77, 73, 84, 32, 69, 82, 82, 79, 82]⟩, .string ⟨#[73, 78, 84, 69, 82, 82, 85, 80, 84]⟩] 9)
  have X := boxA_new w #[.string ⟨#[]⟩, .string ⟨#[83, 89, 78, 84, 65, 88, 32, 69, 82, 82, 79, 82]⟩, .string ⟨#[86, 65, 76, 85, 69, 32, 69, 82, 82, 79, 82]⟩, .string ⟨#[68, 79, 77, 65, 73, 78, 32, 69, 82, 82, 79, 82]⟩, .string ⟨#[82, 65, 78, 75, 32, 69, 82, 82, 79, 82]⟩, .string ⟨#[76, 69, 78, 71, 84, 72, 32, 69, 82, 82, 79, 82]⟩, .string ⟨#[73, 78, 68, 69, 88, 32, 69, 82, 82, 79, 82]⟩, .string ⟨#[65, 88, 73, 83, 32, 69, 82, 82, 79, 82]⟩, .string ⟨#[76, 73, 77, 73, 84, 32, 69, 82, 82, 79, 82]⟩, .string ⟨#[73, 78, 84, 69, 82, 82, 85, 80, 84]⟩] 9
  go_enter Tryd.func22, Tryd.ntmps22
  go_wp2
  go_ret
  refine ⟨w.heap.size, rfl, Nat.le_refl _, fun i hi => ?_, hb⟩
  have : i = 0 ∨ i = 1 ∨ i = 2 ∨ i = 3 ∨ i = 4 ∨ i = 5 ∨ i = 6 ∨ i = 7 ∨ i = 8 ∨ i = 9 := by omega
  rcases this with rfl | rfl | rfl | rfl | rfl | rfl | rfl | rfl | rfl | rfl <;> (rw [X.cell]; rfl)
theorem whole_text {n : Int} {b : Bool} {ns ds : List Int} (h : WholeIs n b ns ds) : ratText b ns ds = decB n := by
  obtain ⟨rfl, cn, vn, ln, rfl⟩ := h
  unfold ratText decB decL digB
  by_cases hn : n < 0
  · rw [if_pos hn] at vn
    have : (val ns).toNat = n.natAbs := by omega
    simp [hn, this]
    rfl
  · rw [if_neg hn] at vn
    have : (val ns).toNat = n.natAbs := by omega
    simp [hn, this]
set_option maxRecDepth 100000 in
set_option maxHeartbeats 1600000 in
theorem refNumber_any (n : Int) (h0 : -9223372036854775808 ≤ n) (h1 : n ≤ 9223372036854775807) (w : World) :
    Calls Tryd.prog 24 #[.int .i64 n] w fun e w' => e = .returned (.string (decB n)) ∧ Below w.heap.size w w' := by
  go_enter Tryd.func24, Tryd.ntmps24
  go_wp2_with fail
  refine (refOfInt_any n h0 (by omega) w).mono ?_
  rintro e w1 ⟨b1, bb, ns, ds, x1, y1, x2, y2, hN, rfl, o1, o2⟩
  have HN : Hid (RightP bb ns ds ∧ ratText bb ns ds = decB n) := ⟨hN.out.right, whole_text hN.out⟩
  clear hN
  go_wp2_with fail
  refine (refPrint_rat o1.rd o2.rd).mono ?_
  rintro e w2 ⟨t, rfl, HT, b2⟩
  have HE : Hid (decB n = t) := by
    unfold Hid
    rw [← HN.out.2, HT.out.1 HN.out.1]
  go_wp2
  go_ret
  exact ⟨by rw [HE.out]; rfl, b1.trans (b2.mono b1.size)⟩
set_option maxRecDepth 100000 in
set_option maxHeartbeats 3200000 in
theorem refText_any (e : Int) (h0 : -9223372036854775808 ≤ e) (h1 : e ≤ 9223372036854775807) (w : World) :
    Calls Tryd.prog 12 #[.int .i64 e] w fun r w' => r = .returned (.string (textF e)) ∧ Below w.heap.size w w' := by
  have HW := refWords_any
  by_cases hr : 0 ≤ e ∧ e < 10
  · obtain ⟨k, rfl⟩ : ∃ k : Nat, e = (k : Int) := ⟨e.toNat, by omega⟩
    have hk : k < 10 := by omega
    have HF : Hid (textF (k : Int) = wordsT.getD k noT) := by
      unfold Hid textF
      rw [if_pos hr, Int.toNat_natCast]
    clear hr
    go_enter Tryd.func12, Tryd.ntmps12
    go_wp2_with fail
    refine (HW _).mono ?_
    rintro r w1 ⟨g, rfl, hg, hc, b1⟩
    clear hc hg
    go_wp2_with fail
    refine (HW _).mono ?_
    rintro r w2 ⟨g2, rfl, hg, hc, b2⟩
    have hcx := hc k hk
    generalize wordsT.getD k noT = X at *
    clear hc hg HW
    go_wp2
    go_ret
    exact ⟨by rw [HF.out]; rfl, b1.trans (b2.mono b1.size)⟩
  · have hAB : (¬ 0 ≤ e) ∨ (0 ≤ e ∧ ¬ e < 10) := by omega
    by_cases h28 : e = 28
    · subst h28
      have HF : Hid (textF 28 = defnB) := by unfold Hid; decide
      clear hr hAB
      go_enter Tryd.func12, Tryd.ntmps12
      go_wp2_with fail
      refine (HW _).mono ?_
      rintro r w1 ⟨g, rfl, hg, hc, b1⟩
      clear hc hg
      go_wp2
      go_ret
      exact ⟨by rw [HF.out]; rfl, b1⟩
    · have HF : Hid (textF e = ⟨#[69, 82, 82, 79, 82, 32]⟩ ++ decB e) := by
        unfold Hid textF
        rw [if_neg hr, if_neg h28]
      have e28 : (e == 28) = false := by rw [beq_eq_false_iff_ne]; exact h28
      have hd := refNumber_any e h0 h1
      have hsz : (decB e).size ≤ 200 := decB_size e h0 h1
      generalize decB e = D at *
      clear hr h28
      rcases hAB with ha | ⟨ha, hb⟩
      · clear HW
        go_enter Tryd.func12, Tryd.ntmps12
        go_wp2_with fail
        refine (hd _).mono ?_
        rintro r w1 ⟨rfl, b1⟩
        go_wp2
        go_ret
        exact ⟨by rw [HF.out]; rfl, b1⟩
      · go_enter Tryd.func12, Tryd.ntmps12
        go_wp2_with fail
        refine (HW _).mono ?_
        rintro r w1 ⟨g, rfl, hg, hc, b1⟩
        clear hc hg HW
        go_wp2_with fail
        refine (hd _).mono ?_
        rintro r w2 ⟨rfl, b2⟩
        go_wp2
        go_ret
        exact ⟨by rw [HF.out]; rfl, b1.trans (b2.mono b1.size)⟩
set_option maxRecDepth 100000 in
set_option maxHeartbeats 1600000 in
theorem refParse_any (s : ByteArray) (w : World) (hs : s.size ≤ 9223372036854775807) :
    Calls Tryd.prog 9 #[.string s] w fun r w' => r = .returned (.tuple #[.int .i64 (parseF s).1, .bool (parseF s).2]) ∧ Below w.heap.size w w' := by
  have hl := same_lit s defnB [68, 69, 70, 78, 32, 69, 82, 82, 79, 82] (by rw [ByteArray.toList_eq]; rfl)
  go_enter Tryd.func9, Tryd.ntmps9
  go_wp2_with fail
  refine (refWords_any _).mono ?_
  rintro r w1 ⟨g, rfl, hg, hc, b1⟩
  clear hg
  go_wp2
  go_loopw [5] (fun iv wr => ∃ i : Nat, 1 ≤ i ∧ i ≤ 10 ∧ iv = .int .i64 i ∧ Hid (hitF s 9 1 = hitF s (10 - i) i) ∧ wr = w1) (fun iv _ => 10 - (intOf iv).toNat)
  case atStart => exact ⟨1, by omega, by omega, rfl, rfl, rfl⟩
  case round =>
    obtain ⟨i, hi1, hi, rfl, HI, hw⟩ := hrel
    obtain rfl := hw.symm
    by_cases hlt : i < 10
    · have hx := hc i hlt
      have hst := same_text (wordsT.getD i noT) s
      have hstp := hitF_step s (9 - i) i
      rw [show 9 - i + 1 = 10 - i by omega, show 9 - i = 10 - (i + 1) by omega] at hstp
      have HN : Hid (wordsT.getD i noT = s → ¬ s = defnB) := by
        unfold Hid
        rintro h rfl
        have h2 := hitF_defn
        rw [HI.out, hstp, if_pos h] at h2
        cases h2
      generalize wordsT.getD i noT = X at *
      clear hc
      by_cases hX : X = s
      · rw [decide_eq_true hX] at hst
        have HR : Hid (parseF s = ((i : Int), true)) := by
          unfold Hid parseF
          rw [if_neg (HN.out hX), HI.out, hstp, if_pos hX]
        clear hX hstp HI HN hl
        go_wp2
        go_ret2
        exact ⟨by rw [HR.out]; rfl, b1⟩
      · rw [decide_eq_false hX] at hst
        have HI2 : Hid (hitF s 9 1 = hitF s (10 - (i + 1)) (i + 1)) := by
          unfold Hid
          rw [HI.out, hstp, if_neg hX]
        clear hX hstp HI HN hl
        go_wp2
        go_roundw
        case rel => exact ⟨i + 1, by omega, by omega, by go_num, HI2, (by first | trivial | rfl)⟩
        case measure => simp [intOf]; omega
    · have hnn : ¬ i < 10 := hlt
      have H9 : Hid (hitF s 9 1 = none) := by
        unfold Hid
        rw [HI.out, show 10 - i = 0 by omega]
        rfl
      clear HI hc
      by_cases hd : s = defnB
      · have HR : Hid (parseF s = (28, true)) := by unfold Hid parseF; rw [if_pos hd]
        rw [decide_eq_true hd] at hl
        clear hd
        go_wp2
        go_ret2
        exact ⟨by rw [HR.out]; rfl, b1⟩
      · have HR : Hid (parseF s = (0, false)) := by unfold Hid parseF; rw [if_neg hd, H9.out]
        rw [decide_eq_false hd] at hl
        clear hd
        go_wp2
        go_ret2
        exact ⟨by rw [HR.out]; rfl, b1⟩
end Go.Proofs.YtadkbcehhdcfaaaDoor

/- What stands ahead of a statement: report.Prefix, and the document's. -/
namespace Go.Proofs.YtadkbcehhdcfaaaDoor
set_option linter.unusedVariables false
set_option linter.unusedSimpArgs false
open Go.RowKit

def prefF (name : ByteArray) (line : Int) : ByteArray := if name = ⟨#[]⟩ then ⟨#[32, 32, 32, 32, 32, 32]⟩ else name ++ ⟨#[91]⟩ ++ decB line ++ ⟨#[93]⟩ ++ ⟨#[32]⟩
theorem name_empty (name : ByteArray) : name.toList.isEmpty = decide (name = ⟨#[]⟩) := by
  rw [ByteArray.toList_eq]
  by_cases h : name = ⟨#[]⟩
  · rw [decide_eq_true h, h]; rfl
  · rw [decide_eq_false h]
    obtain ⟨⟨l⟩⟩ := name
    cases l with
    | nil => exact absurd rfl h
    | cons => rfl
theorem prefF_size (name : ByteArray) (line : Int) (h0 : -9223372036854775808 ≤ line) (h1 : line ≤ 9223372036854775807) : (prefF name line).size ≤ name.size + 300 := by
  unfold prefF
  by_cases h : name = ⟨#[]⟩
  · rw [if_pos h]; show 6 ≤ _; omega
  · rw [if_neg h]
    have := decB_size line h0 h1
    simp only [ByteArray.size_append]
    have e1 : (⟨#[91]⟩ : ByteArray).size = 1 := rfl
    have e2 : (⟨#[93]⟩ : ByteArray).size = 1 := rfl
    have e3 : (⟨#[32]⟩ : ByteArray).size = 1 := rfl
    omega

set_option maxRecDepth 100000 in
set_option maxHeartbeats 3200000 in
theorem repPrefix_any (name text : ByteArray) (line at' : Int) (w : World) (hn : name.size ≤ 140737488355328) (h0 : -9223372036854775808 ≤ line) (h1 : line ≤ 9223372036854775807) (htab : Lib.TabIs Tryd.prog w "internal/strconv.uint64pow10" .u64 Lib.pow10Tab) :
    Calls Tryd.prog 17 #[.agg #[.string name, .int .i64 line, .string text, .int .i64 at']] w fun r w' => r = .returned (.string (prefF name line)) ∧ Below w.heap.size w w' := by
  have X := boxA_new w #[.string name, .int .i64 line, .string text, .int .i64 at'] 29
  have g := below_alloc w (.cells #[.string name, .int .i64 line, .string text, .int .i64 at'] 29)
  have c0 := X.cell 0 rfl
  have c1 := X.cell 1 rfl
  have he := name_empty name
  by_cases hE : name = ⟨#[]⟩
  · have HF : Hid (prefF name line = ⟨#[32, 32, 32, 32, 32, 32]⟩) := by unfold Hid prefF; rw [if_pos hE]
    rw [decide_eq_true hE] at he
    clear hE htab
    go_enter Tryd.func17, Tryd.ntmps17
    go_wp2
    go_ret
    exact ⟨by rw [HF.out]; rfl, g⟩
  · have HF : Hid (prefF name line = name ++ ⟨#[91]⟩ ++ decB line ++ ⟨#[93]⟩ ++ ⟨#[32]⟩) := by unfold Hid prefF; rw [if_neg hE]
    rw [decide_eq_false hE] at he
    have hd := fun W h => decimal_any line h0 h1 W h
    have hsz : (decB line).size ≤ 200 := decB_size line h0 h1
    generalize decB line = D at *
    have htb := Lib.tabIs_alloc htab (.cells #[.string name, .int .i64 line, .string text, .int .i64 at'] 29)
    clear hE htab
    go_enter Tryd.func17, Tryd.ntmps17
    go_wp2
    generalize hA : w.alloc (.cells #[.string name, .int .i64 line, .string text, .int .i64 at'] 29) = v at *
    clear hA
    have hcells : ∀ {w' : World}, Below v.heap.size v w' → w'.cell? ⟨w.heap.size, 0, none⟩ = some (.string name) ∧ w'.cell? ⟨w.heap.size, 1, none⟩ = some (.int .i64 line) := fun hb => ⟨(X.below hb X.lt).cell 0 rfl, (X.below hb X.lt).cell 1 rfl⟩
    have e1 : (⟨#[91]⟩ : ByteArray).size = 1 := rfl
    have e2 : (⟨#[93]⟩ : ByteArray).size = 1 := rfl
    have e3 : (⟨#[32]⟩ : ByteArray).size = 1 := rfl
    have z0 : ¬ 9223372036854775807 < name.size + 1 := by omega
    have z1 : ¬ 9223372036854775807 < name.size + 1 + D.size := by omega
    have z2 : ¬ 9223372036854775807 < name.size + 1 + D.size + 1 := by omega
    have z3 : ¬ 9223372036854775807 < name.size + 1 + D.size + 1 + 1 := by omega
    have y0 : ¬ 9223372036854775807 < name.size + (⟨#[91]⟩ : ByteArray).size := by omega
    have y1 : ¬ 9223372036854775807 < (name ++ (⟨#[91]⟩ : ByteArray)).size + D.size := by rw [ByteArray.size_append]; omega
    have y2 : ¬ 9223372036854775807 < (name ++ (⟨#[91]⟩ : ByteArray) ++ D).size + (⟨#[93]⟩ : ByteArray).size := by rw [ByteArray.size_append, ByteArray.size_append]; omega
    have y3 : ¬ 9223372036854775807 < (name ++ (⟨#[91]⟩ : ByteArray) ++ D ++ (⟨#[93]⟩ : ByteArray)).size + (⟨#[32]⟩ : ByteArray).size := by rw [ByteArray.size_append, ByteArray.size_append, ByteArray.size_append]; omega
    go_region_held3 (fun w' => w'.cell? ⟨w.heap.size, 0, none⟩ = some (.string name) ∧ w'.cell? ⟨w.heap.size, 1, none⟩ = some (.int .i64 line))
      (first | (go_keep; done) | exact tw)
      (first | (go_at_call 23; refine (hd v.drew htb).mono ?_; rintro e wk ⟨rfl, kb'⟩; have tb : Below v.heap.size v wk := below_undrew kb'; have tw := hcells tb))
    all_goals
      go_wp2
      go_ret
      exact ⟨by rw [HF.out]; rfl, g.trans (tb.mono g.size)⟩
set_option maxRecDepth 100000 in
set_option maxHeartbeats 3200000 in
theorem refPrefix_any (name text : ByteArray) (line at' : Int) (w : World) (hn : name.size ≤ 140737488355328) (h0 : -9223372036854775808 ≤ line) (h1 : line ≤ 9223372036854775807) :
    Calls Tryd.prog 18 #[.agg #[.string name, .int .i64 line, .string text, .int .i64 at']] w fun r w' => r = .returned (.string (prefF name line)) ∧ Below w.heap.size w w' := by
  have X := boxA_new w #[.string name, .int .i64 line, .string text, .int .i64 at'] 34
  have g := below_alloc w (.cells #[.string name, .int .i64 line, .string text, .int .i64 at'] 34)
  have c0 := X.cell 0 rfl
  have c1 := X.cell 1 rfl
  have he := name_empty name
  by_cases hE : name = ⟨#[]⟩
  · have HF : Hid (prefF name line = ⟨#[32, 32, 32, 32, 32, 32]⟩) := by unfold Hid prefF; rw [if_pos hE]
    rw [decide_eq_true hE] at he
    clear hE
    go_enter Tryd.func18, Tryd.ntmps18
    go_wp2
    go_ret
    exact ⟨by rw [HF.out]; rfl, g⟩
  · have HF : Hid (prefF name line = name ++ ⟨#[91]⟩ ++ decB line ++ ⟨#[93, 32]⟩) := by
      unfold Hid prefF
      rw [if_neg hE, ByteArray.append_assoc (a := name ++ ⟨#[91]⟩ ++ decB line)]
      rfl
    rw [decide_eq_false hE] at he
    have hd := fun W => refNumber_any line h0 h1 W
    have hsz : (decB line).size ≤ 200 := decB_size line h0 h1
    generalize decB line = D at *
    clear hE
    go_enter Tryd.func18, Tryd.ntmps18
    go_wp2
    generalize hA : w.alloc (.cells #[.string name, .int .i64 line, .string text, .int .i64 at'] 34) = v at *
    clear hA
    have hcells : ∀ {w' : World}, Below v.heap.size v w' → w'.cell? ⟨w.heap.size, 0, none⟩ = some (.string name) ∧ w'.cell? ⟨w.heap.size, 1, none⟩ = some (.int .i64 line) := fun hb => ⟨(X.below hb X.lt).cell 0 rfl, (X.below hb X.lt).cell 1 rfl⟩
    have e1 : (⟨#[91]⟩ : ByteArray).size = 1 := rfl
    have e2 : (⟨#[93, 32]⟩ : ByteArray).size = 2 := rfl
    have z0 : ¬ 9223372036854775807 < name.size + 1 := by omega
    have z1 : ¬ 9223372036854775807 < name.size + 1 + D.size := by omega
    have z2 : ¬ 9223372036854775807 < name.size + 1 + D.size + 2 := by omega
    have y0 : ¬ 9223372036854775807 < name.size + (⟨#[91]⟩ : ByteArray).size := by omega
    have y1 : ¬ 9223372036854775807 < (name ++ (⟨#[91]⟩ : ByteArray)).size + D.size := by rw [ByteArray.size_append]; omega
    have y2 : ¬ 9223372036854775807 < (name ++ (⟨#[91]⟩ : ByteArray) ++ D).size + (⟨#[93, 32]⟩ : ByteArray).size := by rw [ByteArray.size_append, ByteArray.size_append]; omega
    go_region_held3 (fun w' => w'.cell? ⟨w.heap.size, 0, none⟩ = some (.string name) ∧ w'.cell? ⟨w.heap.size, 1, none⟩ = some (.int .i64 line))
      (first | (go_keep; done) | exact tw)
      (first | (go_at_call 24; refine (hd v.drew).mono ?_; rintro e wk ⟨rfl, kb'⟩; have tb : Below v.heap.size v wk := below_undrew kb'; have tw := hcells tb))
    all_goals
      go_wp2
      go_ret
      exact ⟨by rw [HF.out]; rfl, g.trans (tb.mono g.size)⟩
end Go.Proofs.YtadkbcehhdcfaaaDoor
