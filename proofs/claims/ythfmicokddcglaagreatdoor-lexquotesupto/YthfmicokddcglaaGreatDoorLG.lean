/- strings.ReplaceAll of a quote by two; lex.Quote and glyphref04.Quote. -/
import Derived.Test.YthfmicokddcglaaGreatDoorLA
import Derived.Test.YthfmicokddcglaaGreatDoorJ2
import Derived.Test.YthfmicokddcglaaGreatDoorShelf
import Derived.Lib.Bytealg
namespace Go.Proofs.YthfmicokddcglaaGreatDoor
set_option linter.unusedVariables false
set_option linter.unusedSimpArgs false
open Go.RowKit

/-- Each quote twice. -/
def dbl (l : List UInt8) : List UInt8 := l.flatMap (fun b => if b = 39 then [39, 39] else [b])
theorem dbl_app (a b : List UInt8) : dbl (a ++ b) = dbl a ++ dbl b := by unfold dbl; rw [List.flatMap_append]
theorem dbl_none {l : List UInt8} (h : l.count 39 = 0) : dbl l = l := by
  induction l with
  | nil => rfl
  | cons b l ih =>
    have hb : ¬ b = 39 := fun e => by rw [e, List.count_cons_self] at h; omega
    rw [List.count_cons_of_ne hb] at h
    unfold dbl at ih ⊢
    rw [List.flatMap_cons, if_neg hb, ih h]
    rfl
theorem dbl_len (l : List UInt8) : (dbl l).length = l.length + l.count 39 := by
  induction l with
  | nil => rfl
  | cons b l ih =>
    unfold dbl at ih ⊢
    rw [List.flatMap_cons, List.length_append, ih]
    by_cases hb : b = 39
    · rw [hb, List.count_cons_self]; simp; omega
    · rw [List.count_cons_of_ne hb, if_neg hb]; simp; omega
theorem index_split : ∀ (l : List UInt8), 0 < l.count 39 → ∃ p r, l = p ++ 39 :: r ∧ p.count 39 = 0 ∧ Lib.indexByte l 39 = (p.length : Int)
  | [], h => by simp at h
  | b :: l, h => by
    by_cases hb : b = 39
    · exact ⟨[], l, by rw [hb]; rfl, rfl, by rw [hb]; rfl⟩
    · rw [List.count_cons_of_ne hb] at h
      obtain ⟨p, r, h1, h2, h3⟩ := index_split l h
      refine ⟨b :: p, r, by rw [h1]; rfl, by rw [List.count_cons_of_ne hb]; exact h2, ?_⟩
      have e : (b == 39) = false := by rw [beq_eq_false_iff_ne]; exact hb
      rw [Lib.indexByte, e, h3]
      have e2 : ((p.length : Int) == -1) = false := by rw [beq_eq_false_iff_ne]; omega
      simp [e2]
theorem bytes_drop (s : ByteArray) (i : Nat) : (s.extract i s.size).data.toList = s.data.toList.drop i := by
  rw [ByteArray.data_extract, Array.toList_extract, List.extract]
  rw [List.take_of_length_le (by simp)]
theorem bytes_cut (s : ByteArray) (i j : Nat) : (s.extract i j).data.toList = (s.data.toList.drop i).take (j - i) := by
  rw [ByteArray.data_extract, Array.toList_extract, List.extract]

set_option maxRecDepth 100000 in
set_option maxHeartbeats 6400000 in
theorem replaceQ_any (s : ByteArray) (w : World) (hs : s.size ≤ 2000000) :
    Calls Tryz.prog 16 #[.string s, .string ⟨#[39]⟩, .string ⟨#[39, 39]⟩, .int .i64 (-1)] w fun e w' => e = .returned (.string ⟨(dbl s.data.toList).toArray⟩) ∧ Below w.heap.size w w' := by
  have hcl : s.data.toList.count 39 ≤ s.size := by
    have := List.count_le_length (a := (39 : UInt8)) (l := s.data.toList)
    simpa using this
  go_enter Tryz.func16, Tryz.ntmps16
  go_wp2_with fail
  refine (Tryz.strings_Count_one s 39 _).mono ?_
  rintro e w' ⟨rfl, rfl⟩
  rw [show Lib.countByte s.data.toList 39 = s.data.toList.count 39 from rfl]
  obtain ⟨m, hm⟩ : ∃ m, s.data.toList.count 39 = m := ⟨_, rfl⟩
  have HM : Hid (s.data.toList.count 39 = m) := hm
  rw [hm] at hcl ⊢
  clear hm
  by_cases h0 : m = 0
  · have HD : Hid (⟨(dbl s.data.toList).toArray⟩ = s) := by
      unfold Hid
      rw [dbl_none (by rw [HM.out]; exact h0)]
    have e0 : ((m : Int) == 0) = true := by rw [beq_iff_eq]; omega
    clear h0
    go_wp2
    go_ret
    exact ⟨by rw [HD.out]; rfl, Below.refl _ _⟩
  have e0 : ((m : Int) == 0) = false := by rw [beq_eq_false_iff_ne]; omega
  go_wp2_with fail
  rw [show ((s.size : Int) + (m : Int)) = ((s.size + m : Nat) : Int) by omega]
  refine (Tryz.Builder_Grow_fresh w'.heap.size w'.heap.size (s.size + m) _ (Nat.le_refl _) (boxA_new w' #[.pointer none, .slice none 0 0] 68) (by simp) (by omega)).mono ?_
  rintro e w1 ⟨rfl, hBA, k1⟩
  have kb : Below w'.heap.size w' w1 := (below_alloc w' (.cells #[.pointer none, .slice none 0 0] 68)).trans k1
  have HB0 : Hid (Lib.BuilderAt 68 5 w'.heap.size w'.heap.size (.pointer (some ⟨w'.heap.size, 0, none⟩)) (Lib.byteCells (dbl (s.data.toList.take 0))) w1) := hBA
  clear hBA k1 e0 h0
  have hll : s.data.toList.length = s.size := by simp
  have hmp : (0 : Int) < ((#[(39 : UInt8)].size : Nat) : Int) := by decide
  go_wp2
  go_loopw [11, 53] (fun sv kv wr => ∃ (st k : Nat), sv = .int .i64 st ∧ kv = .int .i64 k ∧ k ≤ m ∧ st ≤ s.size ∧ Hid (k + (s.data.toList.drop st).count 39 = m) ∧ Hid (Lib.BuilderAt 68 5 w'.heap.size w'.heap.size (.pointer (some ⟨w'.heap.size, 0, none⟩)) (Lib.byteCells (dbl (s.data.toList.take st))) wr) ∧ Below w'.heap.size w' wr) (fun _ kv _ => m - (intOf kv).toNat)
  case atStart => exact ⟨0, 0, rfl, rfl, Nat.zero_le _, Nat.zero_le _, (by unfold Hid; rw [List.drop_zero, HM.out]; omega), HB0, kb⟩
  case round =>
    obtain ⟨st, k, rfl, rfl, hkm, hst, HK, HB, hb⟩ := hrel
    have hsz := hb.size
    have hdl : (dbl (s.data.toList.take st)).length ≤ s.size + m := by
      rw [dbl_len]
      have h1 := (List.take_sublist st s.data.toList).count_le (39 : UInt8)
      have h2 : (s.data.toList.take st).length ≤ s.size := by simp; omega
      rw [HM.out] at h1
      omega
    by_cases hlt : k < m
    · obtain ⟨p, r, hpr, hp0, hix⟩ := index_split (s.data.toList.drop st) (by have := HK.out; omega)
      have hlen : p.length + 1 + r.length = s.size - st := by
        have := congrArg List.length hpr
        rw [List.length_drop, hll] at this
        simp at this
        omega
      have htk : s.data.toList.take (st + p.length) = s.data.toList.take st ++ p := by
        rw [List.take_add, hpr, List.take_left]
      have htk2 : s.data.toList.take (st + p.length + 1) = s.data.toList.take st ++ p ++ [39] := by
        rw [Nat.add_assoc, List.take_add, hpr]
        rw [show p.length + 1 = (p ++ [39]).length by simp, show p ++ 39 :: r = (p ++ [39]) ++ r by simp, List.take_left, List.append_assoc]
      have hdr2 : s.data.toList.drop (st + p.length + 1) = r := by
        rw [Nat.add_assoc, ← List.drop_drop, hpr]
        rw [show p.length + 1 = (p ++ [39]).length by simp, show p ++ 39 :: r = (p ++ [39]) ++ r by simp, List.drop_left]
      have HK2 : Hid (k + 1 + (s.data.toList.drop (st + p.length + 1)).count 39 = m) := by
        unfold Hid
        have h5 := HK.out
        rw [hpr, List.count_append, hp0, List.count_cons_self] at h5
        rw [hdr2]
        omega
      have HT1 : Hid (Lib.byteCells (dbl (s.data.toList.take st)) ++ Lib.strCells (s.extract st (st + p.length)) ++ Lib.strCells ⟨#[39, 39]⟩ = Lib.byteCells (dbl (s.data.toList.take (st + p.length + 1)))) := by
        unfold Hid
        rw [Lib.strCells_eq, Lib.strCells_eq, bytes_cut, htk2, dbl_app, dbl_app, dbl_none hp0, ← Lib.byteCells_append, ← Lib.byteCells_append, hpr]
        rw [show st + p.length - st = p.length by omega, List.take_left]
        rfl
      have hix2 : Lib.indexByte (s.extract st s.size).data.toList 39 = (p.length : Int) := by rw [bytes_drop]; exact hix
      clear hpr hix htk htk2 hdr2
      go_wp2_with fail
      refine (Tryz.strings_Index_one (s.extract st s.size) 39 _).mono ?_
      rintro e w2 ⟨rfl, rfl⟩
      rw [hix2]
      clear hix2
      have hj1 : (st : Int) ≤ (st : Int) + (p.length : Int) := by omega
      have hj2 : (st : Int) + (p.length : Int) ≤ (s.size : Int) := by omega
      have hj3 : (0 : Int) ≤ (st : Int) + (p.length : Int) := by omega
      have hj4 : ((st : Int) + (p.length : Int)).toNat = st + p.length := by omega
      go_wp2_with fail
      have hq1 := writeString_any w'.heap.size w'.heap.size _ (s.extract st (st + p.length)) w2 (Or.inr HB.out) (by rw [Lib.byteCells_length, ByteArray.size_extract]; omega) (by omega)
      refine hq1.mono ?_
      clear hq1 HB
      rintro e w3 ⟨rfl, hB3, k3⟩
      have s3 := k3.size
      go_wp2_with fail
      have hq2 := writeString_any w'.heap.size w'.heap.size _ ⟨#[39, 39]⟩ w3 (Or.inr hB3) (by rw [List.length_append, Lib.byteCells_length, Lib.strCells_length, ByteArray.size_extract]; have : (⟨#[39, 39]⟩ : ByteArray).size = 2 := rfl; omega) (by omega)
      refine hq2.mono ?_
      clear hq2 hB3
      rintro e w4 ⟨rfl, hB4, k4⟩
      rw [HT1.out] at hB4
      have HB4 : Hid (Lib.BuilderAt 68 5 w'.heap.size w'.heap.size (.pointer (some ⟨w'.heap.size, 0, none⟩)) (Lib.byteCells (dbl (s.data.toList.take (st + p.length + 1)))) w4) := hB4
      have hb4 := (hb.trans k3).trans k4
      clear hB4 k3 k4 HT1 hb
      go_wp2
      go_roundw
      case rel => exact ⟨st + p.length + 1, k + 1, by go_num, by go_num, by omega, by omega, HK2, HB4, hb4⟩
      case measure => simp [intOf]; omega
    · have hc0 : (s.data.toList.drop st).count 39 = 0 := by have := HK.out; omega
      have HT1 : Hid (Lib.byteCells (dbl (s.data.toList.take st)) ++ Lib.strCells (s.extract st s.size) = Lib.byteCells (dbl s.data.toList)) := by
        unfold Hid
        rw [Lib.strCells_eq, bytes_drop, ← Lib.byteCells_append]
        congr 1
        rw [← dbl_none hc0]
        rw [dbl_none hc0]
        conv => rhs; rw [← List.take_append_drop st s.data.toList, dbl_app, dbl_none hc0]
      clear hc0
      go_wp2_with fail
      have hq1 := writeString_any w'.heap.size w'.heap.size _ (s.extract st s.size) wr (Or.inr HB.out) (by rw [Lib.byteCells_length, ByteArray.size_extract]; omega) (by omega)
      refine hq1.mono ?_
      clear hq1 HB
      rintro e w3 ⟨rfl, hB3, k3⟩
      rw [HT1.out] at hB3
      have s3 := k3.size
      go_wp2_with fail
      refine (Tryz.Builder_String_any w'.heap.size w'.heap.size (dbl s.data.toList) w3 (Or.inr hB3) (by omega)).mono ?_
      rintro e w4 ⟨rfl, k4⟩
      have hb4 := (hb.trans k3).trans k4
      clear hB3 k3 k4 HT1 hb
      go_wp2
      go_ret
      exact ⟨rfl, hb4⟩

set_option maxRecDepth 100000 in
theorem replaceAllQ_any (s : ByteArray) (w : World) (hs : s.size ≤ 2000000) :
    Calls Tryz.prog 10 #[.string s, .string ⟨#[39]⟩, .string ⟨#[39, 39]⟩] w fun e w' => e = .returned (.string ⟨(dbl s.data.toList).toArray⟩) ∧ Below w.heap.size w w' := by
  go_enter Tryz.func10, Tryz.ntmps10
  go_wp2_with fail
  refine (replaceQ_any s _ hs).mono ?_
  rintro e w1 ⟨rfl, hb⟩
  go_wp2
  go_ret
  exact ⟨rfl, hb⟩
/-- A text as a literal. -/
def quoted (s : ByteArray) : ByteArray := ⟨(39 :: (dbl s.data.toList ++ [39])).toArray⟩
set_option maxRecDepth 100000 in
theorem lexQuote_any (s : ByteArray) (w : World) (hs : s.size ≤ 2000000) :
    Calls Tryz.prog 5 #[.string s] w fun e w' => e = .returned (.string (quoted s)) ∧ Below w.heap.size w w' := by
  go_enter Tryz.func5, Tryz.ntmps5
  go_wp2_with fail
  refine (replaceAllQ_any s _ hs).mono ?_
  rintro e w1 ⟨rfl, hb⟩
  obtain ⟨D, hD⟩ : ∃ D : ByteArray, (⟨(dbl s.data.toList).toArray⟩ : ByteArray) = D := ⟨_, rfl⟩
  have HQ : Hid ((⟨#[39]⟩ : ByteArray) ++ D ++ ⟨#[39]⟩ = quoted s) := by
    unfold Hid
    rw [← hD]
    refine ByteArray.ext (Array.toList_inj.1 ?_)
    simp [quoted]
  have hDs : D.size ≤ 4000000 := by
    rw [← hD]
    have h1 : (⟨(dbl s.data.toList).toArray⟩ : ByteArray).size = (dbl s.data.toList).length := by simp [ByteArray.size]
    rw [h1, dbl_len]
    have h2 := List.count_le_length (a := (39 : UInt8)) (l := s.data.toList)
    have h3 : s.data.toList.length = s.size := by simp
    omega
  rw [hD]
  clear hD
  go_wp2
  go_ret
  exact ⟨by rw [← HQ.out]; rfl, hb⟩
end Go.Proofs.YthfmicokddcglaaGreatDoor
