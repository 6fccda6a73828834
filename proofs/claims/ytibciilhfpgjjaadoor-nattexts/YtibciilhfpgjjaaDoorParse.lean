/- nat.Parse: the number that digits say. -/
import Derived.Test.YtibciilhfpgjjaaDoorTimesLimb
import Derived.Test.YtibciilhfpgjjaaDoorDecMath
namespace Go.Proofs.YtibciilhfpgjjaaDoor
set_option linter.unusedVariables false
set_option linter.unusedSimpArgs false
open Go.RowKit

theorem dval_lt {l : List UInt8} (h : digs l) : dval l < 10 ^ l.length := by
  induction l with
  | nil => decide
  | cons b l ih =>
    have hb := h b (by simp)
    have h2 := ih (fun c hc => h c (by simp [hc]))
    have e : dval (b :: l) = (b.toNat - 48) * 10 ^ l.length + dval l := by
      show (b :: l).foldl _ 0 = _
      rw [List.foldl_cons, dval_from]; simp
    rw [e, List.length_cons, Nat.pow_succ]
    have h3 : (b.toNat - 48) * 10 ^ l.length ≤ 9 * 10 ^ l.length := Nat.mul_le_mul_right _ (by omega)
    omega

theorem own_nil' (base : Nat) (w : World) : Own base w (.slice none 0 0) [] := ⟨lim_nil, World.ownsRow_nil _ _ _ _⟩

theorem byte_at {s : ByteArray} {l : List UInt8} (h : s.data.toList = l) (i : Nat) (hi : i < l.length) : s[i]'(by rw [show s.size = l.length by rw [← h]; rfl]; exact hi) = l[i] := by
  subst h
  rfl

set_option maxRecDepth 100000 in
set_option maxHeartbeats 1600000 in
theorem read_any {base B : Nat} {w : World} {xs : List Int} (s : ByteArray) (l : List UInt8) (hl : Hid (s.data.toList = l)) (hd : digs l) (h9 : l.length ≤ 9) (cx : can xs) (hs : St base w B 85 xs) (hn : xs.length ≤ 1000000000) :
    Calls Tryd.prog 67 #[.pointer (some ⟨B, 0, none⟩), .string s] w fun e w' => e = .returned (.tuple #[]) ∧ ∃ zs, can zs ∧ val zs = val xs * 10 ^ l.length + dval l ∧ zs.length ≤ xs.length + 1 ∧ St base w' B 85 zs ∧ Below base w w' := by
  have hsz : s.size = l.length := by rw [← hl.out]; rfl
  go_enter Tryd.func67, Tryd.ntmps67
  go_wp2
  go_loopw [9, 4, 5] (fun ii sc gr wr => ∃ (i S G : Nat), i ≤ l.length ∧ ii = .int .i64 i ∧ sc = .int .u32 S ∧ gr = .int .u32 G ∧ Hid (S = 10 ^ i ∧ G = dval (l.take i)) ∧ wr = w)
    (fun ii _ _ _ => l.length - (intOf ii).toNat)
  case atStart => exact ⟨0, 1, 0, Nat.zero_le _, rfl, rfl, rfl, ⟨rfl, rfl⟩, rfl⟩
  case round =>
    obtain ⟨i, S, G, hi, rfl, rfl, rfl, hSG, rfl⟩ := hrel
    by_cases hlt : i < l.length
    · have hb := byte_at hl.out i hlt
      have hdb := hd _ (List.getElem_mem hlt)
      have hp : 10 ^ i ≤ 10 ^ 8 := Nat.pow_le_pow_right (by decide) (by omega)
      have hG := dval_lt (l := l.take i) (fun b hb => hd b (List.mem_of_mem_take hb))
      rw [List.length_take, Nat.min_eq_left hi] at hG
      have hS9 : S ≤ 100000000 := by have := hSG.out; omega
      have hG9 : G < 100000000 := by have := hSG.out; omega
      have HT : Hid (S * 10 = 10 ^ (i + 1) ∧ G * 10 + (l[i].toNat - 48) = dval (l.take (i + 1))) := by
        unfold Hid
        rw [Nat.pow_succ, hSG.out.1, hSG.out.2, List.take_succ_eq_append_getElem hlt, dval_snoc]
        exact ⟨rfl, rfl⟩
      have his : i < s.size := by omega
      have hse : s[i].toNat = l[i].toNat := by rw [hb]
      generalize l[i].toNat = D at *
      clear hp hG hb
      go_wp2
      refine ⟨⟨i + 1, S * 10, G * 10 + (D - 48), by omega, by go_num, ?_, ?_, HT, trivial⟩, by simp [intOf]; omega⟩
      · congr 1
      · congr 1; omega
    · obtain rfl : i = l.length := by omega
      have hSG' := hSG.out
      rw [List.take_length] at hSG'
      have hp : 10 ^ l.length ≤ 10 ^ 9 := Nat.pow_le_pow_right (by decide) h9
      have hp0 : 1 ≤ 10 ^ l.length := Nat.one_le_pow _ _ (by decide)
      have hG := dval_lt hd
      have hS9 : 1 ≤ S ∧ S ≤ 1000000000 := by omega
      have hG9 : G < 1000000000 := by omega
      have HE : Hid (S = 10 ^ l.length ∧ G = dval l) := hSG'
      clear hp hp0 hG hSG'
      go_wp2_with fail
      refine (timesLimb_any (S : Int) (G : Int) (by omega) (by omega) (by decide) cx hs hn).mono ?_
      rintro e w2 ⟨rfl, zs, cz, vz, lz, hst, hb⟩
      go_wp2
      go_end0
      refine ⟨rfl, zs, cz, ?_, lz, hst, hb⟩
      rw [vz, HE.out.1, HE.out.2]
      simp

def isNum (l : List UInt8) : Prop := digs l ∧ 0 < l.length
def Tells (l : List UInt8) (e : Ending) : Prop := ∃ b, e = .returned (.bool b) ∧ (b = true ↔ isNum l)

set_option maxRecDepth 100000 in
set_option maxHeartbeats 800000 in
theorem allDigits_any {w : World} (s : ByteArray) (l : List UInt8) (hl : Hid (s.data.toList = l)) (hb : l.length ≤ 1000000000) :
    Calls Tryd.prog 66 #[.string s] w fun e w' => Tells l e ∧ w = w' := by
  have hsz : s.size = l.length := by rw [← hl.out]; rfl
  go_enter Tryd.func66, Tryd.ntmps66
  go_wp2
  go_loopw [6] (fun ii wr => ∃ (i : Nat), i ≤ l.length ∧ ii = .int .i64 i ∧ Hid (digs (l.take i)) ∧ wr = w)
    (fun ii _ => l.length - (intOf ii).toNat)
  case atStart => exact ⟨0, Nat.zero_le _, rfl, fun b hb => by simp at hb, rfl⟩
  case round =>
    obtain ⟨i, hi, rfl, hd, rfl⟩ := hrel
    by_cases hlt : i < l.length
    · have his : i < s.size := by omega
      have hse : s[i].toNat = l[i].toNat := by rw [byte_at hl.out i hlt]
      have HM : Hid (l[i] ∈ l) := List.getElem_mem hlt
      have HT : Hid (48 ≤ l[i].toNat → l[i].toNat ≤ 57 → digs (l.take (i + 1))) := by
        intro h1 h2 b hb
        rw [List.take_succ_eq_append_getElem hlt, List.mem_append] at hb
        rcases hb with hb | hb
        · exact hd.out b hb
        · rw [List.mem_singleton] at hb; subst hb; exact ⟨h1, h2⟩
      have HN : Hid (l[i].toNat < 48 ∨ 57 < l[i].toNat → ¬ isNum l) := by
        intro h hn
        have := hn.1 _ HM.out
        omega
      clear HM
      generalize l[i].toNat = D at *
      have hcs : D < 48 ∨ (¬ D < 48 ∧ 57 < D) ∨ (¬ D < 48 ∧ ¬ 57 < D) := by omega
      rcases hcs with h | ⟨h, h'⟩ | ⟨h, h'⟩
      · have HX : Hid (¬ isNum l) := HN.out (Or.inl h)
        go_wp2
        go_ret
        exact ⟨⟨false, rfl, ⟨(fun e => by cases e), fun e => absurd e HX.out⟩⟩, rfl⟩
      · have HX : Hid (¬ isNum l) := HN.out (Or.inr h')
        go_wp2
        go_ret
        exact ⟨⟨false, rfl, ⟨(fun e => by cases e), fun e => absurd e HX.out⟩⟩, rfl⟩
      · have HX := HT.out (by omega) (by omega)
        have HX2 : Hid (digs (l.take (i + 1))) := HX
        clear HX HT HN
        go_wp2
        exact ⟨⟨i + 1, by omega, by go_num, HX2, trivial⟩, by simp [intOf]; omega⟩
    · obtain rfl : i = l.length := by omega
      have hd2 := hd.out
      rw [List.take_length] at hd2
      have HD : Hid (digs l) := hd2
      clear hd2
      by_cases h0 : 0 < l.length
      · go_wp2
        go_ret
        exact ⟨⟨true, rfl, ⟨fun _ => ⟨HD.out, h0⟩, fun _ => rfl⟩⟩, rfl⟩
      · go_wp2
        go_ret
        exact ⟨⟨false, rfl, ⟨(fun e => by cases e), fun e => absurd e.2 h0⟩⟩, rfl⟩

/-- What the reading of a text answers. -/
def Parses (w : World) (l : List UInt8) (e : Ending) (w' : World) : Prop :=
  Below w.heap.size w w' ∧ (isNum l → ∃ zs a c, can zs ∧ val zs = dval l ∧ e = .returned (.tuple #[.slice a zs.length c, .bool true]) ∧ Own w.heap.size w' (.slice a zs.length c) zs) ∧ (¬ isNum l → e = .returned (.tuple #[.slice none 0 0, .bool false]))

theorem extract_list (s : ByteArray) (a b : Nat) : (s.extract a b).data.toList = (s.data.toList.drop a).take (b - a) := by
  rw [ByteArray.data_extract, Array.toList_extract]

def sizeOf' : Value → Nat | .string s => s.size | _ => 0

set_option maxRecDepth 100000 in
set_option maxHeartbeats 1600000 in
theorem parse_any {w : World} (s : ByteArray) (l : List UInt8) (hl : Hid (s.data.toList = l)) (hb : l.length ≤ 100000000) :
    Calls Tryd.prog 39 #[.string s] w fun e w' => Parses w l e w' := by
  have hsz : s.size = l.length := by rw [← hl.out]; rfl
  by_cases hn : isNum l
  · have hO1 : St w.heap.size (w.alloc (.cells #[.slice none 0 0] 85)) w.heap.size 85 [] := ⟨none, 0, heap_alloc_new _ _, own_nil' _ _, Nat.le_refl _, by simp⟩
    have b0 : Below w.heap.size w (w.alloc (.cells #[.slice none 0 0] 85)) := (Below.refl _ _).alloc (Nat.le_refl _) _
    have HN : Hid (isNum l) := hn
    have h0 : 0 < l.length := hn.2
    go_enter Tryd.func39, Tryd.ntmps39
    go_wp2_with fail
    refine (allDigits_any s l hl (by omega)).mono ?_
    rintro e w' ⟨⟨b, rfl, hbi⟩, rfl⟩
    obtain rfl : b = true := hbi.2 hn
    clear hbi hn
    go_wp2
    go_loopw [0] (fun sv wr => ∃ (s' : ByteArray) (d l' : List UInt8) (zs : List Int), sv = .string s' ∧ Hid (s'.data.toList = l') ∧ Hid (l = d ++ l') ∧ 0 < l'.length ∧ l'.length ≤ l.length ∧ can zs ∧ Hid (val zs = dval d) ∧ zs.length + l'.length ≤ l.length ∧ St w.heap.size wr w.heap.size 85 zs ∧ Below w.heap.size w wr)
      (fun sv _ => sizeOf' sv)
    case atStart => exact ⟨s, [], l, [], rfl, hl, rfl, h0, Nat.le_refl _, can_nil, rfl, by simp, hO1, b0⟩
    case round =>
      clear hsz hO1 b0
      obtain ⟨s', d, l', zs, rfl, hl', hdl, h0', hll, cz, hvz, hzl, hst, hbl⟩ := hrel
      have hsz' : s'.size = l'.length := by rw [← hl'.out]; rfl
      have hdig : digs l := HN.out.1
      by_cases h9 : 9 < l'.length
      · have hd9 : digs (l'.take 9) := fun b hb => hdig b (by rw [hdl.out, List.mem_append]; exact Or.inr (List.mem_of_mem_take hb))
        have e9 : Hid ((s'.extract 0 9).data.toList = l'.take 9) := by unfold Hid; rw [extract_list, hl'.out]; simp
        have e9' : Hid ((s'.extract 9 s'.size).data.toList = l'.drop 9) := by
          unfold Hid; rw [extract_list, hl'.out, hsz', List.take_of_length_le (by simp)]
        have hl9 : (l'.take 9).length = 9 := by simp; omega
        have hrd := fun w0 (h0 : St w.heap.size w0 w.heap.size 85 zs) => read_any (s'.extract 0 9) (l'.take 9) e9 hd9 (by omega) cz h0 (by omega)
        clear hdig
        go_wp2_with fail
        refine (hrd _ hst).mono ?_
        rintro e w2 ⟨rfl, us, cu, vu, lu, hst2, hb2⟩
        have HU : Hid (val us = dval (d ++ l'.take 9)) := by
          unfold Hid; rw [vu, hvz.out, dval_append]; simp
        clear vu hrd
        go_wp2
        go_roundw
        case rel => exact ⟨s'.extract 9 s'.size, d ++ l'.take 9, l'.drop 9, us, (by first | rfl | (rw [hsz'])), e9', (by unfold Hid; rw [List.append_assoc, List.take_append_drop]; exact hdl.out), by simp; omega, by simp; omega, cu, HU, (by simp; omega), hst2, hbl.trans hb2⟩
        case measure =>
          simp [sizeOf']
          omega
      · have hd9 : digs l' := fun b hb => hdig b (by rw [hdl.out, List.mem_append]; exact Or.inr hb)
        have hrd := fun w0 (h0 : St w.heap.size w0 w.heap.size 85 zs) => read_any s' l' hl' hd9 (by omega) cz h0 (by omega)
        clear hdig
        go_wp2_with fail
        refine (hrd _ hst).mono ?_
        rintro e w2 ⟨rfl, us, cu, vu, lu, hst2, hb2⟩
        have HU : Hid (val us = dval l) := by
          unfold Hid; rw [vu, hvz.out, hdl.out, dval_append]; simp
        clear vu hrd
        obtain ⟨a3, c3, hbox3, hown3, _, _⟩ := hst2
        have hc3 := cell_of_one hbox3
        go_wp2
        go_ret2
        exact ⟨hbl.trans hb2, fun _ => ⟨us, a3, c3, cu, HU.out, rfl, hown3⟩, fun h => absurd HN.out h⟩
  · go_enter Tryd.func39, Tryd.ntmps39
    go_wp2_with fail
    refine (allDigits_any s l hl (by omega)).mono ?_
    rintro e w' ⟨⟨b, rfl, hbi⟩, rfl⟩
    obtain rfl : b = false := by
      cases b with
      | false => rfl
      | true => exact absurd (hbi.1 rfl) hn
    go_wp2
    go_ret2
    exact ⟨Below.refl _ _, fun h => absurd h hn, fun _ => rfl⟩
end Go.Proofs.YtibciilhfpgjjaaDoor
