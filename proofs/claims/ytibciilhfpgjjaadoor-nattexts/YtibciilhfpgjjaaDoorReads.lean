/- (*running).timesLimb: the number becomes f times as great, and more is added. -/
import Derived.Test.YtibciilhfpgjjaaDoorDivLimb
import Derived.Test.YtibciilhfpgjjaaDoorPrints
import Derived.Test.YtibciilhfpgjjaaDoorRefC
import Derived.Deep.RegionWith
namespace Go.Proofs.YtibciilhfpgjjaaDoor
set_option linter.unusedVariables false
set_option linter.unusedSimpArgs false
open Go.RowKit

theorem take_set_succ (vs : List Int) (i : Nat) (z : Int) (h : i < vs.length) : (vs.set i z).take (i + 1) = vs.take i ++ [z] := by
  rw [take_succ_getD _ _ (by simpa using h), getD_set, if_pos ⟨rfl, h⟩]
  congr 1
  rw [List.take_set_of_le (Nat.le_refl _)]
theorem drop_set_succ (vs : List Int) (i : Nat) (z : Int) : (vs.set i z).drop (i + 1) = vs.drop (i + 1) := by
  rw [List.drop_set_of_lt (by omega)]

theorem tl_step (vs xs : List Int) (i : Nat) (C f m t : Int) (hi : i < xs.length) (hl : vs.length = xs.length) (h : val (vs.take i) + C * pw i = val (xs.take i) * f + m) (ht : t = xs.getD i 0 * f + C) :
    val ((vs.set i (t % 4294967296)).take (i + 1)) + t / 4294967296 * pw (i + 1) = val (xs.take (i + 1)) * f + m := by
  rw [take_set_succ vs i _ (by omega), val_append, val_take_succ xs i hi, pw_succ]
  simp only [val, List.length_take]
  rw [Nat.min_eq_left (by omega)]
  have e : t = t % 4294967296 + t / 4294967296 * 4294967296 := by omega
  generalize t % 4294967296 = z at *
  generalize t / 4294967296 = q at *
  have key : (z + q * 4294967296) * pw i = (xs.getD i 0 * f + C) * pw i := by rw [← e, ht]
  simp only [Int.mul_zero, Int.add_zero] at *
  simp only [Int.add_mul, Int.mul_add, Int.mul_assoc, Int.mul_comm, Int.mul_left_comm] at *
  omega

set_option maxHeartbeats 1600000 in
theorem timesLimb_walk {base B ty : Nat} {w : World} {xs : List Int} (a : Option Addr) (c L : Nat) (f m : Int) (hf : 0 ≤ f ∧ f < 4294967296) (hm : 0 ≤ m ∧ m < 4294967296) (hty : ty ≠ 39) (hxl : Hid (xs.length = L)) (hbox : Box w B ty (.slice a L c)) (hown : Own base w (.slice a L c) xs) (hBb : base ≤ B) (hbs : base ≤ w.heap.size)
    (hn : L ≤ 1000000000) :
    Calls Tryd.prog 85 #[.pointer (some ⟨B, 0, none⟩), .int .u32 f, .int .u32 m] w fun e w' => e = .returned (.tuple #[]) ∧ ∃ zs, lim zs ∧ val zs = val xs * f + m ∧ zs.length ≤ L + 1 ∧ L ≤ zs.length ∧ (L < zs.length → ¬ zs.getD (zs.length - 1) 0 = 0) ∧ St base w' B ty zs ∧ Below base w w' := by
  have hc := cell_of_one hbox
  have hf0 := free_of_one hbox
  have lx := hown.lim
  go_enter Tryd.func85, Tryd.ntmps85
  go_wp2
  go_loopw [17, 6] (fun s r wr => ∃ (i : Nat) (C : Int) (vs : List Int), i ≤ L ∧ s = .int .i64 i ∧ r = .int .u64 C ∧ 0 ≤ C ∧ C < 4294967296 ∧ Hid (vs.length = L) ∧ Own base wr (.slice a L c) vs ∧ Box wr B ty (.slice a L c) ∧ Kept2 w wr B (Value.slice a L c).ownBlock ∧ Hid (vs.drop i = xs.drop i) ∧ Hid (val (vs.take i) + C * pw i = val (xs.take i) * f + m))
    (fun s _ _ => L - (intOf s).toNat)
  case atStart => exact ⟨0, m, xs, Nat.zero_le _, rfl, rfl, hm.1, hm.2, hxl, hown, hbox, Kept2.refl _ _ _, rfl, by unfold Hid; simp [val, pw_zero]⟩
  case round =>
    obtain ⟨i, C, vs, hiL, rfl, rfl, hC0, hC1, hvl, hown3, hbox3, hbl3, hdrop, hval3⟩ := hrel
    have hc3 := cell_of_one hbox3
    clear hc hf0 hbox hown
    have hsz3 := hbl3.size
    by_cases hlt : i < L
    · rcases hown3.shape with ⟨hnil, hnil2⟩ | ⟨g, cap, hv, hgb, hgs, _, _⟩
      · have := hvl.out; rw [hnil2] at this; simp at this; omega
      have ha2 : a = some ⟨g, 0, none⟩ := by
        have := congrArg (fun v : Value => match v with | .slice a _ _ => a | _ => none) hv
        exact this
      clear hv
      subst ha2
      have hcv := hown3.cellAt hvl.out i (by omega)
      have hfv := hown3.frozenAt hvl.out i
      have hneB := own_box_ne hbox3 hown3 hty
      have hneB' : g ≠ B := fun e => hneB (by rw [e]; rfl)
      have hvx : vs.getD i 0 = xs.getD i 0 := by
        have h1 := congrArg (fun l : List Int => l.getD 0 0) hdrop.out
        simpa [List.getD, List.getElem?_drop] using h1
      rw [hvx] at hcv
      have rx := lim_getD lx i
      have hmb := mul_bound rx hf
      have hst := tl_step vs xs i C f m _ (by rw [hxl.out]; exact hlt) (by rw [hxl.out, hvl.out]) hval3.out rfl
      have hS := hown3.stored hvl.out i ((xs.getD i 0 * f + C) % 4294967296) (by omega)
      generalize hXF : xs.getD i 0 * f = P at *
      generalize xs.getD i 0 = X at *
      have HXF : X * f = P := hXF
      have HST : Hid (val ((vs.set i ((P + C) % 4294967296)).take (i + 1)) + (P + C) / 4294967296 * pw (i + 1) = val (xs.take (i + 1)) * f + m) := hst
      clear hst hXF
      go_wp2
      go_roundw
      case rel => exact ⟨i + 1, (P + C) / 4294967296, vs.set i ((P + C) % 4294967296), by omega, by go_num, by go_num, by omega, by omega, (by unfold Hid; rw [List.length_set]; exact hvl.out), hS, box_set hbox3 hneB' _ _, hbl3.setCell (p := ⟨g, i, none⟩) (Or.inr rfl) _, (by unfold Hid; rw [drop_set_succ]; have h1 := congrArg (fun l : List Int => l.drop 1) hdrop.out; simpa [List.drop_drop] using h1), HST⟩
      case measure => simp [intOf]; omega
    · obtain rfl : i = L := by omega
      have hvl' := hvl.out
      have hSt : St base wr B ty vs := ⟨a, c, by rw [hvl']; exact hbox3, by rw [hvl']; exact hown3, hBb, by omega⟩
      have hfin : val vs + C * pw vs.length = val xs * f + m := by
        have h3 := hval3.out
        rw [List.take_of_length_le (by omega), List.take_of_length_le (by rw [hxl.out]; omega), ← hvl'] at h3
        exact h3
      have HF : Hid (val vs + C * pw vs.length = val xs * f + m) := hfin
      have HL : Hid (vs.length = i) := hvl'
      have hlv : vs.length ≤ 17592186044416 := by omega
      clear hfin hvl'
      go_wp2_with fail
      refine (push_any C hC0 hC1 hty hSt hlv).mono ?_
      rintro e w2 ⟨rfl, hst2, hb2⟩
      go_wp2
      go_end0
      have hL := HL.out
      have hlim : lim (pushed vs C) := by obtain ⟨_, _, _, ho, _⟩ := hst2; exact ho.lim
      refine ⟨rfl, pushed vs C, hlim, by rw [val_pushed]; exact HF.out, ?_, ?_, ?_, hst2, (hbl3.below hBb hbs (fun k hk => (hown3.2.lt k hk).1)).trans hb2⟩
      · unfold pushed; split
        · omega
        · simp; omega
      · unfold pushed; split
        · omega
        · simp; omega
      · unfold pushed; split
        · intro h; omega
        · intro _
          rw [List.length_append]
          simp
          assumption

/-- (*running).timesLimb on right limbs. -/
theorem timesLimb_any {base B ty : Nat} {w : World} {xs : List Int} (f m : Int) (hf : 1 ≤ f ∧ f < 4294967296) (hm : 0 ≤ m ∧ m < 4294967296) (hty : ty ≠ 39) (cx : can xs) (hs : St base w B ty xs) (hn : xs.length ≤ 1000000000) :
    Calls Tryd.prog 85 #[.pointer (some ⟨B, 0, none⟩), .int .u32 f, .int .u32 m] w fun e w' => e = .returned (.tuple #[]) ∧ ∃ zs, can zs ∧ val zs = val xs * f + m ∧ zs.length ≤ xs.length + 1 ∧ St base w' B ty zs ∧ Below base w w' := by
  obtain ⟨a, c, hbox, hown, hBb, hbs⟩ := hs
  refine (timesLimb_walk a c xs.length f m (by omega) hm hty rfl hbox hown hBb hbs hn).mono ?_
  rintro e w' ⟨rfl, zs, lz, vz, l1, l2, ht, hst, hb⟩
  refine ⟨rfl, zs, ?_, vz, l1, hst, hb⟩
  by_cases hl : xs.length < zs.length
  · exact ⟨lz, Or.inr (ht hl)⟩
  · have e : zs.length = xs.length := by omega
    refine can_of_low lz ?_
    by_cases h0 : xs.length = 0
    · left; omega
    · right
      have h1 := can_low cx (by omega)
      have h2 : val xs * 1 ≤ val xs * f := Int.mul_le_mul_of_nonneg_left (by omega) (val_bound cx.1).1
      rw [e]; omega
end Go.Proofs.YtibciilhfpgjjaaDoor

/- nat.Parse: the number that digits say. -/
namespace Go.Proofs.YtibciilhfpgjjaaDoor
set_option linter.unusedVariables false
set_option linter.unusedSimpArgs false
open Go.RowKit

theorem dval_lt {l : List UInt8} (h : digs l) : dval l < 10 ^ l.length := by
  induction l with
  | nil => decide
  | cons b l ih =>
    have hb := h b (by simp)
    have h2 := ih (fun c hc => h c (by simp [hc]))
    have e : dval (b :: l) = (b.toNat - 48) * 10 ^ l.length + dval l := by
      show (b :: l).foldl _ 0 = _
      rw [List.foldl_cons, dval_from]; simp
    rw [e, List.length_cons, Nat.pow_succ]
    have h3 : (b.toNat - 48) * 10 ^ l.length ≤ 9 * 10 ^ l.length := Nat.mul_le_mul_right _ (by omega)
    omega

theorem own_nil' (base : Nat) (w : World) : Own base w (.slice none 0 0) [] := ⟨lim_nil, World.ownsRow_nil _ _ _ _⟩

theorem byte_at {s : ByteArray} {l : List UInt8} (h : s.data.toList = l) (i : Nat) (hi : i < l.length) : s[i]'(by rw [show s.size = l.length by rw [← h]; rfl]; exact hi) = l[i] := by
  subst h
  rfl

set_option maxRecDepth 100000 in
set_option maxHeartbeats 1600000 in
theorem read_any {base B : Nat} {w : World} {xs : List Int} (s : ByteArray) (l : List UInt8) (hl : Hid (s.data.toList = l)) (hd : digs l) (h9 : l.length ≤ 9) (cx : can xs) (hs : St base w B 85 xs) (hn : xs.length ≤ 1000000000) :
    Calls Tryd.prog 67 #[.pointer (some ⟨B, 0, none⟩), .string s] w fun e w' => e = .returned (.tuple #[]) ∧ ∃ zs, can zs ∧ val zs = val xs * 10 ^ l.length + dval l ∧ zs.length ≤ xs.length + 1 ∧ St base w' B 85 zs ∧ Below base w w' := by
  have hsz : s.size = l.length := by rw [← hl.out]; rfl
  go_enter Tryd.func67, Tryd.ntmps67
  go_wp2
  go_loopw [9, 4, 5] (fun ii sc gr wr => ∃ (i S G : Nat), i ≤ l.length ∧ ii = .int .i64 i ∧ sc = .int .u32 S ∧ gr = .int .u32 G ∧ Hid (S = 10 ^ i ∧ G = dval (l.take i)) ∧ wr = w)
    (fun ii _ _ _ => l.length - (intOf ii).toNat)
  case atStart => exact ⟨0, 1, 0, Nat.zero_le _, rfl, rfl, rfl, ⟨rfl, rfl⟩, rfl⟩
  case round =>
    obtain ⟨i, S, G, hi, rfl, rfl, rfl, hSG, rfl⟩ := hrel
    by_cases hlt : i < l.length
    · have hb := byte_at hl.out i hlt
      have hdb := hd _ (List.getElem_mem hlt)
      have hp : 10 ^ i ≤ 10 ^ 8 := Nat.pow_le_pow_right (by decide) (by omega)
      have hG := dval_lt (l := l.take i) (fun b hb => hd b (List.mem_of_mem_take hb))
      rw [List.length_take, Nat.min_eq_left hi] at hG
      have hS9 : S ≤ 100000000 := by have := hSG.out; omega
      have hG9 : G < 100000000 := by have := hSG.out; omega
      have HT : Hid (S * 10 = 10 ^ (i + 1) ∧ G * 10 + (l[i].toNat - 48) = dval (l.take (i + 1))) := by
        unfold Hid
        rw [Nat.pow_succ, hSG.out.1, hSG.out.2, List.take_succ_eq_append_getElem hlt, dval_snoc]
        exact ⟨rfl, rfl⟩
      have his : i < s.size := by omega
      have hse : s[i].toNat = l[i].toNat := by rw [hb]
      generalize l[i].toNat = D at *
      clear hp hG hb
      go_wp2
      refine ⟨⟨i + 1, S * 10, G * 10 + (D - 48), by omega, by go_num, ?_, ?_, HT, trivial⟩, by simp [intOf]; omega⟩
      · congr 1
      · congr 1; omega
    · obtain rfl : i = l.length := by omega
      have hSG' := hSG.out
      rw [List.take_length] at hSG'
      have hp : 10 ^ l.length ≤ 10 ^ 9 := Nat.pow_le_pow_right (by decide) h9
      have hp0 : 1 ≤ 10 ^ l.length := Nat.one_le_pow _ _ (by decide)
      have hG := dval_lt hd
      have hS9 : 1 ≤ S ∧ S ≤ 1000000000 := by omega
      have hG9 : G < 1000000000 := by omega
      have HE : Hid (S = 10 ^ l.length ∧ G = dval l) := hSG'
      clear hp hp0 hG hSG'
      go_wp2_with fail
      refine (timesLimb_any (S : Int) (G : Int) (by omega) (by omega) (by decide) cx hs hn).mono ?_
      rintro e w2 ⟨rfl, zs, cz, vz, lz, hst, hb⟩
      go_wp2
      go_end0
      refine ⟨rfl, zs, cz, ?_, lz, hst, hb⟩
      rw [vz, HE.out.1, HE.out.2]
      simp

def isNum (l : List UInt8) : Prop := digs l ∧ 0 < l.length
def Tells (l : List UInt8) (e : Ending) : Prop := ∃ b, e = .returned (.bool b) ∧ (b = true ↔ isNum l)

set_option maxRecDepth 100000 in
set_option maxHeartbeats 800000 in
theorem allDigits_any {w : World} (s : ByteArray) (l : List UInt8) (hl : Hid (s.data.toList = l)) (hb : l.length ≤ 1000000000) :
    Calls Tryd.prog 66 #[.string s] w fun e w' => Tells l e ∧ w = w' := by
  have hsz : s.size = l.length := by rw [← hl.out]; rfl
  go_enter Tryd.func66, Tryd.ntmps66
  go_wp2
  go_loopw [6] (fun ii wr => ∃ (i : Nat), i ≤ l.length ∧ ii = .int .i64 i ∧ Hid (digs (l.take i)) ∧ wr = w)
    (fun ii _ => l.length - (intOf ii).toNat)
  case atStart => exact ⟨0, Nat.zero_le _, rfl, fun b hb => by simp at hb, rfl⟩
  case round =>
    obtain ⟨i, hi, rfl, hd, rfl⟩ := hrel
    by_cases hlt : i < l.length
    · have his : i < s.size := by omega
      have hse : s[i].toNat = l[i].toNat := by rw [byte_at hl.out i hlt]
      have HM : Hid (l[i] ∈ l) := List.getElem_mem hlt
      have HT : Hid (48 ≤ l[i].toNat → l[i].toNat ≤ 57 → digs (l.take (i + 1))) := by
        intro h1 h2 b hb
        rw [List.take_succ_eq_append_getElem hlt, List.mem_append] at hb
        rcases hb with hb | hb
        · exact hd.out b hb
        · rw [List.mem_singleton] at hb; subst hb; exact ⟨h1, h2⟩
      have HN : Hid (l[i].toNat < 48 ∨ 57 < l[i].toNat → ¬ isNum l) := by
        intro h hn
        have := hn.1 _ HM.out
        omega
      clear HM
      generalize l[i].toNat = D at *
      have hcs : D < 48 ∨ (¬ D < 48 ∧ 57 < D) ∨ (¬ D < 48 ∧ ¬ 57 < D) := by omega
      rcases hcs with h | ⟨h, h'⟩ | ⟨h, h'⟩
      · have HX : Hid (¬ isNum l) := HN.out (Or.inl h)
        go_wp2
        go_ret
        exact ⟨⟨false, rfl, ⟨(fun e => by cases e), fun e => absurd e HX.out⟩⟩, rfl⟩
      · have HX : Hid (¬ isNum l) := HN.out (Or.inr h')
        go_wp2
        go_ret
        exact ⟨⟨false, rfl, ⟨(fun e => by cases e), fun e => absurd e HX.out⟩⟩, rfl⟩
      · have HX := HT.out (by omega) (by omega)
        have HX2 : Hid (digs (l.take (i + 1))) := HX
        clear HX HT HN
        go_wp2
        exact ⟨⟨i + 1, by omega, by go_num, HX2, trivial⟩, by simp [intOf]; omega⟩
    · obtain rfl : i = l.length := by omega
      have hd2 := hd.out
      rw [List.take_length] at hd2
      have HD : Hid (digs l) := hd2
      clear hd2
      by_cases h0 : 0 < l.length
      · go_wp2
        go_ret
        exact ⟨⟨true, rfl, ⟨fun _ => ⟨HD.out, h0⟩, fun _ => rfl⟩⟩, rfl⟩
      · go_wp2
        go_ret
        exact ⟨⟨false, rfl, ⟨(fun e => by cases e), fun e => absurd e.2 h0⟩⟩, rfl⟩

/-- What the reading of a text answers. -/
def Parses (w : World) (l : List UInt8) (e : Ending) (w' : World) : Prop :=
  Below w.heap.size w w' ∧ (isNum l → ∃ zs a c, can zs ∧ val zs = dval l ∧ e = .returned (.tuple #[.slice a zs.length c, .bool true]) ∧ Own w.heap.size w' (.slice a zs.length c) zs) ∧ (¬ isNum l → e = .returned (.tuple #[.slice none 0 0, .bool false]))

theorem extract_list (s : ByteArray) (a b : Nat) : (s.extract a b).data.toList = (s.data.toList.drop a).take (b - a) := by
  rw [ByteArray.data_extract, Array.toList_extract]

def sizeOf' : Value → Nat | .string s => s.size | _ => 0

set_option maxRecDepth 100000 in
set_option maxHeartbeats 1600000 in
theorem parse_any {w : World} (s : ByteArray) (l : List UInt8) (hl : Hid (s.data.toList = l)) (hb : l.length ≤ 100000000) :
    Calls Tryd.prog 39 #[.string s] w fun e w' => Parses w l e w' := by
  have hsz : s.size = l.length := by rw [← hl.out]; rfl
  by_cases hn : isNum l
  · have hO1 : St w.heap.size (w.alloc (.cells #[.slice none 0 0] 85)) w.heap.size 85 [] := ⟨none, 0, heap_alloc_new _ _, own_nil' _ _, Nat.le_refl _, by simp⟩
    have b0 : Below w.heap.size w (w.alloc (.cells #[.slice none 0 0] 85)) := (Below.refl _ _).alloc (Nat.le_refl _) _
    have HN : Hid (isNum l) := hn
    have h0 : 0 < l.length := hn.2
    go_enter Tryd.func39, Tryd.ntmps39
    go_wp2_with fail
    refine (allDigits_any s l hl (by omega)).mono ?_
    rintro e w' ⟨⟨b, rfl, hbi⟩, rfl⟩
    obtain rfl : b = true := hbi.2 hn
    clear hbi hn
    go_wp2
    go_loopw [0] (fun sv wr => ∃ (s' : ByteArray) (d l' : List UInt8) (zs : List Int), sv = .string s' ∧ Hid (s'.data.toList = l') ∧ Hid (l = d ++ l') ∧ 0 < l'.length ∧ l'.length ≤ l.length ∧ can zs ∧ Hid (val zs = dval d) ∧ zs.length + l'.length ≤ l.length ∧ St w.heap.size wr w.heap.size 85 zs ∧ Below w.heap.size w wr)
      (fun sv _ => sizeOf' sv)
    case atStart => exact ⟨s, [], l, [], rfl, hl, rfl, h0, Nat.le_refl _, can_nil, rfl, by simp, hO1, b0⟩
    case round =>
      clear hsz hO1 b0
      obtain ⟨s', d, l', zs, rfl, hl', hdl, h0', hll, cz, hvz, hzl, hst, hbl⟩ := hrel
      have hsz' : s'.size = l'.length := by rw [← hl'.out]; rfl
      have hdig : digs l := HN.out.1
      by_cases h9 : 9 < l'.length
      · have hd9 : digs (l'.take 9) := fun b hb => hdig b (by rw [hdl.out, List.mem_append]; exact Or.inr (List.mem_of_mem_take hb))
        have e9 : Hid ((s'.extract 0 9).data.toList = l'.take 9) := by unfold Hid; rw [extract_list, hl'.out]; simp
        have e9' : Hid ((s'.extract 9 s'.size).data.toList = l'.drop 9) := by
          unfold Hid; rw [extract_list, hl'.out, hsz', List.take_of_length_le (by simp)]
        have hl9 : (l'.take 9).length = 9 := by simp; omega
        have hrd := fun w0 (h0 : St w.heap.size w0 w.heap.size 85 zs) => read_any (s'.extract 0 9) (l'.take 9) e9 hd9 (by omega) cz h0 (by omega)
        clear hdig
        go_wp2_with fail
        refine (hrd _ hst).mono ?_
        rintro e w2 ⟨rfl, us, cu, vu, lu, hst2, hb2⟩
        have HU : Hid (val us = dval (d ++ l'.take 9)) := by
          unfold Hid; rw [vu, hvz.out, dval_append]; simp
        clear vu hrd
        go_wp2
        go_roundw
        case rel => exact ⟨s'.extract 9 s'.size, d ++ l'.take 9, l'.drop 9, us, (by first | rfl | (rw [hsz'])), e9', (by unfold Hid; rw [List.append_assoc, List.take_append_drop]; exact hdl.out), by simp; omega, by simp; omega, cu, HU, (by simp; omega), hst2, hbl.trans hb2⟩
        case measure =>
          simp [sizeOf']
          omega
      · have hd9 : digs l' := fun b hb => hdig b (by rw [hdl.out, List.mem_append]; exact Or.inr hb)
        have hrd := fun w0 (h0 : St w.heap.size w0 w.heap.size 85 zs) => read_any s' l' hl' hd9 (by omega) cz h0 (by omega)
        clear hdig
        go_wp2_with fail
        refine (hrd _ hst).mono ?_
        rintro e w2 ⟨rfl, us, cu, vu, lu, hst2, hb2⟩
        have HU : Hid (val us = dval l) := by
          unfold Hid; rw [vu, hvz.out, hdl.out, dval_append]; simp
        clear vu hrd
        obtain ⟨a3, c3, hbox3, hown3, _, _⟩ := hst2
        have hc3 := cell_of_one hbox3
        go_wp2
        go_ret2
        exact ⟨hbl.trans hb2, fun _ => ⟨us, a3, c3, cu, HU.out, rfl, hown3⟩, fun h => absurd HN.out h⟩
  · go_enter Tryd.func39, Tryd.ntmps39
    go_wp2_with fail
    refine (allDigits_any s l hl (by omega)).mono ?_
    rintro e w' ⟨⟨b, rfl, hbi⟩, rfl⟩
    obtain rfl : b = false := by
      cases b with
      | false => rfl
      | true => exact absurd (hbi.1 rfl) hn
    go_wp2
    go_ret2
    exact ⟨Below.refl _ _, fun h => absurd h hn, fun _ => rfl⟩
end Go.Proofs.YtibciilhfpgjjaaDoor

/- The document's Print: the decimal digits. -/
namespace Go.Proofs.YtibciilhfpgjjaaDoor
set_option linter.unusedVariables false
set_option linter.unusedSimpArgs false
open Go.RowKit

/-- Where Print stands: what is left of the number, and the digits behind it. -/
def Behind (V n : Nat) (l : List UInt8) : Prop := (0 < n → Lib.decDigits V = Lib.decDigits n ++ l) ∧ (n = 0 → l = [] ∧ V = 0 ∨ l = Lib.decDigits V ∧ 0 < V)

theorem behind_start (V : Nat) : Behind V V [] := ⟨fun _ => by simp, fun h => Or.inl ⟨rfl, h⟩⟩
theorem behind_step {V n q d : Nat} {l : List UInt8} (h : Behind V n l) (hn : 0 < n) (he : n = q * 10 + d) (hd : d < 10) : Behind V q ([UInt8.ofNat (48 + d)] ++ l) := by
  have h1 := h.1 hn
  refine ⟨fun hq => ?_, fun hq => Or.inr ⟨?_, ?_⟩⟩
  · rw [h1, Lib.decDigits, dif_neg (by omega), show n / 10 = q by omega, show n % 10 = d by omega, List.append_assoc]
  · rw [h1, Lib.decDigits, dif_pos (by omega), show n = d by omega]
  · by_cases h0 : V = 0
    · subst h0
      have := congrArg List.length h1
      rw [List.length_append, Lib.decDigits_length, Lib.decDigits_length, Lib.nDigits_small (by omega)] at this
      have h2 := Lib.nDigits_pos n
      have hl : l = [] := List.eq_nil_of_length_eq_zero (by omega)
      rw [hl, List.append_nil] at h1
      have h3 := congrArg dval h1
      rw [(dval_decDigits 0).1, (dval_decDigits n).1] at h3
      omega
    · omega

theorem val_ten : val [10] = 10 := by decide

/-- string of a slice of one new byte. -/
theorem one_byte (w : World) (x : Int) (d : Nat) (hd : d < 10) (hx : x = 48 + (d : Int)) : (convert 74 9 (.slice (some ⟨w.heap.size, 0, none⟩) 1 1)).run Tryd.prog (w.alloc (.cells #[.int .u8 x] 5)) = .ok (.string ⟨#[UInt8.ofNat (48 + d)]⟩) (w.alloc (.cells #[.int .u8 x] 5)) := by
  have h := run_convert_bytes_back (P := Tryd.prog) (w.alloc (.cells #[.int .u8 x] 5)) 74 9 5 ⟨w.heap.size, 0, none⟩ 1 [UInt8.ofNat (48 + d)] Tryd.underlying74 Tryd.underlying5 Tryd.underlying9 (fun j hj => by
    have hj0 : j = 0 := by simpa using hj
    subst hj0
    simp only [List.getElem_cons_zero, digit_toNat d hd]
    subst hx
    simp [Addr.add])
  exact h

theorem pw_ten (L : Nat) : pw L ≤ ((10 ^ (10 * L) : Nat) : Int) := by
  induction L with
  | zero => decide
  | succ L ih =>
    rw [pw_succ, Nat.mul_succ, Nat.pow_add, Int.natCast_mul]
    have h1 : (0 : Int) ≤ ((10 ^ (10 * L) : Nat) : Int) := Int.natCast_nonneg _
    have e : ((10 ^ 10 : Nat) : Int) = 10000000000 := by decide
    rw [e]
    have := pw_pos L
    generalize ((10 ^ (10 * L) : Nat) : Int) = T at *
    omega

theorem digits_bound {V L : Nat} (h : (V : Int) < pw L) : (Lib.decDigits V).length ≤ 10 * L + 1 := by
  refine decDigits_le (10 * L + 1) V (by omega) ?_
  have h1 := pw_ten L
  have h2 : 10 ^ (10 * L) ≤ 10 ^ (10 * L + 1) := Nat.pow_le_pow_right (by decide) (by omega)
  omega

set_option maxRecDepth 100000 in
set_option maxHeartbeats 3200000 in
theorem refPrint_any {B : Nat} {w : World} {v : Value} {xs : List Int} (h : Rd B w v xs) (hB : B ≤ w.heap.size) (hn : xs.length ≤ 100000) :
    Calls Tryd.prog 41 #[v] w fun e w' => Digits w (val xs) e w' := by
  have hO1 : Own w.heap.size (w.alloc (.cells #[.int .u32 10] 39)) (.slice (some ⟨w.heap.size, 0, none⟩) [(10 : Int)].length 1) [10] := ⟨fun x hx => by simp at hx; omega, World.ownsRow_lit w #[.int .u32 10] 1 (Nat.le_refl _) (by unfold maxLen; omega) rfl⟩
  have b0 : Below w.heap.size w (w.alloc (.cells #[.int .u32 10] 39)) := (Below.refl _ _).alloc (Nat.le_refl _) _
  have h' := h.below (b0.mono hB)
  have s0 := b0.size
  have ct := tr_can h.lim
  have hle := tr_length_le xs
  have HV : Hid (val (tr xs) = val xs ∧ 0 ≤ val xs) := ⟨val_tr xs, (val_bound h.lim).1⟩
  obtain ⟨V, hV⟩ := Int.eq_ofNat_of_zero_le HV.out.2
  have hDB : (Lib.decDigits V).length ≤ 10 * xs.length + 1 := digits_bound (by rw [← hV]; exact (val_bound h.lim).2)
  rw [hV]
  go_enter Tryd.func41, Tryd.ntmps41
  go_wp2_with fail
  refine (refTrim_rd h' (by omega)).mono ?_
  rintro e wa ⟨a1, q1, rfl, o1, ba⟩
  have bw : Below w.heap.size w wa := b0.trans (ba.mono s0)
  have o10 := hO1.below ba (Nat.le_refl _)
  have o1w : Own w.heap.size wa (.slice a1 (tr xs).length q1) (tr xs) := o1.mono s0
  have sa := bw.size
  generalize tr xs = us at *
  clear h h' hO1 b0 ba o1 s0
  go_wp2
  go_loopg [3, 5] V (fun g sv bv wr => ∃ (S : ByteArray) (l : List UInt8) (bs : List Int) (a : Option Addr) (c n : Nat), Hid (g = n) ∧ sv = .string S ∧ Hid (S.data.toList = l) ∧ bv = .slice a bs.length c ∧ can bs ∧ Hid (val bs = (n : Int)) ∧ Hid (Behind V n l) ∧ bs.length ≤ xs.length ∧ Own w.heap.size wr (.slice a bs.length c) bs ∧ Below wa.heap.size wa wr)
  case atStart => exact ⟨⟨#[]⟩, [], us, a1, q1, V, rfl, rfl, rfl, rfl, ct, (by unfold Hid; rw [HV.out.1, hV]), behind_start V, hle, o1w, Below.refl _ _⟩
  case round =>
    obtain ⟨S, l, bs, a, c, g, hgg, rfl, hS, rfl, cb, hg, hbe, hbl', ob, hbl⟩ := hrel
    have hs := hbl.size
    by_cases h0 : 0 < bs.length
    · have hpos := pos_len cb (by omega)
      have HP : Hid (0 < g) := by unfold Hid; have := hg.out; omega
      have hlt := (val_bound cb.1).2
      clear hpos
      have r10 := o10.below hbl (Nat.le_refl _)
      go_wp2_with fail
      refine (refDivMod_any ob.rd (Nat.le_refl _) r10.rd (Nat.le_refl _) (by omega) (by simp) (by rw [val_ten]; decide)).mono ?_
      rintro e w2 ⟨qs, rs, a3, c3, a4, c4, rfl, oq, or, cq, cr, hv, hl, b2⟩
      rw [val_ten] at hv hl
      have s2 := b2.size
      have hqn := (val_bound cq.1).1
      have hrn := (val_bound cr.1).1
      obtain ⟨d, hd⟩ := Int.eq_ofNat_of_zero_le hrn
      obtain ⟨q, hq⟩ := Int.eq_ofNat_of_zero_le hqn
      have hd10 : d < 10 := by omega
      have HBE : Hid (Behind V q ([UInt8.ofNat (48 + d)] ++ l)) := behind_step hbe.out HP.out (by have := hg.out; omega) hd10
      have hQ : Hid (val qs = (q : Int) ∧ q < g) := ⟨hq, by have := hg.out; have := HP.out; omega⟩
      have hql : qs.length ≤ bs.length := len_of_lt cq (by omega)
      have hSs : S.size ≤ 10000000 := by
        have h1 := congrArg List.length (hbe.out.1 HP.out)
        rw [List.length_append] at h1
        have h2 : S.size = l.length := by rw [← hS.out]; rfl
        omega
      have hSl : Hid ((⟨#[UInt8.ofNat (48 + d)]⟩ ++ S : ByteArray).data.toList = [UInt8.ofNat (48 + d)] ++ l) := by
        unfold Hid; rw [ByteArray.data_append, Array.toList_append, hS.out]
      by_cases hr0 : 0 < rs.length
      · obtain ⟨g4, f4, rfl, k4⟩ := low_cell or (by omega)
        have hrs := limbs_of cr (d : Int) (by have := pos_len cr (by omega); omega) (by omega) hd
        have k4' : w2.cell? ⟨g4, f4, none⟩ = some (.int .u32 (d : Int)) := by rw [k4, hrs]; rfl
        have hcv := one_byte w2 (48 + (d : Int)) d hd10 rfl
        clear hv hl hd hq hqn hrn k4 hrs hlt
        go_wp2
        go_roundg q
        case measure => have := hgg.out; have := hQ.out; omega
        case rel => exact ⟨⟨#[UInt8.ofNat (48 + d)]⟩ ++ S, _, qs, a3, c3, q, rfl, (by first | rfl | simp), hSl, rfl, cq, hQ.out.1, HBE, by omega, (oq.alloc _).mono (by omega), hbl.trans ((b2.mono hs).alloc (by omega) _)⟩
      · have hd0 : d = 0 := by
          have := (can_zero cr).1 (by omega)
          omega
        subst hd0
        have hcv := one_byte w2 48 0 hd10 rfl
        clear hv hl hd hq hqn hrn hlt
        go_wp2
        go_roundg q
        case measure => have := hgg.out; have := hQ.out; omega
        case rel => exact ⟨⟨#[UInt8.ofNat (48 + 0)]⟩ ++ S, _, qs, a3, c3, q, rfl, (by first | rfl | simp), hSl, rfl, cq, hQ.out.1, HBE, by omega, (oq.alloc _).mono (by omega), hbl.trans ((b2.mono hs).alloc (by omega) _)⟩
    · have hz := (can_zero cb).1 (by omega)
      have hg0 : g = 0 := by have := hg.out; omega
      rcases hbe.out.2 hg0 with ⟨hl0, hV0⟩ | ⟨hl1, hV1⟩
      · have hE : S.toList.isEmpty = true := by rw [ByteArray.toList_eq, hS.out, hl0]; rfl
        have HV0 : Hid (V = 0) := hV0
        clear hl0 hV0 hz hg0
        go_wp2
        go_ret
        refine ⟨?_, bw.trans (hbl.mono sa)⟩
        rw [HV0.out]
        exact ret_str digits_zero
      · have hE : S.toList.isEmpty = false := by
          rw [ByteArray.toList_eq, hS.out, hl1]
          have := (dval_decDigits V).2.2
          cases hD : Lib.decDigits V with
          | nil => rw [hD] at this; simp at this
          | cons => rfl
        have HSV : Hid (S = ⟨(Lib.decDigits V).toArray⟩) := by
          unfold Hid
          obtain ⟨⟨sl⟩⟩ := S
          have := hS.out
          rw [hl1] at this
          simp at this
          rw [this]
        clear hl1 hV1 hz hg0
        go_wp2
        go_ret
        refine ⟨?_, bw.trans (hbl.mono sa)⟩
        exact ret_str HSV.out
end Go.Proofs.YtibciilhfpgjjaaDoor

/- The document's Parse. -/
namespace Go.Proofs.YtibciilhfpgjjaaDoor
set_option linter.unusedVariables false
set_option linter.unusedSimpArgs false
open Go.RowKit

set_option maxRecDepth 100000 in
set_option maxHeartbeats 3200000 in
theorem refParse_any {w : World} (s : ByteArray) (l : List UInt8) (hl : Hid (s.data.toList = l)) (hb : l.length ≤ 100000) :
    Calls Tryd.prog 40 #[.string s] w fun e w' => Parses w l e w' := by
  have hsz : s.size = l.length := by rw [← hl.out]; rfl
  go_enter Tryd.func40, Tryd.ntmps40
  go_wp2
  go_loopw [4, 5] (fun nv ii wr => ∃ (i : Nat) (zs : List Int) (a : Option Addr) (c : Nat), i ≤ l.length ∧ ii = .int .i64 i ∧ nv = .slice a zs.length c ∧ can zs ∧ Hid (digs (l.take i) ∧ val zs = dval (l.take i)) ∧ zs.length ≤ 3 * i ∧ Hid (i = 0 → a = none ∧ c = 0) ∧ Own w.heap.size wr (.slice a zs.length c) zs ∧ Below w.heap.size w wr)
    (fun _ ii _ => l.length - (intOf ii).toNat)
  case atStart => exact ⟨0, [], none, 0, Nat.zero_le _, rfl, rfl, can_nil, ⟨(fun b hb => by simp at hb), rfl⟩, by simp, (fun _ => ⟨rfl, rfl⟩), own_nil _ _, Below.refl _ _⟩
  case round =>
    obtain ⟨i, zs, a, c, hi, rfl, rfl, cz, hdz, hzl, h00, oz, hbl⟩ := hrel
    have hs := hbl.size
    by_cases hlt : i < l.length
    · have his : i < s.size := by omega
      have hse : s[i].toNat = l[i].toNat := by rw [byte_at hl.out i hlt]
      have HM : Hid (l[i] ∈ l) := List.getElem_mem hlt
      have HT : Hid (48 ≤ l[i].toNat → l[i].toNat ≤ 57 → digs (l.take (i + 1)) ∧ dval (l.take (i + 1)) = dval (l.take i) * 10 + (l[i].toNat - 48)) := by
        intro h1 h2
        rw [List.take_succ_eq_append_getElem hlt]
        refine ⟨fun b hb => ?_, dval_snoc _ _⟩
        rw [List.mem_append] at hb
        rcases hb with hb | hb
        · exact hdz.out.1 b hb
        · rw [List.mem_singleton] at hb; subst hb; exact ⟨h1, h2⟩
      have HN : Hid (l[i].toNat < 48 ∨ 57 < l[i].toNat → ¬ isNum l) := by
        intro h hn
        have := hn.1 _ HM.out
        omega
      clear HM
      generalize l[i].toNat = D at *
      have hcs : D < 48 ∨ (¬ D < 48 ∧ 57 < D) ∨ (¬ D < 48 ∧ ¬ 57 < D) := by omega
      rcases hcs with h | ⟨h, h'⟩ | ⟨h, h'⟩
      · have HX : Hid (¬ isNum l) := HN.out (Or.inl h)
        go_wp2
        go_ret2
        exact ⟨hbl, fun h => absurd h HX.out, fun _ => rfl⟩
      · have HX : Hid (¬ isNum l) := HN.out (Or.inr h')
        go_wp2
        go_ret2
        exact ⟨hbl, fun h => absurd h HX.out, fun _ => rfl⟩
      · have HX := HT.out (by omega) (by omega)
        have HX2 : Hid (digs (l.take (i + 1)) ∧ ((dval (l.take (i + 1)) : Nat) : Int) = val zs * 10 + ((D : Int) - 48)) := ⟨HX.1, by rw [HX.2, hdz.out.2]; omega⟩
        clear HX HT HN
        have ozd : Own w.heap.size wr.drew (.slice a zs.length c) zs := oz
        have hz1 := (ozd.alloc (.cells #[.int .u32 10] 39)).rd
        have h10 : Own wr.drew.heap.size (wr.drew.alloc (.cells #[.int .u32 10] 39)) (.slice (some ⟨wr.drew.heap.size, 0, none⟩) 1 1) [10] := ⟨fun x hx => by simp at hx; omega, World.ownsRow_lit wr.drew #[.int .u32 10] 1 (Nat.le_refl _) (by unfold maxLen; omega) rfl⟩
        have bz1 : Below w.heap.size w (wr.drew.alloc (.cells #[.int .u32 10] 39)) := Below.alloc (⟨hbl.os, hbl.tape, hbl.output, hbl.size, hbl.block⟩ : Below w.heap.size w wr.drew) hs _
        have sz1 := bz1.size
        have hw8 : IntKind.u8.wrap ((D : Int) - 48) = (D : Int) - 48 := by rw [IntKind.wrap_u8]; omega
        have hw64 : IntKind.u64.wrap ((D : Int) - 48) = (D : Int) - 48 := by rw [IntKind.wrap_u64]; omega
        have hD0 : 0 ≤ (D : Int) - 48 ∧ (D : Int) - 48 < 10 := by omega
        have hlim2 : lim [((D : Int) - 48) % 4294967296, ((D : Int) - 48) / 4294967296] := by
          intro x hx
          simp at hx
          rcases hx with rfl | rfl <;> omega
        have HOF : Hid (can (tr [((D : Int) - 48) % 4294967296, ((D : Int) - 48) / 4294967296]) ∧ val (tr [((D : Int) - 48) % 4294967296, ((D : Int) - 48) / 4294967296]) = (D : Int) - 48 ∧ (tr [((D : Int) - 48) % 4294967296, ((D : Int) - 48) / 4294967296]).length ≤ 2) := ⟨tr_can hlim2, by rw [val_tr]; simp only [val]; omega, tr_length_le _⟩
        clear hlim2
        go_wp2
        go_region_with
          (first
          | (go_at_call 53; refine (refMul_any hz1 (Nat.le_refl _) h10.rd (Nat.le_refl _) (by omega) (by simp)).mono ?_; rintro e w2 ⟨us, cu, vu, lu, a3, c3, rfl, o3, b3⟩)
          | (go_at_call 20; refine (refOf_any ((D : Int) - 48) (by omega) (by omega) _).mono ?_; intro e w3 hm3; generalize tr [((D : Int) - 48) % 4294967296, ((D : Int) - 48) / 4294967296] = ds at *; obtain ⟨a4, c4, rfl, o4, b4⟩ := hm3)
          | (go_at_call 50; refine (refAdd_any (o3.below b4 (Nat.le_refl _)).rd (Nat.le_refl _) o4.rd (Nat.le_refl _) (by have : [(10 : Int)].length = 1 := rfl; omega) (by have := HOF.out; omega)).mono ?_; rintro e w5 ⟨rs, cr, vr, lr, a5, c5, rfl, o5, b5⟩))
        all_goals
          have HR : Hid (digs (l.take (i + 1)) ∧ val rs = dval (l.take (i + 1))) := ⟨HX2.out.1, by rw [vr, vu, HX2.out.2, HOF.out.2.1]; rfl⟩
          have hrl : rs.length ≤ 3 * (i + 1) := by
            have e10 : [(10 : Int)].length = 1 := rfl
            have := HOF.out.2.2
            omega
          have s2 := b3.size
          have s3 := b4.size
          have bw5 : Below w.heap.size w w5 := bz1.trans ((b3.mono sz1).trans ((b4.mono (by omega)).trans (b5.mono (by omega))))
          have o5w : Own w.heap.size w5 (.slice a5 rs.length c5) rs := o5.mono (by omega)
          clear vr vu lr lu o5 o4 o3 b3 b4 b5 hz1 h10 ozd bz1
          go_wp2
          go_roundw
          case rel => exact ⟨i + 1, rs, a5, c5, by omega, by go_num, rfl, cr, HR, hrl, (fun h => by omega), o5w, bw5⟩
          case measure => simp [intOf]; omega
    · obtain rfl : i = l.length := by omega
      have hd2 := hdz.out
      rw [List.take_length] at hd2
      have HD : Hid (digs l ∧ val zs = dval l) := hd2
      clear hd2
      by_cases h0 : 0 < l.length
      · have HN : Hid (isNum l) := ⟨HD.out.1, h0⟩
        go_wp2
        go_ret2
        exact ⟨hbl, fun _ => ⟨zs, a, c, cz, HD.out.2, rfl, oz⟩, fun h => absurd HN.out h⟩
      · have HN : Hid (¬ isNum l) := fun h => absurd h.2 h0
        obtain rfl : zs = [] := List.eq_nil_of_length_eq_zero (by omega)
        obtain ⟨rfl, rfl⟩ := h00.out (by omega)
        go_wp2
        go_ret2
        exact ⟨hbl, fun h => absurd h HN.out, fun _ => rfl⟩
end Go.Proofs.YtibciilhfpgjjaaDoor
