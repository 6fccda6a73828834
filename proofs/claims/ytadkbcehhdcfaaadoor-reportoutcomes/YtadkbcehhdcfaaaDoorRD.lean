/- Blanks: strings.Repeat of a blank, report.blanks. -/
import Derived.Test.YtadkbcehhdcfaaaDoorRC
import Derived.Test.YtadkbcehhdcfaaaDoorRB
import Derived.Lib.OthersKept
namespace Go.Proofs.YtadkbcehhdcfaaaDoor
set_option linter.unusedVariables false
set_option linter.unusedSimpArgs false
open Go.RowKit

def blk (k : Nat) : ByteArray := ⟨(List.replicate k (32 : UInt8)).toArray⟩
theorem blk_size (k : Nat) : (blk k).size = k := by simp [blk, ByteArray.size]
theorem repeat_list (c : Nat) : Lib.repeatL [(32 : UInt8)] c = List.replicate c 32 := by
  induction c with
  | zero => rfl
  | succ c ih => first | (rw [Lib.repeatL, ih]; rfl) | (simp [Lib.repeatL] at ih ⊢; simp [List.replicate_succ, ih])
theorem repeat_blank (c : Nat) (w : World) (hc : c ≤ 140737488355328) : Calls Tryd.prog 25 #[.string ⟨#[32]⟩, .int .i64 c] w fun e w' => e = .returned (.string (blk c)) ∧ Below w.heap.size w w' := by
  refine (Tryd.strings_Repeat ⟨#[32]⟩ c w (by omega) (by rw [show (⟨#[32]⟩ : ByteArray).size = 1 from rfl]; omega)).mono ?_
  rintro e w' ⟨rfl, hb⟩
  exact ⟨by rw [show (⟨#[32]⟩ : ByteArray).data.toList = [32] from rfl, repeat_list]; rfl, hb⟩

theorem builder_iterAt {T e : TypeId} {B b : Nat} {p : Value} {bs : List Value} {w : World} (h : Lib.BuilderAt T e B b p bs w) {k : Nat} {s : ByteArray} {pos : Nat} (hk : w.heap[k]? = some (.stringIter s pos)) (pos' : Nat) : Lib.BuilderAt T e B b p bs (w.iterAt k s pos') := by
  obtain ⟨hB, v, hb, hown, hne⟩ := h
  have hbk : b ≠ k := fun e1 => by rw [e1, hk] at hb; cases hb
  refine ⟨hB, v, by rw [Lib.iterAt_other w k b s pos' hbk]; exact hb, ?_, hne⟩
  obtain ⟨h1, h | ⟨g, cap, cur, hv, hg, hh, r⟩⟩ := hown
  · exact ⟨h1, Or.inl h⟩
  · have hgk : g ≠ k := fun e1 => by rw [e1, hk] at hh; cases hh
    exact ⟨h1, Or.inr ⟨g, cap, cur, hv, hg, by rw [Lib.iterAt_other w k g s pos' hgk]; exact hh, r⟩⟩
theorem isBuilder_iterAt {T e : TypeId} {B b : Nat} {bs : List Value} {w : World} (h : Lib.IsBuilder T e B b bs w) {k : Nat} {s : ByteArray} {pos : Nat} (hk : w.heap[k]? = some (.stringIter s pos)) (pos' : Nat) : Lib.IsBuilder T e B b bs (w.iterAt k s pos') := by
  rcases h with h | h
  · exact Or.inl (builder_iterAt h hk pos')
  · exact Or.inr (builder_iterAt h hk pos')
theorem iter_kept_set {w : World} {k : Nat} {s : ByteArray} {pos : Nat} (h : w.heap[k]? = some (.stringIter s pos)) {b off : Nat} (hb : b ≠ k) (v : Value) : (w.setCell ⟨b, off, none⟩ v).heap[k]? = some (.stringIter s pos) := by
  have : ¬ b = k := hb
  simp [World.setCell, Array.getElem?_modify, h, this]

/-- WriteString, where an iterator stands beside the builder. -/
theorem copyCheck_it (B b : Nat) (bs : List Value) (w : World) (h : Lib.IsBuilder 66 5 B b bs w) {k : Nat} {t : ByteArray} {pos : Nat} (hk : w.heap[k]? = some (.stringIter t pos)) (hbk : b ≠ k) :
    Calls Tryd.prog 53 #[.pointer (some ⟨b, 0, none⟩)] w fun e w' => e = .returned (.tuple #[]) ∧ (Lib.BuilderAt 66 5 B b (.pointer (some ⟨b, 0, none⟩)) bs w' ∧ Below B w w' ∧ w'.heap[k]? = some (.stringIter t pos)) := by
  rcases h with h | h
  · refine (copyCheck_fresh b w h.cell0 h.shape h.frozen0).mono ?_
    rintro e w' ⟨rfl, rfl⟩
    exact ⟨rfl, h.used _, (Below.refl B w).setCell (p := ⟨b, 0, none⟩) h.1 _, iter_kept_set hk hbk _⟩
  · refine (copyCheck_used b w h.cell0).mono ?_
    rintro e w' ⟨rfl, rfl⟩
    exact ⟨rfl, h, Below.refl B _, hk⟩
set_option maxHeartbeats 2000000 in
set_option maxRecDepth 100000 in
theorem writeString_it (B b : Nat) (bs : List Value) (s : ByteArray) (w : World) (h : Lib.IsBuilder 66 5 B b bs w) (hlen : bs.length + s.size ≤ 140737488355328) (hBw : B ≤ w.heap.size) {k : Nat} {t : ByteArray} {pos : Nat} (hk : w.heap[k]? = some (.stringIter t pos)) (hbk : b ≠ k) :
    Calls Tryd.prog 36 #[.pointer (some ⟨b, 0, none⟩), .string s] w fun e w' => e = .returned (.tuple #[.int .i64 s.size, .nilIface]) ∧ (Lib.BuilderAt 66 5 B b (.pointer (some ⟨b, 0, none⟩)) (bs ++ Lib.strCells s) w' ∧ Below B w w' ∧ w'.heap[k]? = some (.stringIter t pos)) := by
  obtain ⟨i0, hi, hz0, hz1, hz2⟩ := info_parts info_u8
  have HK : Hid (w.heap[k]? = some (.stringIter t pos)) := hk
  clear hk
  go_enter Tryd.func36, Tryd.ntmps36
  go_wp2_with (go_at_call 53; refine (copyCheck_it B b bs _ h HK.out hbk).mono ?_)
  rintro e w1 ⟨rfl, h1, hb1, hk1⟩
  have HK1 : Hid (w1.heap[k]? = some (.stringIter t pos)) := hk1
  clear hk1
  obtain ⟨hB, v, hbk2, hown, hne⟩ := h1
  have c0 : w1.cell? ⟨b, 0, none⟩ = some (.pointer (some ⟨b, 0, none⟩)) := by rw [Lib.cell_of_heap hbk2]; rfl
  have c1 : w1.cell? ⟨b, 1, none⟩ = some v := by rw [Lib.cell_of_heap hbk2]; rfl
  go_wp2_with (at_builtin; refine Lib.wpList_append_own_string _ rfl _ _ 64 9 rfl B 5 i0 Tryd.underlying64 Tryd.underlying9 hi hz0 hz1 hz2 _ _ _ rfl hown s rfl ?c3 ?c4 ?c5 ?_)
  case c3 => unfold maxLen; omega
  case c4 => omega
  case c5 => have := hb1.size; omega
  intro v' w2 hown' hgrow _
  have hlt : b < w1.heap.size := lt_of_block hbk2
  have HK2 : Hid (w2.heap[k]? = some (.stringIter t pos)) := by
    unfold Hid
    rw [hgrow.block k (Array.getElem?_eq_some_iff.1 HK1.out).1 ?_]
    · exact HK1.out
    · intro e
      rcases hown.2 with ⟨hv, _⟩ | ⟨g, cap, cur, hv, _, hh, _⟩
      · rw [hv] at e; cases e
      · rw [hv] at e
        cases e
        rw [HK1.out] at hh
        cases hh
  have hb2 : w2.heap[b]? = some (.cells #[.pointer (some ⟨b, 0, none⟩), v] 66 (0, 0)) := by
    rw [hgrow.block b hlt (fun e => hne e.symm)]
    exact hbk2
  have d0 : w2.cell? ⟨b, 0, none⟩ = some (.pointer (some ⟨b, 0, none⟩)) := by rw [Lib.cell_of_heap hb2]; rfl
  have d1 : w2.cell? ⟨b, 1, none⟩ = some v := by rw [Lib.cell_of_heap hb2]; rfl
  have f1 : w2.frozen? ⟨b, 1, none⟩ = false := Lib.frozen_of_heap hb2 1
  obtain ⟨ao, n', cap, rfl⟩ : ∃ ao n' cap, v' = .slice ao n' cap := by
    rcases hown'.2 with ⟨hv, _⟩ | ⟨g, cap, cur, hv, _⟩
    · exact ⟨_, _, _, hv⟩
    · exact ⟨_, _, _, hv⟩
  go_wp2
  go_ret2
  refine ⟨rfl, ?_, ?_, iter_kept_set HK2.out hbk _⟩
  · exact Lib.BuilderAt.put (T := 66) (e := 5) hB hb2 (bs' := bs ++ Lib.strCells s) (by simpa [Lib.strCells_length] using hown') (by decide)
  · exact (hb1.grown hgrow (by have := hb1.size; omega) (fun k hk => (hown.lt k hk).1)).setCell (p := ⟨b, 1, none⟩) hB _

/-- How many blanks ahead of a place in a text. -/
def atF (text : ByteArray) (at' : Int) : Nat := min (Lib.runeCount text) at'.toNat
theorem cells_blk (k : Nat) : Lib.byteCells (List.replicate k 32) ++ Lib.strCells ⟨#[32]⟩ = Lib.byteCells (List.replicate (k + 1) 32) := by
  rw [Lib.strCells_eq, ← Lib.byteCells_append, List.replicate_succ']
set_option maxRecDepth 100000 in
set_option maxHeartbeats 3200000 in
theorem blanks_any (s : ByteArray) (at' : Int) (w : World) (hs : s.size ≤ 140737488355328) :
    Calls Tryd.prog 27 #[.string s, .int .i64 at'] w fun e w' => e = .returned (.string (blk (atF s at'))) ∧ Below w.heap.size w w' := by
  go_enter Tryd.func27, Tryd.ntmps27
  go_wp2
  go_loopw [] (fun wr => ∃ (pos fuel cnt : Nat), cnt ≤ pos ∧ pos ≤ s.size ∧ Hid (cnt ≤ at'.toNat) ∧ Hid (cnt + Lib.runeCountFrom s fuel pos = Lib.runeCount s) ∧ s.size ≤ pos + fuel ∧ wr.heap[w.heap.size + 1]? = some (.stringIter s pos) ∧ Hid (Lib.IsBuilder 66 5 w.heap.size w.heap.size (Lib.byteCells (List.replicate cnt 32)) wr) ∧ Below w.heap.size w wr) (fun wr => s.size - wr.iterPos (w.heap.size + 1))
  case atStart =>
    refine ⟨0, s.size, 0, by omega, by omega, Nat.zero_le _, (by unfold Hid; simp [Lib.runeCount]), by omega, ?_, ?_, ?_⟩
    · have h := World.iter_heap (w.alloc (.cells #[.pointer none, .slice none 0 0] 66)) s 0
      simpa using h
    · have hX := (boxA_new w #[.pointer none, .slice none 0 0] 66).below (below_alloc _ (.stringIter s 0)) (by simp)
      exact Or.inl ⟨Nat.le_refl _, .slice none 0 0, hX, World.ownsRow_nil _ _ _ _, fun h => by cases h⟩
    · exact (below_alloc w _).alloc (by simp) _
  case round =>
    obtain ⟨pos, fuel, cnt, hc, hps, HA, HC, hf, hit, HB, hb⟩ := hrel
    have hsz : w.heap.size + 1 < wr.heap.size := (Array.getElem?_eq_some_iff.1 hit).1
    by_cases hp : pos < s.size
    · have hnx : ∀ ty, (Instr.next (.pointer (some ⟨w.heap.size + 1, 0, none⟩)) true ty).run Tryd.prog wr = _ := fun ty => Lib.run_next_any_at wr (w.heap.size + 1) s pos ty hit hp
      have hwd := Lib.decode_width_pos s pos hp
      have hle : pos + (Utf8.decode s pos).2 ≤ s.size := dec_end s pos hp
      obtain ⟨f, rfl⟩ : ∃ f, fuel = f + 1 := ⟨fuel - 1, by omega⟩
      have HS : Hid (Lib.runeCountFrom s (f + 1) pos = 1 + Lib.runeCountFrom s f (pos + (Utf8.decode s pos).2)) := by
        unfold Hid
        rw [Lib.runeCountFrom, if_pos hp]
      have hit2 := Lib.iterAt_heap wr (w.heap.size + 1) s pos (pos + (Utf8.decode s pos).2) hit
      have hb2 := Lib.below_iterAt hb (k := w.heap.size + 1) (by omega) s (pos + (Utf8.decode s pos).2)
      have HB2 : Hid _ := isBuilder_iterAt HB.out hit (pos + (Utf8.decode s pos).2)
      have HQ : Hid (wr.iterPos (w.heap.size + 1) = pos) := by unfold Hid; simp only [World.iterPos, hit]
      have HC2 : Hid (cnt + 1 + Lib.runeCountFrom s f (pos + (Utf8.decode s pos).2) = Lib.runeCount s) := by unfold Hid; have := HC.out; have := HS.out; omega
      have hs2 : w.heap.size + 1 < (wr.iterAt (w.heap.size + 1) s (pos + (Utf8.decode s pos).2)).heap.size := by rw [Lib.iterAt_size]; exact hsz
      generalize (Utf8.decode s pos).2 = n at *
      generalize (Utf8.decode s pos).1 = C at *
      generalize wr.iterAt (w.heap.size + 1) s (pos + n) = W2 at *
      clear HS HC hit hb HB
      go_wp2_with fail
      refine (Tryd.Builder_Len w.heap.size w.heap.size _ W2 HB2.out).mono ?_
      rintro e w3 ⟨rfl, hw⟩
      obtain rfl := hw
      rw [Lib.byteCells_length, List.length_replicate]
      by_cases hge : at' ≤ (cnt : Int)
      · have HE : Hid (blk (atF s at') = ⟨(List.replicate cnt (32 : UInt8)).toArray⟩) := by
          unfold Hid atF
          rw [show min (Lib.runeCount s) at'.toNat = cnt by have := HA.out; have := HC2.out; omega]
          rfl
        have hg : decide (at' ≤ (cnt : Int)) = true := decide_eq_true hge
        clear HQ
        go_wp2_with fail
        refine (Tryd.Builder_String_any w.heap.size w.heap.size (List.replicate cnt 32) w3 HB2.out (by omega)).mono ?_
        rintro e w4 ⟨rfl, k4⟩
        go_wp2
        go_ret
        exact ⟨by rw [HE.out]; rfl, hb2.trans k4⟩
      · have hg : ¬ at' ≤ (cnt : Int) := hge
        have HA2 : Hid (cnt + 1 ≤ at'.toNat) := by unfold Hid; omega
        go_wp2_with fail
        refine (writeString_it w.heap.size w.heap.size _ ⟨#[32]⟩ w3 HB2.out (by rw [Lib.byteCells_length, List.length_replicate]; have : (⟨#[32]⟩ : ByteArray).size = 1 := rfl; omega) (by omega) hit2 (by omega)).mono ?_
        rintro e w4 ⟨rfl, hB4, k4, hit4⟩
        rw [cells_blk] at hB4
        have HB4 : Hid (Lib.IsBuilder 66 5 w.heap.size w.heap.size (Lib.byteCells (List.replicate (cnt + 1) 32)) w4) := Or.inr hB4
        have hb4 := hb2.trans k4
        clear hB4 k4 hb2 HB2
        go_wp2
        go_roundw
        case rel => exact ⟨pos + n, f, cnt + 1, by omega, by omega, HA2, HC2, by omega, hit4, HB4, hb4⟩
        case measure =>
          rw [HQ.out]
          simp only [World.iterPos, hit4]
          omega
    · have hnx : ∀ ty, (Instr.next (.pointer (some ⟨w.heap.size + 1, 0, none⟩)) true ty).run Tryd.prog wr = _ := fun ty => Lib.run_next_end_at wr (w.heap.size + 1) s pos ty hit hp
      have HE : Hid (blk (atF s at') = ⟨(List.replicate cnt (32 : UInt8)).toArray⟩) := by
        unfold Hid atF
        rw [show min (Lib.runeCount s) at'.toNat = cnt by have := HA.out; have := HC.out; rw [Lib.runeCountFrom_end s fuel pos hp] at this; omega]
        rfl
      go_wp2_with fail
      refine (Tryd.Builder_String_any w.heap.size w.heap.size (List.replicate cnt 32) wr HB.out (by omega)).mono ?_
      rintro e w4 ⟨rfl, k4⟩
      go_wp2
      go_ret
      exact ⟨by rw [HE.out]; rfl, hb.trans k4⟩
end Go.Proofs.YtadkbcehhdcfaaaDoor

/- An error's report: report.Lines. -/
namespace Go.Proofs.YtadkbcehhdcfaaaDoor
set_option linter.unusedVariables false
set_option linter.unusedSimpArgs false
open Go.RowKit

def linesF (e : Int) (name : ByteArray) (line : Int) (text : ByteArray) (at' : Int) : List ByteArray :=
  if e = 0 then [] else [textF e, prefF name line ++ text, blk (Lib.runeCount (prefF name line)) ++ blk (atF text at') ++ ⟨#[94]⟩]
theorem owS_three (w : World) (a b c : ByteArray) : OwS w.heap.size (w.alloc (.cells #[.string a, .string b, .string c] 9)) (.slice (some ⟨w.heap.size, 0, none⟩) 3 3) [a, b, c] :=
  ⟨rfl, Or.inr ⟨w.heap.size, 3, #[.string a, .string b, .string c], rfl, Nat.le_refl _, heap_alloc_new w _, Nat.le_refl _, by unfold maxLen; omega, rfl, rfl⟩⟩
theorem owS_none (base : Nat) (w : World) : OwS base w (.slice none 0 0) [] := World.ownsRow_nil _ _ _ _
theorem OwS.up {base B : Nat} {w : World} {v : Value} {ss : List ByteArray} (h : OwS base w v ss) (hB : B ≤ base) : OwS B w v ss := by
  obtain ⟨h1, h | ⟨g, cap, cur, hv, hg, hh, r⟩⟩ := h
  · exact ⟨h1, Or.inl h⟩
  · exact ⟨h1, Or.inr ⟨g, cap, cur, hv, by omega, hh, r⟩⟩

set_option maxRecDepth 100000 in
set_option maxHeartbeats 6400000 in
theorem repLines_any (e : Int) (name text : ByteArray) (line at' : Int) (w : World) (hn : name.size ≤ 140737488351232) (ht : text.size ≤ 140737488351232) (h0 : -9223372036854775808 ≤ line) (h1 : line ≤ 9223372036854775807) (e0 : -9223372036854775808 ≤ e) (e1 : e ≤ 9223372036854775807) (hT : TabT w) (htab : Lib.TabIs Tryd.prog w "internal/strconv.uint64pow10" .u64 Lib.pow10Tab) :
    Calls Tryd.prog 14 #[.int .i64 e, .agg #[.string name, .int .i64 line, .string text, .int .i64 at']] w fun r w' => ∃ v, r = .returned v ∧ OwS w.heap.size w' v (linesF e name line text at') ∧ Below w.heap.size w w' := by
  have X := boxA_new w #[.string name, .int .i64 line, .string text, .int .i64 at'] 29
  have g := below_alloc w (.cells #[.string name, .int .i64 line, .string text, .int .i64 at'] 29)
  by_cases hE : e = 0
  · have HL : Hid (linesF e name line text at' = []) := by unfold Hid linesF; rw [if_pos hE]
    have hb : (e == 0) = true := by rw [beq_iff_eq]; exact hE
    clear hE hT htab
    go_enter Tryd.func14, Tryd.ntmps14
    go_wp2
    go_ret
    exact ⟨_, rfl, by rw [HL.out]; exact owS_none _ _, g⟩
  have HL : Hid (linesF e name line text at' = [textF e, prefF name line ++ text, blk (Lib.runeCount (prefF name line)) ++ blk (atF text at') ++ ⟨#[94]⟩]) := by unfold Hid linesF; rw [if_neg hE]
  have hb : (e == 0) = false := by rw [beq_eq_false_iff_ne]; exact hE
  clear hE
  have c0 := X.cell 0 rfl
  have c1 := X.cell 1 rfl
  have c2 := X.cell 2 rfl
  have c3 := X.cell 3 rfl
  have hTv : TabT (w.alloc (.cells #[.string name, .int .i64 line, .string text, .int .i64 at'] 29)) := hT.below g hT.lt
  have htv := Lib.tabIs_alloc htab (.cells #[.string name, .int .i64 line, .string text, .int .i64 at'] 29)
  have hP := fun W h => repPrefix_any name text line at' W (by omega) h0 h1 h
  have hps := prefF_size name line h0 h1
  have hTx := fun W hW h => repText_any e e0 e1 W hW h
  have hrc : Lib.runeCount (prefF name line) ≤ (prefF name line).size := Lib.runeCount_le _
  have hrt : atF text at' ≤ text.size := by unfold atF; have := Lib.runeCount_le text; omega
  have hbl := fun W => blanks_any text at' W (by omega)
  have z1 := blk_size (Lib.runeCount (prefF name line))
  have z2 := blk_size (atF text at')
  have hR := fun W => repeat_blank (Lib.runeCount (prefF name line)) W (by omega)
  have hWd := fun W => showWidth_any (prefF name line) W (by omega)
  generalize prefF name line = P at *
  generalize Lib.runeCount P = rc at *
  generalize blk rc = B1 at *
  generalize blk (atF text at') = B2 at *
  generalize textF e = TX at *
  clear hT htab
  go_enter Tryd.func14, Tryd.ntmps14
  go_wp2_with fail
  clear c0 c1 c2 c3
  generalize hA : w.alloc (.cells #[.string name, .int .i64 line, .string text, .int .i64 at'] 29) = v at *
  clear hA
  refine (hP v htv).mono ?_
  rintro r w1 ⟨rfl, b1⟩
  have T1 := hTv.below b1 hTv.lt
  have H1 := tabIs_below htv b1
  have X1 := X.below b1 X.lt
  have g1 := g.trans (b1.mono g.size)
  clear hTv htv X g hP
  go_wp2
  have hcells : ∀ {w' : World}, Below w1.heap.size w1 w' → w'.cell? ⟨w.heap.size, 2, none⟩ = some (.string text) ∧ w'.cell? ⟨w.heap.size, 3, none⟩ = some (.int .i64 at') := fun hb => ⟨(X1.below hb X1.lt).cell 2 rfl, (X1.below hb X1.lt).cell 3 rfl⟩
  have d2 := X1.cell 2 rfl
  have d3 := X1.cell 3 rfl
  have q0 : ¬ 9223372036854775807 < P.size + text.size := by omega
  have q1 : ¬ 9223372036854775807 < B1.size + B2.size := by omega
  have q2 : ¬ 9223372036854775807 < B1.size + B2.size + 1 := by omega
  have q3 : ¬ 9223372036854775807 < (B1 ++ B2).size + (⟨#[94]⟩ : ByteArray).size := by rw [ByteArray.size_append]; have : (⟨#[94]⟩ : ByteArray).size = 1 := rfl; omega
  clear z1 z2
  go_region_held3 (fun w' => w'.cell? ⟨w.heap.size, 2, none⟩ = some (.string text) ∧ w'.cell? ⟨w.heap.size, 3, none⟩ = some (.int .i64 at'))
    (first | (go_keep; done) | exact t1 | exact t2 | exact t3 | exact t4)
    (first
      | (go_at_call 11; refine (hTx w1.drew (T1.below ⟨rfl, rfl, rfl, Nat.le_refl _, fun _ _ => rfl⟩ T1.lt) H1).mono ?_; rintro e wa ⟨rfl, k1'⟩; have ba : Below w1.heap.size w1 wa := below_undrew k1'; have t1 := hcells ba)
      | (have j := t1; go_at_call 26; refine (hWd _).mono ?_; rintro e wb ⟨rfl, k2⟩; have bb : Below w1.heap.size w1 wb := ba.trans (k2.mono ba.size); have t2 := hcells bb)
      | (have j := t2; go_at_call 25; refine (hR _).mono ?_; rintro e wc ⟨rfl, k3⟩; have bc : Below w1.heap.size w1 wc := bb.trans (k3.mono bb.size); have t3 := hcells bc)
      | (have j := t3; go_at_call 27; refine (hbl _).mono ?_; rintro e wd ⟨rfl, k4⟩; have bd : Below w1.heap.size w1 wd := bc.trans (k4.mono bc.size); have t4 := hcells bd))
  all_goals
    have gd := g1.trans (bd.mono g1.size)
    have hO := owS_three wd TX (P ++ text) (B1 ++ B2 ++ ⟨#[94]⟩)
    go_wp2
    go_ret
    exact ⟨_, rfl, by rw [HL.out]; exact hO.up gd.size, gd.alloc gd.size _⟩
end Go.Proofs.YtadkbcehhdcfaaaDoor

/- glyphlaw14.live; ReportBack. -/
namespace Go.Proofs.YtadkbcehhdcfaaaDoor
set_option linter.unusedVariables false
set_option linter.unusedSimpArgs false
open Go.RowKit

theorem RdS.three {B : Nat} {w : World} {v : Value} {a b c : ByteArray} (h : RdS B w v [a, b, c]) : ∃ g o cap, v = .slice (some ⟨g, o, none⟩) 3 cap ∧ 3 ≤ cap ∧ cap ≤ 9223372036854775807 ∧ w.cell? ⟨g, o, none⟩ = some (.string a) ∧ w.cell? ⟨g, o + 1, none⟩ = some (.string b) ∧ w.cell? ⟨g, o + 2, none⟩ = some (.string c) := by
  obtain ⟨ad, cap, h1, h2, h3, h4, h5⟩ := h
  rcases h5 with h5 | ⟨g, o, rfl, hg, hc⟩
  · cases h5
  · exact ⟨g, o, cap, h1, h2, h3, hc 0 (by simp), hc 1 (by simp), hc 2 (by simp)⟩
theorem live_lines : linesF 5 ⟨#[]⟩ 0 ⟨#[49, 32, 50, 43, 49, 32, 50, 32, 51]⟩ 3 = [⟨#[76, 69, 78, 71, 84, 72, 32, 69, 82, 82, 79, 82]⟩, ⟨#[32, 32, 32, 32, 32, 32, 49, 32, 50, 43, 49, 32, 50, 32, 51]⟩, ⟨#[32, 32, 32, 32, 32, 32, 32, 32, 32, 94]⟩] := by decide +kernel
set_option maxRecDepth 100000 in
set_option maxHeartbeats 1600000 in
theorem live14_ok (w : World) (hT : TabT w) (htab : Lib.TabIs Tryd.prog w "internal/strconv.uint64pow10" .u64 Lib.pow10Tab) :
    Calls Tryd.prog 10 #[] w fun e w' => e = .returned (.bool true) ∧ Below w.heap.size w w' := by
  go_enter Tryd.func10, Tryd.ntmps10
  go_wp2_with fail
  refine (repLines_any 5 ⟨#[]⟩ ⟨#[49, 32, 50, 43, 49, 32, 50, 32, 51]⟩ 0 3 w (by decide) (by decide) (by decide) (by decide) (by decide) (by decide) hT htab).mono ?_
  rintro r w1 ⟨v, rfl, hO, b1⟩
  have hR := RdS.of_row hO
  rw [live_lines] at hR
  obtain ⟨g, o, cap, rfl, hc1, hc2, k0, k1, k2⟩ := hR.three
  clear hR hO
  go_wp2
  go_ret
  exact ⟨rfl, b1⟩
theorem parse_back (k : Nat) (hk : k < 9) : parseF (textF ((k : Int) + 1)) = ((k : Int) + 1, true) := by
  have : k = 0 ∨ k = 1 ∨ k = 2 ∨ k = 3 ∨ k = 4 ∨ k = 5 ∨ k = 6 ∨ k = 7 ∨ k = 8 := by omega
  rcases this with rfl | rfl | rfl | rfl | rfl | rfl | rfl | rfl | rfl <;> decide +kernel
theorem parse_defn : parseF (textF 28) = (28, true) := by decide +kernel
theorem textF_size (e : Int) (h0 : -9223372036854775808 ≤ e) (h1 : e ≤ 9223372036854775807) : (textF e).size ≤ 300 := by
  unfold textF
  by_cases h : 0 ≤ e ∧ e < 10
  · rw [if_pos h]
    have : e.toNat = 0 ∨ e.toNat = 1 ∨ e.toNat = 2 ∨ e.toNat = 3 ∨ e.toNat = 4 ∨ e.toNat = 5 ∨ e.toNat = 6 ∨ e.toNat = 7 ∨ e.toNat = 8 ∨ e.toNat = 9 := by omega
    rcases this with h | h | h | h | h | h | h | h | h | h <;> (rw [h]; decide +kernel)
  · rw [if_neg h]
    by_cases h28 : e = 28
    · rw [if_pos h28]; decide +kernel
    · rw [if_neg h28, ByteArray.size_append]
      have := decB_size e h0 h1
      have e6 : (⟨#[69, 82, 82, 79, 82, 32]⟩ : ByteArray).size = 6 := rfl
      omega
set_option maxRecDepth 100000 in
set_option maxHeartbeats 1600000 in
theorem reportBack_walk (n : Nat) (hn : n < 256) (w : World) (hT : TabT w) (htab : Lib.TabIs Tryd.prog w "internal/strconv.uint64pow10" .u64 Lib.pow10Tab) :
    Calls Tryd.prog 6 #[.int .u8 (n : Int)] w fun e w' => e = .returned (.bool true) ∧ Below w.heap.size w w' := by
  obtain ⟨k, hk⟩ : ∃ k, n % 9 = k := ⟨_, rfl⟩
  have hk9 : k < 9 := by omega
  have hm : (n : Int) % 9 = (k : Int) := by omega
  have hw1 : IntKind.u8.wrap ((k : Int) + 1) = (k : Int) + 1 := by rw [IntKind.wrap_u8]; omega
  have hw2 : IntKind.i64.wrap ((k : Int) + 1) = (k : Int) + 1 := by rw [IntKind.wrap_i64]; omega
  have HP : Hid (parseF (textF ((k : Int) + 1)) = ((k : Int) + 1, true)) := parse_back k hk9
  clear hk
  go_enter Tryd.func6, Tryd.ntmps6
  go_wp2_with fail
  refine (repText_any ((k : Int) + 1) (by omega) (by omega) w hT htab).mono ?_
  rintro r w1 ⟨rfl, b1⟩
  have T1 := hT.below b1 hT.lt
  have H1 := tabIs_below htab b1
  have hz1 := textF_size ((k : Int) + 1) (by omega) (by omega)
  go_wp2_with fail
  have hq := repParse_any (textF ((k : Int) + 1)) w1 T1 (by omega)
  rw [HP.out] at hq
  refine hq.mono ?_
  clear hq hz1 HP
  rintro r w2 ⟨rfl, b2⟩
  have T2 := T1.below b2 T1.lt
  have H2 := tabIs_below H1 b2
  have g2 := b1.trans (b2.mono b1.size)
  clear T1 H1 b1 b2 hT htab
  go_wp2_with fail
  refine (repText_any 28 (by omega) (by omega) w2 T2 H2).mono ?_
  rintro r w3 ⟨rfl, b3⟩
  have T3 := T2.below b3 T2.lt
  have H3 := tabIs_below H2 b3
  have g3 := g2.trans (b3.mono g2.size)
  clear T2 H2 b3 g2
  have hz2 := textF_size 28 (by omega) (by omega)
  go_wp2_with fail
  have hq := repParse_any (textF 28) w3 T3 (by omega)
  rw [parse_defn] at hq
  refine hq.mono ?_
  clear hq hz2
  rintro r w4 ⟨rfl, b4⟩
  have T4 := T3.below b4 T3.lt
  have H4 := tabIs_below H3 b4
  have g4 := g3.trans (b4.mono g3.size)
  clear T3 H3 b4 g3
  go_wp2_with fail
  refine (live14_ok w4 T4 H4).mono ?_
  rintro r w5 ⟨rfl, b5⟩
  have g5 := g4.trans (b5.mono g4.size)
  go_wp2
  go_ret
  exact ⟨rfl, g5⟩
end Go.Proofs.YtadkbcehhdcfaaaDoor
