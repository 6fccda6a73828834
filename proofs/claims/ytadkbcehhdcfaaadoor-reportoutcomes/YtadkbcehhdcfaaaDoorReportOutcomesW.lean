/- ReportOutcomes: the walk. -/
import Derived.Test.YtadkbcehhdcfaaaDoorRJ
namespace Go.Proofs.YtadkbcehhdcfaaaDoor
set_option linter.unusedVariables false
set_option linter.unusedSimpArgs false
open Go.RowKit

/-- Of a row of one's own the cells up to i may be turned; nothing else is. -/
def TurnedL (gl : Nat) (cur : Array Value) (w wr : World) (i : Nat) : Prop := (∀ k, k ≠ gl → wr.heap[k]? = w.heap[k]?) ∧ Below gl w wr ∧ ∃ cur', wr.heap[gl]? = some (.cells cur' 9 (0, 0)) ∧ cur'.size = cur.size ∧ ∀ j, i ≤ j → cur'[j]? = cur[j]?
theorem TurnedL.drew {gl : Nat} {cur : Array Value} {w wr : World} {i : Nat} (h : TurnedL gl cur w wr i) (q : Nat) : TurnedL gl cur w (wr.drewN q) i := ⟨h.1, h.2.1.trans (below_drewS q), h.2.2⟩
theorem TurnedL.set {gl : Nat} {cur : Array Value} {w wr : World} {i : Nat} (h : TurnedL gl cur w wr i) (v : Value) : TurnedL gl cur w (wr.setCell ⟨gl, i, none⟩ v) (i + 1) := by
  obtain ⟨h1, h2, cur', h3, h4, h5⟩ := h
  refine ⟨fun k hk => ?_, h2.setCell (p := ⟨gl, i, none⟩) (Nat.le_refl _) _, cur'.setIfInBounds i v, ?_, by simp [h4], fun j hj => ?_⟩
  · rw [Below.heap_setCell _ _ _ _ (fun e => hk e)]
    exact h1 k hk
  · simp [World.setCell, Array.getElem?_modify, h3]
  · rw [Array.getElem?_setIfInBounds_ne (by omega)]
    exact h5 j (by omega)
theorem TurnedL.cell {gl : Nat} {cur : Array Value} {w wr : World} {i : Nat} (h : TurnedL gl cur w wr i) {v : Value} (hv : cur[i]? = some v) : wr.cell? ⟨gl, i, none⟩ = some v ∧ wr.frozen? ⟨gl, i, none⟩ = false := by
  obtain ⟨h1, h2, cur', h3, h4, h5⟩ := h
  constructor
  · rw [Lib.cell_of_heap h3, h5 i (Nat.le_refl _)]
    exact hv
  · exact Lib.frozen_of_heap h3 i
theorem cell_other {w wr : World} {k : Nat} (h : wr.heap[k]? = w.heap[k]?) (j : Nat) : wr.cell? ⟨k, j, none⟩ = w.cell? ⟨k, j, none⟩ := by simp [World.cell?, h]
theorem OwS.open {base : Nat} {w : World} {v : Value} {ss : List ByteArray} (h : OwS base w v ss) (h0 : 0 < ss.length) : ∃ g cap cur, v = .slice (some ⟨g, 0, none⟩) ss.length cap ∧ base ≤ g ∧ g < w.heap.size ∧ ss.length ≤ cap ∧ cap ≤ 9223372036854775807 ∧ w.heap[g]? = some (.cells cur 9 (0, 0)) ∧ ∀ j, j < ss.length → cur[j]? = some (.string (ss.getD j noT)) := by
  have h' := h
  obtain ⟨h1, ⟨hv, hn⟩ | ⟨g, cap, cur, hv, hg, hh, r1, r2, r3, r4⟩⟩ := h'
  · omega
  · subst hv
    refine ⟨g, cap, cur, rfl, hg, lt_of_block hh, r1, r2, hh, fun j hj => ?_⟩
    have h2 := World.ownsRow.cellAt h j (by omega)
    rw [getD_mapS hj] at h2
    rw [← h2, Lib.cell_of_heap hh]
set_option maxRecDepth 100000 in
set_option maxHeartbeats 6400000 in
theorem reportOutcomes_walk (a : Option Addr) (c : Nat) (ss : List ByteArray) (e : Int) (name text : ByteArray) (line at' used : Int) (w : World) (hR : RdS w.heap.size w (.slice a ss.length c) ss) (hsl : ss.length * 16 ≤ 140737488351232) (hn : name.size ≤ 140737488351232) (ht : text.size ≤ 140737488351232) (h0 : -9223372036854775808 ≤ line) (h1 : line ≤ 9223372036854775807) (e0 : -9223372036854775808 ≤ e) (e1 : e ≤ 9223372036854775807) (hT : TabT w) (htab : Lib.TabIs Tryd.prog w "internal/strconv.uint64pow10" .u64 Lib.pow10Tab) :
    Calls Tryd.prog 5 #[.agg #[.slice a ss.length c, .int .i64 e, .string name, .int .i64 line, .string text, .int .i64 at', .int .i64 used]] w fun r w' => r = .returned (.bool true) ∧ Below w.heap.size w w' := by
  have X := boxA_new w #[.slice a ss.length c, .int .i64 e, .string name, .int .i64 line, .string text, .int .i64 at', .int .i64 used] 40
  have g := below_alloc w (.cells #[.slice a ss.length c, .int .i64 e, .string name, .int .i64 line, .string text, .int .i64 at', .int .i64 used] 40)
  have HS : Hid (RdS (w.alloc (.cells #[.slice a ss.length c, .int .i64 e, .string name, .int .i64 line, .string text, .int .i64 at', .int .i64 used] 40)).heap.size (w.alloc (.cells #[.slice a ss.length c, .int .i64 e, .string name, .int .i64 line, .string text, .int .i64 at', .int .i64 used] 40)) (.slice a ss.length c) ss) := (hR.below g (Nat.le_refl _)).mono g.size
  have kOut := fun W hr hW h => repOutcome_any a c ss e name text line at' used W hr hsl hn ht h0 h1 e0 e1 hW h
  have kRef := fun (a2 : Option Addr) (c2 : Nat) W hr => refOutcome_any a2 c2 ss e name text line at' 0 W hr hsl hn ht h0 h1 e0 e1
  have kWh := fun W => where_any name text line at' W
  have hll : (ss ++ linesF e name line text at').length ≤ ss.length + 3 := by
    rw [List.length_append]
    have : (linesF e name line text at').length ≤ 3 := by unfold linesF; split <;> simp
    omega
  generalize ss ++ linesF e name line text at' = LL at *
  have HR0 : Hid (RdS w.heap.size w (.slice a ss.length c) ss) := hR
  have HT : Hid (TabT w) := hT
  have HB : Hid (Lib.TabIs Tryd.prog w "internal/strconv.uint64pow10" .u64 Lib.pow10Tab) := htab
  clear hR hT htab
  have d0 := X.cell 0 rfl
  have d1 := X.cell 1 rfl
  have d2 := X.cell 2 rfl
  have d3 := X.cell 3 rfl
  have d4 := X.cell 4 rfl
  have d5 := X.cell 5 rfl
  have d6 := X.cell 6 rfl
  go_enter Tryd.func5, Tryd.ntmps5
  go_wp2_with (at_builtin; refine append_strs rfl _ _ rfl rfl rfl (base := w.heap.size + 1) (xs := []) (owS_none _ _) HS.out (by simp; omega) (by simp) ?_)
  intro v1 w1 o1 hgr
  have b1 : Below (w.heap.size + 1) (w.alloc (.cells #[.slice a ss.length c, .int .i64 e, .string name, .int .i64 line, .string text, .int .i64 at', .int .i64 used] 40)) w1 := (Below.refl _ _).grown hgr (by simp) (fun k hk => by cases hk)
  have X1 := X.below b1 (by omega)
  have g1 : Below w.heap.size w w1 := g.trans (b1.mono (by omega))
  obtain ⟨x1, y1, rfl⟩ := row_form2S o1
  have HO1 : Hid (RdS w1.heap.size w1 (.slice x1 ss.length y1) ss) := RdS.of_row o1
  clear d0 d1 d2 d3 d4 d5 d6 hgr HS X o1 b1 g
  have d0 := X1.cell 0 rfl
  have d1 := X1.cell 1 rfl
  have d2 := X1.cell 2 rfl
  have d3 := X1.cell 3 rfl
  have d4 := X1.cell 4 rfl
  have d5 := X1.cell 5 rfl
  have d6 := X1.cell 6 rfl
  go_wp2_with fail
  refine (kOut w1 ((HR0.out.below g1 (Nat.le_refl _)).mono g1.size) (HT.out.below g1 HT.out.lt) (tabIs_below HB.out g1)).mono ?_
  rintro r w2 ⟨v2, rfl, o2, b2⟩
  obtain ⟨x2, y2, rfl⟩ := row_form2S o2
  have X2 := X1.below b2 X1.lt
  clear d0 d1 d2 d3 d4 d5 d6 kOut
  have d1 := X2.cell 1 rfl
  have d2 := X2.cell 2 rfl
  have d3 := X2.cell 3 rfl
  have d4 := X2.cell 4 rfl
  have d5 := X2.cell 5 rfl
  have hcells : ∀ {w' : World}, Below w2.heap.size w2 w' → w'.cell? ⟨w.heap.size, 0, none⟩ = some (.slice a ss.length c) ∧ w'.cell? ⟨w.heap.size, 1, none⟩ = some (.int .i64 e) ∧ w'.cell? ⟨w.heap.size, 2, none⟩ = some (.string name) ∧ w'.cell? ⟨w.heap.size, 3, none⟩ = some (.int .i64 line) ∧ w'.cell? ⟨w.heap.size, 4, none⟩ = some (.string text) ∧ w'.cell? ⟨w.heap.size, 5, none⟩ = some (.int .i64 at') := fun hb => ⟨(X2.below hb X2.lt).cell 0 rfl, (X2.below hb X2.lt).cell 1 rfl, (X2.below hb X2.lt).cell 2 rfl, (X2.below hb X2.lt).cell 3 rfl, (X2.below hb X2.lt).cell 4 rfl, (X2.below hb X2.lt).cell 5 rfl⟩
  have d0 := X2.cell 0 rfl
  have HO2 : Hid (RdS w2.heap.size w2 (.slice x1 ss.length y1) ss) := HO1.out.over b2
  go_wp2
  go_region_held3 (fun w' => w'.cell? ⟨w.heap.size, 0, none⟩ = some (.slice a ss.length c) ∧ w'.cell? ⟨w.heap.size, 1, none⟩ = some (.int .i64 e) ∧ w'.cell? ⟨w.heap.size, 2, none⟩ = some (.string name) ∧ w'.cell? ⟨w.heap.size, 3, none⟩ = some (.int .i64 line) ∧ w'.cell? ⟨w.heap.size, 4, none⟩ = some (.string text) ∧ w'.cell? ⟨w.heap.size, 5, none⟩ = some (.int .i64 at'))
    (first | (go_keep; done) | exact t2 | exact t1)
    (first
      | (have j := t1; go_at_call 20; refine (kRef x1 y1 _ (HO2.out.over ba)).mono ?_; rintro r w3 ⟨v3, rfl, o3, k3⟩; have bb : Below w2.heap.size w2 w3 := ba.trans (k3.mono ba.size); have t2 := hcells bb)
      | (go_at_call 16; refine (kWh w2.drew).mono ?_; rintro r wa ⟨rfl, k1⟩; have ba : Below w2.heap.size w2 wa := below_undrew k1; have t1 := hcells ba))
  obtain ⟨x3, y3, rfl⟩ := row_form2S o3
  have hsa := ba.size
  have hsb := k3.size
  clear d0 d1 d2 d3 d4 d5 t1 t2
  by_cases hL0 : 0 < LL.length
  · obtain ⟨gl, cap2, cur, hv2, hgl, hgl2, hcl1, hcl2, hhl, hcl⟩ := o2.open hL0
    obtain ⟨hq1, _, hq3⟩ := Value.slice.inj hv2
    subst hq1 hq3
    obtain ⟨gm, cap3, cum, hv3, hgm, hgm2, hcm1, hcm2, hhm, hcm⟩ := o3.open hL0
    obtain ⟨hq1, _, hq3⟩ := Value.slice.inj hv3
    subst hq1 hq3
    have hh3 : w3.heap[gl]? = some (.cells cur 9 (0, 0)) := by rw [bb.block gl hgl2]; exact hhl
    have TU0 : TurnedL gl cur w3 w3 0 := ⟨fun _ _ => rfl, Below.refl _ _, cur, hh3, rfl, fun _ _ => rfl⟩
    have hne : gm ≠ gl := by omega
    have B13 : Below w1.heap.size w1 w3 := b2.trans (bb.mono b2.size)
    have hgw : w1.heap.size ≤ gl := hgl
    clear hv2 hv3 o2 o3 hhl hh3 bb ba k3 b2 HO2 hcells X2
    go_wp2
    go_loopw [6] (fun iv wr => ∃ i : Nat, i ≤ LL.length ∧ iv = .int .i64 i ∧ Hid (TurnedL gl cur w3 wr i)) (fun iv _ => LL.length - (intOf iv).toNat)
    case atStart => exact ⟨0, Nat.zero_le _, rfl, TU0⟩
    case round =>
      obtain ⟨i, hi, rfl, TU⟩ := hrel
      by_cases hlt : i < LL.length
      · have q1 := TU.out.cell (hcl i hlt)
        obtain ⟨q1, q2⟩ := q1
        have q3 : wr.cell? ⟨gm, i, none⟩ = some (.string (LL.getD i noT)) := by
          rw [cell_other (TU.out.1 gm hne) i, Lib.cell_of_heap hhm]
          exact hcm i hlt
        generalize LL.getD i noT = p at *
        have TU2 : ∀ q, Hid (TurnedL gl cur w3 ((wr.drewN q).setCell ⟨gl, i, none⟩ (.string ⟨#[63]⟩)) (i + 1)) := fun q => (TU.out.drew q).set _
        clear TU hcl hcm
        go_wp2
        go_quiet (fail)
        go_wp2
        go_roundw
        case rel => exact ⟨i + 1, by omega, by go_num, TU2 _⟩
        case measure => simp [intOf]; omega
      · have B1 : Below w1.heap.size w1 wr := B13.trans (TU.out.2.1.mono hgw)
        clear TU hcl hcm hhm
        have GW : Below w.heap.size w wr := g1.trans (B1.mono g1.size)
        have XW := X1.below B1 X1.lt
        have d0 := XW.cell 0 rfl
        go_wp2_with fail
        refine (live14_ok wr (HT.out.below GW HT.out.lt) (tabIs_below HB.out GW)).mono ?_
        rintro r w5 ⟨rfl, b5⟩
        have B5 : Below w1.heap.size w1 w5 := B1.trans (b5.mono B1.size)
        have G5 : Below w.heap.size w w5 := GW.trans (b5.mono GW.size)
        have XV := X1.below B5 X1.lt
        clear d0
        have d0 := XV.cell 0 rfl
        go_wp2_with fail
        refine (sameTexts_bl (HR0.out.below G5 (Nat.le_refl _)) (HO1.out.below B5 (Nat.le_refl _))).mono ?_
        rintro r w6 ⟨rfl, b6⟩
        go_wp2
        go_ret
        exact ⟨rfl, G5.trans (b6.mono G5.size)⟩
  · have hz : (LL.length : Int) = 0 := by omega
    have B1 : Below w1.heap.size w1 w3 := b2.trans (bb.mono b2.size)
    have HZ : Hid (LL.length = 0) := by unfold Hid; omega
    clear o2 o3 bb ba k3 b2 HO2 hcells X2
    go_wp2
    go_loopw [6] (fun iv wr => iv = .int .i64 0 ∧ wr = w3) (fun _ _ => 0)
    case atStart => exact ⟨rfl, rfl⟩
    case round =>
      obtain ⟨rfl, hw⟩ := hrel
      obtain rfl := hw.symm
      have GW : Below w.heap.size w w3 := g1.trans (B1.mono g1.size)
      have XW := X1.below B1 X1.lt
      have d0 := XW.cell 0 rfl
      go_wp2_with fail
      refine (live14_ok w3 (HT.out.below GW HT.out.lt) (tabIs_below HB.out GW)).mono ?_
      rintro r w5 ⟨rfl, b5⟩
      have B5 : Below w1.heap.size w1 w5 := B1.trans (b5.mono B1.size)
      have G5 : Below w.heap.size w w5 := GW.trans (b5.mono GW.size)
      have XV := X1.below B5 X1.lt
      clear d0
      have d0 := XV.cell 0 rfl
      go_wp2_with fail
      refine (sameTexts_bl (HR0.out.below G5 (Nat.le_refl _)) (HO1.out.below B5 (Nat.le_refl _))).mono ?_
      rintro r w6 ⟨rfl, b6⟩
      go_wp2
      go_ret
      exact ⟨rfl, G5.trans (b6.mono G5.size)⟩
end Go.Proofs.YtadkbcehhdcfaaaDoor
