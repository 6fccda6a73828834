/- The document's header. -/
import Derived.Test.YtflkclphchafaaaGreatDoorRC
import Derived.Test.YtflkclphchafaaaGreatDoorDC
import Derived.Deep.RegionHeld3
import Derived.Deep.CutBlock
namespace Go.Proofs.YtflkclphchafaaaGreatDoor
set_option linter.unusedVariables false
set_option linter.unusedSimpArgs false
open Go.RowKit

theorem OwS.setLow {base : Nat} {w : World} {v : Value} {ss : List ByteArray} (h : OwS base w v ss) {q i : Nat} (hq : q < base) (x : Value) : OwS base (w.setCell ⟨q, i, none⟩ x) v ss := by
 obtain ⟨h1, h | ⟨g, cap, cur, hv, hg, hh, r⟩⟩ := h
 · exact ⟨h1, Or.inl h⟩
 · have hne : ¬ q = g := by omega
   exact ⟨h1, Or.inr ⟨g, cap, cur, hv, hg, by simp [World.setCell, Array.getElem?_modify, hh, hne], r⟩⟩
theorem OwS.openD {base : Nat} {w : World} {a : Option Addr} {c : Nat} {ss : List ByteArray} (h : OwS base w (.slice a ss.length c) ss) (h0 : 0 < ss.length) : ∃ g, a = some ⟨g, 0, none⟩ ∧ base ≤ g ∧ g < w.heap.size ∧ ss.length ≤ c ∧ c ≤ 9223372036854775807 ∧ ∀ j, j < ss.length → w.cell? ⟨g, j, none⟩ = some (.string (ss.getD j noT)) := by
 have h' := h
 obtain ⟨h1, ⟨hv, hn⟩ | ⟨g, cap, cur, hv, hg, hh, r1, r2, r3, r4⟩⟩ := h'
 · omega
 · obtain ⟨rfl, _, rfl⟩ := Value.slice.inj hv
   refine ⟨g, rfl, hg, lt_of_block hh, r1, r2, fun j hj => ?_⟩
   rw [World.ownsRow.cellAt h j (by omega)]
   exact getD_mapS hj
theorem hd_one {r : ByteArray} {xs : List ByteArray} (h : xs.length = 1) (ls : List ByteArray) : hdOf r ls xs = some ⟨xs.getD 0 noT, r, noT, noT, ls⟩ := by
 match xs, h with
 | [n], _ => rfl
theorem hd_two {r : ByteArray} {xs : List ByteArray} (h : xs.length = 2) (ls : List ByteArray) : hdOf r ls xs = some ⟨xs.getD 0 noT, r, noT, xs.getD 1 noT, ls⟩ := by
 match xs, h with
 | [n, a], _ => rfl
theorem hd_three {r : ByteArray} {xs : List ByteArray} (h : xs.length = 3) (ls : List ByteArray) : hdOf r ls xs = some ⟨xs.getD 1 noT, r, xs.getD 0 noT, xs.getD 2 noT, ls⟩ := by
 match xs, h with
 | [l, n, a], _ => rfl
theorem hd_none {r : ByteArray} {xs : List ByteArray} (h1 : ¬ xs.length = 1) (h2 : ¬ xs.length = 2) (h3 : ¬ xs.length = 3) (ls : List ByteArray) : hdOf r ls xs = none := by
 match xs, h1, h2, h3 with
 | [], _, _, _ => rfl
 | [_], h, _, _ => exact absurd rfl h
 | [_, _], _, h, _ => exact absurd rfl h
 | [_, _, _], _, _, h => exact absurd rfl h
 | _ :: _ :: _ :: _ :: _, _, _, _ => rfl
theorem emptyD (x : ByteArray) : x.toList.isEmpty = decide (x = noT) := by
 rw [ByteArray.toList_eq]
 by_cases h : x = noT
 · rw [decide_eq_true h, h]; rfl
 · rw [decide_eq_false h]
   obtain ⟨⟨l⟩⟩ := x
   cases l with
   | nil => exact absurd rfl h
   | cons => rfl
theorem box_app {wr w' W : World} (O : Obj) {q ty : Nat} {xs : Array Value} {row : Option Nat} (h : BoxA wr q ty xs) (hg : W.grownBy w' row) (hW : W.heap = (wr.alloc O).heap) (hr : row ≠ some q) : BoxA w' q ty xs := by
 have hlt := h.lt
 have h2 := h.below (below_alloc wr O) hlt
 unfold BoxA at h2 ⊢
 rw [hg.block q (by rw [hW, World.size_alloc]; omega) (fun e => hr e.symm), hW]
 exact h2
theorem rds_pre {B : Nat} {w : World} {a : Option Addr} {n c : Nat} {ss : List ByteArray} (h : RdS B w (.slice a n c) ss) {i : Nat} (hi : i ≤ ss.length) : RdS B w (.slice a (ss.take i).length c) (ss.take i) := by
 obtain ⟨a', c', h1, h2, h3, h3', h4⟩ := h
 obtain ⟨rfl, _, rfl⟩ := Value.slice.inj h1
 refine ⟨a, c, rfl, by rw [List.length_take]; omega, h3, h3', ?_⟩
 rcases h4 with h4 | ⟨g, o, h4, h5, h6⟩
 · left; rw [h4]; simp
 · refine Or.inr ⟨g, o, h4, h5, fun j hj => ?_⟩
   rw [List.length_take] at hj
   rw [h6 j (by omega)]
   congr 2
   simp only [List.getD_eq_getElem?_getD, List.getElem?_take]
   rw [if_pos (by omega)]
theorem owS_up {base B : Nat} {w : World} {v : Value} {ss : List ByteArray} (h : OwS base w v ss) (hB : B ≤ base) : OwS B w v ss := by
 obtain ⟨h1, h | ⟨g, cap, cur, hv, hg, hh, r⟩⟩ := h
 · exact ⟨h1, Or.inl h⟩
 · exact ⟨h1, Or.inr ⟨g, cap, cur, hv, by omega, hh, r⟩⟩
theorem fn_set0 {w : World} {R ty : Nat} {u0 u1 u2 u3 u4 u5 u6 u7 u8 : Value} (h : BoxA w R ty #[u0, u1, u2, u3, u4, u5, u6, u7, u8]) (v0 : Value) : BoxA (w.setCell ⟨R, 0, none⟩ v0) R ty #[v0, u1, u2, u3, u4, u5, u6, u7, u8] := by
 unfold BoxA at h ⊢
 simp [World.setCell, Array.getElem?_modify, h]
theorem fn_set2 {w : World} {R ty : Nat} {u0 u1 u2 u3 u4 u5 u6 u7 u8 : Value} (h : BoxA w R ty #[u0, u1, u2, u3, u4, u5, u6, u7, u8]) (v2 : Value) : BoxA (w.setCell ⟨R, 2, none⟩ v2) R ty #[u0, u1, v2, u3, u4, u5, u6, u7, u8] := by
 unfold BoxA at h ⊢
 simp [World.setCell, Array.getElem?_modify, h]
theorem fn_set3 {w : World} {R ty : Nat} {u0 u1 u2 u3 u4 u5 u6 u7 u8 : Value} (h : BoxA w R ty #[u0, u1, u2, u3, u4, u5, u6, u7, u8]) (v3 : Value) : BoxA (w.setCell ⟨R, 3, none⟩ v3) R ty #[u0, u1, u2, v3, u4, u5, u6, u7, u8] := by
 unfold BoxA at h ⊢
 simp [World.setCell, Array.getElem?_modify, h]
theorem fn_set4 {w : World} {R ty : Nat} {u0 u1 u2 u3 u4 u5 u6 u7 u8 : Value} (h : BoxA w R ty #[u0, u1, u2, u3, u4, u5, u6, u7, u8]) (v4 : Value) : BoxA (w.setCell ⟨R, 4, none⟩ v4) R ty #[u0, u1, u2, u3, v4, u5, u6, u7, u8] := by
 unfold BoxA at h ⊢
 simp [World.setCell, Array.getElem?_modify, h]
theorem fn_set1 {w : World} {R ty : Nat} {u0 u1 u2 u3 u4 u5 u6 u7 u8 : Value} (h : BoxA w R ty #[u0, u1, u2, u3, u4, u5, u6, u7, u8]) (v1 : Value) : BoxA (w.setCell ⟨R, 1, none⟩ v1) R ty #[u0, v1, u2, u3, u4, u5, u6, u7, u8] := by
 unfold BoxA at h ⊢
 simp [World.setCell, Array.getElem?_modify, h]
theorem BoxA.other' {w : World} {B ty : Nat} {xs : Array Value} (h : BoxA w B ty xs) {p : Addr} (hp : p.block ≠ B) (v : Value) : BoxA (w.setCell p v) B ty xs := by
 unfold BoxA at h ⊢
 have : ¬ p.block = B := hp
 simp [World.setCell, Array.getElem?_modify, h, this]
set_option maxRecDepth 100000 in
set_option maxHeartbeats 16000000 in
theorem refHeader_any {w : World} {er : Int} {T : List Tk} (s : ByteArray) {o : Option Hd} (HO : Hid (o = if er = 0 then headF T else none)) (kAll : Calls Tryz.prog 20 #[.string s] (w.alloc (.cells fn0 25)) (ToksIs (w.alloc (.cells fn0 25)) er T)) :
    Calls Tryz.prog 19 #[.string s] w (HeaderIs w o s) := by
 have k0 := below_alloc w (.cells fn0 25)
 have F0 := boxA_new w fn0 25
 generalize hW0 : w.alloc (.cells fn0 25) = w0 at *
 have s0 : w0.heap.size = w.heap.size + 1 := by rw [← hW0]; simp
 go_enter Tryz.func19, Tryz.ntmps19
 go_wp2_with fail
 clear hW0
 refine kAll.mono ?_
 rintro e w1 ⟨hcase, k1⟩
 have s1 := k1.size
 have g1 : Below w.heap.size w w1 := k0.trans (k1.mono (by omega))
 have F1 := F0.below k1 (by omega)
 clear k0 F0 k1 kAll
 rcases hcase with ⟨her, g, c, rfl, hc1, hc2, hg, hT⟩ | ⟨her, v, p, rfl⟩
 rotate_left
 · have HN : Hid (o = none) := by unfold Hid; rw [HO.out, if_neg her]
   have e1 : (er != 0) = true := by rw [bne_iff_ne]; exact her
   clear her
   obtain ⟨z0, z1, z2, z3, z4, z5, z6, z7, z8⟩ := cells9 F1
   obtain ⟨y0, y1, y2, y3, y4, y5, y6, y7, y8⟩ := frozen9 F1
   obtain ⟨wz, hWwz, Z, kz⟩ := put0 F1 g1 (by omega)
   obtain ⟨d0, d1, d2, d3, d4, d5, d6, d7, d8⟩ := cells9 Z
   go_wp2
   refine bodyPost_ret (v := .tuple #[.agg fn0, .int .i64 28]) (by simp [results, Tryz.results19, go_sem, d0, d1, d2, d3, d4, d5, d6, d7, d8]) rfl ?_
   exact ⟨Or.inr ⟨HN.out, rfl⟩, kz⟩
 have HD : Hid (o = headF T) := by unfold Hid; rw [HO.out, if_pos her]
 clear her HO
 have HT : Hid (TokRR w1.heap.size w1 g T) := hT
 have hfew := hT.few
 have h0 : 0 < T.length := hT.row.endT.pos
 clear hT
 go_upto_region 6 with fail
 have k2 := (below_alloc w1 (.cells #[.string s] 9)).alloc (by simp) (.cells (fnV ⟨#[]⟩ ⟨#[]⟩ ⟨#[]⟩ ⟨#[]⟩ (.slice none 0 0) (.slice none 0 0) (.slice none 0 0) (.slice (some ⟨w1.heap.size, 0, none⟩) 1 1) false) 25)
 have L2 := (boxA_new w1 #[.string s] 9).below (below_alloc _ (.cells (fnV ⟨#[]⟩ ⟨#[]⟩ ⟨#[]⟩ ⟨#[]⟩ (.slice none 0 0) (.slice none 0 0) (.slice none 0 0) (.slice (some ⟨w1.heap.size, 0, none⟩) 1 1) false) 25)) (by simp)
 have N2 := boxA_new (w1.alloc (.cells #[.string s] 9)) (fnV ⟨#[]⟩ ⟨#[]⟩ ⟨#[]⟩ ⟨#[]⟩ (.slice none 0 0) (.slice none 0 0) (.slice none 0 0) (.slice (some ⟨w1.heap.size, 0, none⟩) 1 1) false) 25
 rw [World.size_alloc] at N2
 have s2 : ((w1.alloc (.cells #[.string s] 9)).alloc (.cells (fnV ⟨#[]⟩ ⟨#[]⟩ ⟨#[]⟩ ⟨#[]⟩ (.slice none 0 0) (.slice none 0 0) (.slice none 0 0) (.slice (some ⟨w1.heap.size, 0, none⟩) 1 1) false) 25)).heap.size = w1.heap.size + 1 + 1 := by simp
 generalize hW2 : (w1.alloc (.cells #[.string s] 9)).alloc (.cells (fnV ⟨#[]⟩ ⟨#[]⟩ ⟨#[]⟩ ⟨#[]⟩ (.slice none 0 0) (.slice none 0 0) (.slice none 0 0) (.slice (some ⟨w1.heap.size, 0, none⟩) 1 1) false) 25) = v at *
 clear hW2
 have F2 := F1.below k2 (by omega)
 have g2 := g1.trans (k2.mono (by omega))
 have HT2 : Hid (TokRR w1.heap.size v g T) := HT.out.below k2 (Nat.le_refl _)
 have s2' : w1.heap.size + 1 < v.heap.size := by omega
 clear s2 F1 g1 HT k2
 have x0 := HT2.out.kd 0 h0
 have x1 := HT2.out.tx 0 h0
 obtain ⟨b1, p1⟩ := tx_isD (ttx T 1) arwT [226, 134, 144] rfl
 go_cut [46] from 23 to 46 (fun q wx => q = .bool (decide (tkd T 0 = 3 ∧ ttx T 1 = arwT)) ∧ wx = v)
 case first =>
  by_cases hl2 : 2 < T.length
  · have hl2i : (2 : Int) < (T.length : Int) := by omega
    have y0 := HT2.out.kd 1 (by omega)
    have y1 := HT2.out.tx 1 (by omega)
    have h6 : ttx T 1 = arwT → tkd T 1 = 6 := fun h => HT2.out.row.six (Or.inl h)
    by_cases h3 : tkd T 0 = 3
    · rw [h3] at x0
      by_cases ha : ttx T 1 = arwT
      · have HD2 : Hid (decide (tkd T 0 = 3 ∧ ttx T 1 = arwT) = true) := decide_eq_true ⟨h3, ha⟩
        rw [h6 ha] at y0
        rw [decide_eq_true ha] at b1
        have p2 := p1.2 ha
        generalize decide (tkd T 0 = 3 ∧ ttx T 1 = arwT) = DD at *
        generalize ttx T 1 = u1 at *
        generalize ttx T 0 = u0 at *
        clear h3 ha h6 p1 HT2 HD
        go_wp2_with fail
        go_meet
        exact ⟨by rw [HD2.out], rfl⟩
      · have HD2 : Hid (decide (tkd T 0 = 3 ∧ ttx T 1 = arwT) = false) := decide_eq_false (fun h => ha h.2)
        rw [decide_eq_false ha] at b1
        have p2 : ¬ (ttx T 1).toList = [226, 134, 144] := fun h => ha (p1.1 h)
        generalize decide (tkd T 0 = 3 ∧ ttx T 1 = arwT) = DD at *
        generalize ttx T 1 = u1 at *
        generalize ttx T 0 = u0 at *
        clear h3 ha h6 p1 HT2 HD
        by_cases h6 : tkd T 1 = 6
        · rw [h6] at y0
          clear h6
          go_wp2_with fail
          go_meet
          exact ⟨by rw [HD2.out], rfl⟩
        · have e6 : (tkd T 1 == 6) = false := by rw [beq_eq_false_iff_ne]; exact h6
          generalize tkd T 1 = z1 at *
          clear h6
          go_wp2_with fail
          go_meet
          exact ⟨by rw [HD2.out], rfl⟩
    · have HD2 : Hid (decide (tkd T 0 = 3 ∧ ttx T 1 = arwT) = false) := decide_eq_false (fun h => h3 h.1)
      have e3 : (tkd T 0 == 3) = false := by rw [beq_eq_false_iff_ne]; exact h3
      generalize decide (tkd T 0 = 3 ∧ ttx T 1 = arwT) = DD at *
      generalize tkd T 0 = z0 at *
      clear h3 h6 p1 b1 y0 y1 HT2 HD
      go_wp2_with fail
      go_meet
      exact ⟨by rw [HD2.out], rfl⟩
  · have hl2i : ¬ (2 : Int) < (T.length : Int) := by omega
    have HD2 : Hid (decide (tkd T 0 = 3 ∧ ttx T 1 = arwT) = false) := decide_eq_false (fun h => hl2 (HT2.out.row.less (k := 1) (Or.inr (by rw [h.2]; decide))).2)
    generalize decide (tkd T 0 = 3 ∧ ttx T 1 = arwT) = DD at *
    clear p1 b1 HT2 HD
    go_wp2_with fail
    go_meet
    exact ⟨by rw [HD2.out], rfl⟩
 case rest =>
  obtain ⟨hq, hwc⟩ := hcut
  obtain rfl := hwc.symm
  subst hq
  clear x0 x1 b1 p1
  generalize hDD : decide (tkd T 0 = 3 ∧ ttx T 1 = arwT) = DD at *
  have HDD : Hid (decide (tkd T 0 = 3 ∧ ttx T 1 = arwT) = DD) := hDD
  clear hDD
  go_upto_if 46 with fail
  go_cut [8] from 47 to 51 (fun av wx => av = .int .i64 (resK T) ∧ BoxA wx (w1.heap.size + 1) 25 (fnV ⟨#[]⟩ (resT T) ⟨#[]⟩ ⟨#[]⟩ (.slice none 0 0) (.slice none 0 0) (.slice none 0 0) (.slice (some ⟨w1.heap.size, 0, none⟩) 1 1) false) ∧ BoxA wx w.heap.size 25 fn0 ∧ BoxA wx w1.heap.size 9 #[.string s] ∧ TokRR w1.heap.size wx g T ∧ wx.heap.size = v.heap.size ∧ Below w.heap.size w wx)
  case first =>
   cases DD with
   | true =>
    have hres : tkd T 0 = 3 ∧ ttx T 1 = arwT := of_decide_eq_true HDD.out
    have HK : Hid (resK T = 2) := by unfold Hid resK; rw [if_pos hres]
    have HR : Hid (resT T = ttx T 0) := by unfold Hid resT; rw [if_pos hres]
    have x1 := HT2.out.tx 0 h0
    rw [← HR.out] at x1
    have c1 := N2.cell 1 rfl
    have f1 := N2.frozen 1
    have N3 := fn_set1 N2 (.string (resT T))
    have F3 := F2.other' (p := ⟨w1.heap.size + 1, 1, none⟩) (by simp; omega) (.string (resT T))
    have L3 := L2.other' (p := ⟨w1.heap.size + 1, 1, none⟩) (by simp) (.string (resT T))
    have k3 : Below w1.heap.size v (v.setCell ⟨w1.heap.size + 1, 1, none⟩ (.string (resT T))) := (Below.refl _ _).setCell (p := ⟨w1.heap.size + 1, 1, none⟩) (by simp) _
    have HT3 := HT2.out.below k3 (Nat.le_refl _)
    have g3 := g2.trans (k3.mono (by omega))
    have z3 : (v.setCell ⟨w1.heap.size + 1, 1, none⟩ (.string (resT T))).heap.size = v.heap.size := by simp [World.setCell]
    have HS3 : Hid _ := And.intro N3 (And.intro F3 (And.intro L3 (And.intro HT3 (And.intro z3 g3))))
    generalize resT T = RT at *
    clear hres HD HDD N3 F3 L3 HT3 g3 z3 k3
    go_wp2_with fail
    go_meet
    exact ⟨by rw [HK.out]; rfl, HS3.out⟩
   | false =>
    have hres : ¬ (tkd T 0 = 3 ∧ ttx T 1 = arwT) := of_decide_eq_false HDD.out
    have HK : Hid (resK T = 0) := by unfold Hid resK; rw [if_neg hres]
    have HR : Hid (resT T = noT) := by unfold Hid resT; rw [if_neg hres]
    clear hres HD HDD
    go_wp2_with fail
    go_meet
    exact ⟨by rw [HK.out]; rfl, by rw [HR.out]; exact N2, F2, L2, HT2.out, rfl, g2⟩
  case rest =>
   obtain ⟨wb, hwb⟩ : ∃ wb, wb = wc := ⟨wc, rfl⟩
   subst hwb
   obtain ⟨hq8, N3, F3, L3, hT3, z3, g3⟩ := hcut
   subst hq8
   have HT3 : Hid (TokRR w1.heap.size wb g T) := hT3
   have hK : resK T < T.length := resK_lt hT3.row.endT
   have s3 : w1.heap.size + 1 < wb.heap.size := by omega
   clear hT3 N2 F2 L2 HT2 z3 g2 s2' HDD
   obtain ⟨NS, hNS⟩ : ∃ NS, namesOfF T = NS := ⟨_, rfl⟩
   have HNS2 : Hid (namesOfF T = NS) := hNS
   have HNS : Hid (namF T T.length (resK T) = NS) := hNS
   clear hNS
   generalize hrk : resK T = rk at *
   have HRK : Hid (resK T = rk) := hrk
   clear hrk
   go_wp2
   go_loopw [8, 9] (fun av nv wr => ∃ (k : Nat) (xs : List ByteArray) (ao : Option Addr) (co : Nat), av = .int .i64 k ∧ nv = .slice ao xs.length co ∧ Hid (k = rk + xs.length) ∧ xs.length ≤ k ∧ k < T.length ∧ Hid (xs ++ namF T T.length k = NS) ∧ OwS wb.heap.size wr (.slice ao xs.length co) xs ∧ Below wb.heap.size wb wr) (fun av _ _ => T.length - (intOf av).toNat)
   case atStart => exact ⟨rk, [], none, 0, rfl, rfl, rfl, Nat.zero_le _, hK, HNS, World.ownsRow_nil _ _ _ _, Below.refl _ _⟩
   case round =>
    obtain ⟨k, xs, ao, co, rfl, rfl, HK, hxk, hk, HX, hO, hb⟩ := hrel
    have hs := hb.size
    have HTr : Hid (TokRR w1.heap.size wr g T) := HT3.out.below hb (by omega)
    have q0 := HTr.out.kd k hk
    have q1 := HTr.out.tx k hk
    by_cases h3 : tkd T k = 3
    · have hk1 := (HTr.out.row.three h3).2
      have HX2 : Hid ((xs ++ [ttx T k]) ++ namF T T.length (k + 1) = NS) := by
       unfold Hid
       rw [← HX.out, namF_step HTr.out.row.endT hk h3, List.append_assoc]
       rfl
      have HK2 : Hid (k + 1 = rk + (xs ++ [ttx T k]).length) := by unfold Hid; rw [List.length_append, List.length_singleton, HK.out]; omega
      rw [h3] at q0
      generalize ttx T k = x at *
      have hN : RdS (wr.heap.size + 1) (wr.alloc (.cells #[.string x] 9)) (.slice (some ⟨wr.heap.size, 0, none⟩) 1 1) [x] := rdS_new1 wr x
      have hO1 : OwS wb.heap.size (wr.alloc (.cells #[.string x] 9)) (.slice ao xs.length co) xs := hO.alloc _
      have hb1 : Below wb.heap.size wb (wr.alloc (.cells #[.string x] 9)) := hb.alloc hs _
      clear HTr HX HK h3 hb hO
      go_wp2_with (at_builtin; refine append_strs rfl _ _ rfl rfl rfl (ys := [x]) hO1 hN (by show (_ + 1) * 16 ≤ _; omega) (by simp; omega) ?_)
      intro v' w' hO2 hgr
      have hb2 : Below wb.heap.size wb w' := hb1.grown hgr hb1.size (fun k hk => (hO1.lt k hk).1)
      obtain ⟨a2, c2, rfl⟩ := row_form2S hO2
      have hlx : (xs ++ [x]).length = xs.length + 1 := by simp
      clear hO1 hN hb1 hgr
      go_wp2
      go_roundw
      case rel => exact ⟨k + 1, xs ++ [x], a2, c2, by go_num, rfl, HK2, by rw [hlx]; omega, hk1, HX2, hO2, hb2⟩
      case measure => simp [intOf]; omega
    · have e3 : (tkd T k == 3) = false := by rw [beq_eq_false_iff_ne]; exact h3
      have HX2 : Hid (xs = NS) := by
       have := HX.out
       rw [namF_stop _ h3, List.append_nil] at this
       exact this
      have HKE : Hid (k = rk + NS.length) := by unfold Hid; rw [HK.out, HX2.out]
      generalize hz : tkd T k = z at *
      clear HX h3 hz HK
      have N4 := N3.below hb (by omega)
      have F4 := F3.below hb (by omega)
      have L4 := L3.below hb (by omega)
      have g4 := g3.trans (hb.mono (by omega))
      have HO4 : Hid (OwS wb.heap.size wr (.slice ao xs.length co) xs) := hO
      clear hb hO N3 F3 L3 g3 HT3 HNS
      go_upto_block 2 with fail
      go_cut [] from 70 to 100 (fun wx => ∃ nm lf rt, Hid (∀ ls, hdOf (resT T) ls xs = some ⟨nm, resT T, lf, rt, ls⟩) ∧ BoxA wx (w1.heap.size + 1) 25 (fnV nm (resT T) lf rt (.slice none 0 0) (.slice none 0 0) (.slice none 0 0) (.slice (some ⟨w1.heap.size, 0, none⟩) 1 1) false) ∧ BoxA wx w.heap.size 25 fn0 ∧ BoxA wx w1.heap.size 9 #[.string s] ∧ TokRR w1.heap.size wx g T ∧ wx.heap.size = wr.heap.size ∧ OwS wb.heap.size wx (.slice ao xs.length co) xs ∧ Below w.heap.size w wx)
      case first =>
       by_cases h1 : xs.length = 1
       · have hl : xs.length = 1 := h1
         clear h1
         have e1 : ((xs.length : Int) == 1) = true := by first | (rw [beq_iff_eq]; omega) | (rw [beq_eq_false_iff_ne]; omega)
         obtain ⟨gn, rfl, hgn, hgn2, hcn, hcn2, hcc⟩ := HO4.out.openD (by omega)
         have r0 := hcc 0 (by omega)
         have i0 : (0 : Int) < (xs.length : Int) := by omega
         have HH : Hid (∀ ls, hdOf (resT T) ls xs = some _) := fun ls => hd_one hl ls
         generalize xs.getD 0 noT = m0 at *
         have c0 := N4.cell 0 rfl
         have f0 := N4.frozen 0
         have N5 := (fn_set0 N4 (.string m0))
         have F5 := (F4.other' (p := ⟨w1.heap.size + 1, 0, none⟩) (by simp <;> omega) (.string m0))
         have L5 := (L4.other' (p := ⟨w1.heap.size + 1, 0, none⟩) (by simp <;> omega) (.string m0))
         have O5 := (HO4.out.setLow (q := w1.heap.size + 1) (i := 0) (by omega) (.string m0))
         have k5 : Below w1.heap.size wr (wr.setCell ⟨w1.heap.size + 1, 0, none⟩ (.string m0)) := ((Below.refl w1.heap.size wr).setCell (p := ⟨w1.heap.size + 1, 0, none⟩) (by simp) (.string m0))
         have T5 := HTr.out.below k5 (Nat.le_refl _)
         have g5 := g4.trans (k5.mono (by omega))
         have z5 : (wr.setCell ⟨w1.heap.size + 1, 0, none⟩ (.string m0)).heap.size = wr.heap.size := by simp [World.setCell]
         have HA : Hid _ := And.intro N5 (And.intro F5 (And.intro L5 (And.intro T5 (And.intro z5 (And.intro O5 g5)))))
         have hqn : ¬ gn = w1.heap.size + 1 := by omega
         have hqn2 : ¬ w1.heap.size + 1 = gn := by omega
         clear N5 F5 L5 T5 z5 O5 g5 k5 hl HTr hcc HO4 HD
         go_wp2_with fail
         go_meet
         exact ⟨_, _, _, HH, HA.out⟩
       by_cases h2 : xs.length = 2
       · have hl : xs.length = 2 := h2
         clear h1 h2
         have e1 : ((xs.length : Int) == 1) = false := by first | (rw [beq_iff_eq]; omega) | (rw [beq_eq_false_iff_ne]; omega)
         have e2 : ((xs.length : Int) == 2) = true := by first | (rw [beq_iff_eq]; omega) | (rw [beq_eq_false_iff_ne]; omega)
         obtain ⟨gn, rfl, hgn, hgn2, hcn, hcn2, hcc⟩ := HO4.out.openD (by omega)
         have r0 := hcc 0 (by omega)
         have r1 := hcc 1 (by omega)
         have i0 : (0 : Int) < (xs.length : Int) := by omega
         have i1 : (1 : Int) < (xs.length : Int) := by omega
         have HH : Hid (∀ ls, hdOf (resT T) ls xs = some _) := fun ls => hd_two hl ls
         generalize xs.getD 0 noT = m0 at *
         generalize xs.getD 1 noT = m1 at *
         have c0 := N4.cell 0 rfl
         have c3 := N4.cell 3 rfl
         have f0 := N4.frozen 0
         have f3 := N4.frozen 3
         have N5 := (fn_set3 (fn_set0 N4 (.string m0)) (.string m1))
         have F5 := ((F4.other' (p := ⟨w1.heap.size + 1, 0, none⟩) (by simp <;> omega) (.string m0)).other' (p := ⟨w1.heap.size + 1, 3, none⟩) (by simp <;> omega) (.string m1))
         have L5 := ((L4.other' (p := ⟨w1.heap.size + 1, 0, none⟩) (by simp <;> omega) (.string m0)).other' (p := ⟨w1.heap.size + 1, 3, none⟩) (by simp <;> omega) (.string m1))
         have O5 := ((HO4.out.setLow (q := w1.heap.size + 1) (i := 0) (by omega) (.string m0)).setLow (q := w1.heap.size + 1) (i := 3) (by omega) (.string m1))
         have k5 : Below w1.heap.size wr ((wr.setCell ⟨w1.heap.size + 1, 0, none⟩ (.string m0)).setCell ⟨w1.heap.size + 1, 3, none⟩ (.string m1)) := (((Below.refl w1.heap.size wr).setCell (p := ⟨w1.heap.size + 1, 0, none⟩) (by simp) (.string m0)).setCell (p := ⟨w1.heap.size + 1, 3, none⟩) (by simp) (.string m1))
         have T5 := HTr.out.below k5 (Nat.le_refl _)
         have g5 := g4.trans (k5.mono (by omega))
         have z5 : ((wr.setCell ⟨w1.heap.size + 1, 0, none⟩ (.string m0)).setCell ⟨w1.heap.size + 1, 3, none⟩ (.string m1)).heap.size = wr.heap.size := by simp [World.setCell]
         have dr : ∀ B, Below B ((wr.setCell ⟨w1.heap.size + 1, 0, none⟩ (.string m0)).setCell ⟨w1.heap.size + 1, 3, none⟩ (.string m1)) ((wr.setCell ⟨w1.heap.size + 1, 0, none⟩ (.string m0)).setCell ⟨w1.heap.size + 1, 3, none⟩ (.string m1)).drew := fun B => ⟨rfl, rfl, rfl, Nat.le_refl _, fun _ _ => rfl⟩
         replace N5 := N5.below (dr (w1.heap.size + 1 + 1)) (by omega)
         replace F5 := F5.below (dr (w.heap.size + 1)) (by omega)
         replace L5 := L5.below (dr (w1.heap.size + 1)) (by omega)
         replace T5 := T5.below (dr w1.heap.size) (Nat.le_refl _)
         replace g5 := g5.trans (dr w.heap.size)
         replace O5 : OwS wb.heap.size ((wr.setCell ⟨w1.heap.size + 1, 0, none⟩ (.string m0)).setCell ⟨w1.heap.size + 1, 3, none⟩ (.string m1)).drew _ _ := O5
         replace z5 : ((wr.setCell ⟨w1.heap.size + 1, 0, none⟩ (.string m0)).setCell ⟨w1.heap.size + 1, 3, none⟩ (.string m1)).drew.heap.size = wr.heap.size := z5
         have hne : ¬ xs = [] := fun h => by rw [h] at hl; simp at hl
         have hp0 : 0 < xs.length := by omega
         clear dr
         have HA : Hid _ := And.intro N5 (And.intro F5 (And.intro L5 (And.intro T5 (And.intro z5 (And.intro O5 g5)))))
         have hqn : ¬ gn = w1.heap.size + 1 := by omega
         have hqn2 : ¬ w1.heap.size + 1 = gn := by omega
         clear N5 F5 L5 T5 z5 O5 g5 k5 hl HTr hcc HO4 HD
         go_wp2_with fail
         go_region_held3 (fun w' => w'.cell? ⟨gn, 0, none⟩ = some (.string m0) ∧ w'.cell? ⟨gn, 1, none⟩ = some (.string m1)) (first | (go_keep; done)) (fail)
         go_wp2_with fail
         go_meet
         exact ⟨_, _, _, HH, HA.out⟩
       by_cases h3 : xs.length = 3
       · have hl : xs.length = 3 := h3
         clear h1 h2 h3
         have e1 : ((xs.length : Int) == 1) = false := by first | (rw [beq_iff_eq]; omega) | (rw [beq_eq_false_iff_ne]; omega)
         have e2 : ((xs.length : Int) == 2) = false := by first | (rw [beq_iff_eq]; omega) | (rw [beq_eq_false_iff_ne]; omega)
         have e3 : ((xs.length : Int) == 3) = true := by first | (rw [beq_iff_eq]; omega) | (rw [beq_eq_false_iff_ne]; omega)
         obtain ⟨gn, rfl, hgn, hgn2, hcn, hcn2, hcc⟩ := HO4.out.openD (by omega)
         have r0 := hcc 0 (by omega)
         have r1 := hcc 1 (by omega)
         have r2 := hcc 2 (by omega)
         have i0 : (0 : Int) < (xs.length : Int) := by omega
         have i1 : (1 : Int) < (xs.length : Int) := by omega
         have i2 : (2 : Int) < (xs.length : Int) := by omega
         have HH : Hid (∀ ls, hdOf (resT T) ls xs = some _) := fun ls => hd_three hl ls
         generalize xs.getD 0 noT = m0 at *
         generalize xs.getD 1 noT = m1 at *
         generalize xs.getD 2 noT = m2 at *
         have c2 := N4.cell 2 rfl
         have c0 := N4.cell 0 rfl
         have c3 := N4.cell 3 rfl
         have f2 := N4.frozen 2
         have f0 := N4.frozen 0
         have f3 := N4.frozen 3
         have N5 := (fn_set3 (fn_set0 (fn_set2 N4 (.string m0)) (.string m1)) (.string m2))
         have F5 := (((F4.other' (p := ⟨w1.heap.size + 1, 2, none⟩) (by simp <;> omega) (.string m0)).other' (p := ⟨w1.heap.size + 1, 0, none⟩) (by simp <;> omega) (.string m1)).other' (p := ⟨w1.heap.size + 1, 3, none⟩) (by simp <;> omega) (.string m2))
         have L5 := (((L4.other' (p := ⟨w1.heap.size + 1, 2, none⟩) (by simp <;> omega) (.string m0)).other' (p := ⟨w1.heap.size + 1, 0, none⟩) (by simp <;> omega) (.string m1)).other' (p := ⟨w1.heap.size + 1, 3, none⟩) (by simp <;> omega) (.string m2))
         have O5 := (((HO4.out.setLow (q := w1.heap.size + 1) (i := 2) (by omega) (.string m0)).setLow (q := w1.heap.size + 1) (i := 0) (by omega) (.string m1)).setLow (q := w1.heap.size + 1) (i := 3) (by omega) (.string m2))
         have k5 : Below w1.heap.size wr (((wr.setCell ⟨w1.heap.size + 1, 2, none⟩ (.string m0)).setCell ⟨w1.heap.size + 1, 0, none⟩ (.string m1)).setCell ⟨w1.heap.size + 1, 3, none⟩ (.string m2)) := ((((Below.refl w1.heap.size wr).setCell (p := ⟨w1.heap.size + 1, 2, none⟩) (by simp) (.string m0)).setCell (p := ⟨w1.heap.size + 1, 0, none⟩) (by simp) (.string m1)).setCell (p := ⟨w1.heap.size + 1, 3, none⟩) (by simp) (.string m2))
         have T5 := HTr.out.below k5 (Nat.le_refl _)
         have g5 := g4.trans (k5.mono (by omega))
         have z5 : (((wr.setCell ⟨w1.heap.size + 1, 2, none⟩ (.string m0)).setCell ⟨w1.heap.size + 1, 0, none⟩ (.string m1)).setCell ⟨w1.heap.size + 1, 3, none⟩ (.string m2)).heap.size = wr.heap.size := by simp [World.setCell]
         have dr : ∀ B, Below B (((wr.setCell ⟨w1.heap.size + 1, 2, none⟩ (.string m0)).setCell ⟨w1.heap.size + 1, 0, none⟩ (.string m1)).setCell ⟨w1.heap.size + 1, 3, none⟩ (.string m2)) (((wr.setCell ⟨w1.heap.size + 1, 2, none⟩ (.string m0)).setCell ⟨w1.heap.size + 1, 0, none⟩ (.string m1)).setCell ⟨w1.heap.size + 1, 3, none⟩ (.string m2)).drew := fun B => ⟨rfl, rfl, rfl, Nat.le_refl _, fun _ _ => rfl⟩
         replace N5 := N5.below (dr (w1.heap.size + 1 + 1)) (by omega)
         replace F5 := F5.below (dr (w.heap.size + 1)) (by omega)
         replace L5 := L5.below (dr (w1.heap.size + 1)) (by omega)
         replace T5 := T5.below (dr w1.heap.size) (Nat.le_refl _)
         replace g5 := g5.trans (dr w.heap.size)
         replace O5 : OwS wb.heap.size (((wr.setCell ⟨w1.heap.size + 1, 2, none⟩ (.string m0)).setCell ⟨w1.heap.size + 1, 0, none⟩ (.string m1)).setCell ⟨w1.heap.size + 1, 3, none⟩ (.string m2)).drew _ _ := O5
         replace z5 : (((wr.setCell ⟨w1.heap.size + 1, 2, none⟩ (.string m0)).setCell ⟨w1.heap.size + 1, 0, none⟩ (.string m1)).setCell ⟨w1.heap.size + 1, 3, none⟩ (.string m2)).drew.heap.size = wr.heap.size := z5
         have hne : ¬ xs = [] := fun h => by rw [h] at hl; simp at hl
         have hp0 : 0 < xs.length := by omega
         clear dr
         have HA : Hid _ := And.intro N5 (And.intro F5 (And.intro L5 (And.intro T5 (And.intro z5 (And.intro O5 g5)))))
         have hqn : ¬ gn = w1.heap.size + 1 := by omega
         have hqn2 : ¬ w1.heap.size + 1 = gn := by omega
         clear N5 F5 L5 T5 z5 O5 g5 k5 hl HTr hcc HO4 HD
         go_wp2_with fail
         go_region_held3 (fun w' => w'.cell? ⟨gn, 0, none⟩ = some (.string m0) ∧ w'.cell? ⟨gn, 1, none⟩ = some (.string m1) ∧ w'.cell? ⟨gn, 2, none⟩ = some (.string m2)) (first | (go_keep; done)) (fail)
         go_wp2_with fail
         go_meet
         exact ⟨_, _, _, HH, HA.out⟩
       have e1 : ((xs.length : Int) == 1) = false := by rw [beq_eq_false_iff_ne]; omega
       have e2 : ((xs.length : Int) == 2) = false := by rw [beq_eq_false_iff_ne]; omega
       have e3' : ((xs.length : Int) == 3) = false := by rw [beq_eq_false_iff_ne]; omega
       have HN : Hid (o = none) := by
        unfold Hid
        rw [HD.out]
        have hh := hd_none (r := resT T) h1 h2 h3 (localsOfF T)
        rw [HX2.out, ← HNS2.out] at hh
        unfold headF
        rw [hh]
        split <;> rfl
       clear h1 h2 h3 HTr HO4 HD
       obtain ⟨z0, z1, z2, z3, z4, z5, z6, z7, z8⟩ := cells9 F4
       obtain ⟨y0, y1, y2, y3, y4, y5, y6, y7, y8⟩ := frozen9 F4
       obtain ⟨wz, hWwz, Z, kz⟩ := put0 F4 g4 (by omega)
       obtain ⟨d0, d1, d2, d3, d4, d5, d6, d7, d8⟩ := cells9 Z
       go_wp2
       refine bodyPost_ret (v := .tuple #[.agg fn0, .int .i64 28]) (by simp [results, Tryz.results19, go_sem, d0, d1, d2, d3, d4, d5, d6, d7, d8]) rfl ?_
       exact ⟨Or.inr ⟨HN.out, rfl⟩, kz⟩
      case rest =>
       obtain ⟨nm, lf, rt, HH, N5, F5, L5, hT5, z5, O5, g5⟩ := hcut
       obtain ⟨wd, hwd⟩ : ∃ wd, wd = wc := ⟨wc, rfl⟩
       subst hwd
       have HT5 : Hid (TokRR w1.heap.size wd g T) := hT5
       have HO5 : Hid (OwS wb.heap.size wd (.slice ao xs.length co) xs) := O5
       have s5 : wb.heap.size ≤ wd.heap.size := by omega
       clear hT5 O5 N4 F4 L4 g4 HTr HO4 z5 hs e3
       have hlx : xs.length ≤ 1025 := by omega
       generalize hRT : resT T = RT at *
       have HRT : Hid (resT T = RT) := hRT
       clear hRT
       have c1 := N5.cell 1 rfl
       obtain ⟨EE, hEE⟩ : ∃ EE, RT.toList.isEmpty = EE := ⟨_, rfl⟩
       have HEE : Hid (decide (RT = noT) = EE) := by unfold Hid; rw [← hEE, emptyD]
       go_upto_if 103 with fail
       clear hEE
       go_cut [9] from 104 to 108 (fun nv wx => ∃ (a2 : Option Addr) (c2 : Nat) (ys : List ByteArray), Hid (ys = xs ++ if RT = noT then [] else [RT]) ∧ ys.length ≤ 1026 ∧ nv = .slice a2 ys.length c2 ∧ OwS wb.heap.size wx (.slice a2 ys.length c2) ys ∧ Below wb.heap.size wd wx)
       case first =>
        cases EE with
        | true =>
         have hr : RT = noT := of_decide_eq_true HEE.out
         have HY : Hid (xs = xs ++ if RT = noT then [] else [RT]) := by unfold Hid; rw [if_pos hr, List.append_nil]
         clear hr HEE
         go_wp2_with fail
         go_meet
         exact ⟨ao, co, xs, HY, by omega, rfl, HO5.out, Below.refl _ _⟩
        | false =>
         have hr : ¬ RT = noT := of_decide_eq_false HEE.out
         have HY : Hid (xs ++ [RT] = xs ++ if RT = noT then [] else [RT]) := by unfold Hid; rw [if_neg hr]
         have hN : RdS (wd.heap.size + 1) (wd.alloc (.cells #[.string RT] 9)) (.slice (some ⟨wd.heap.size, 0, none⟩) 1 1) [RT] := rdS_new1 wd RT
         have hO1 : OwS wb.heap.size (wd.alloc (.cells #[.string RT] 9)) (.slice ao xs.length co) xs := HO5.out.alloc _
         have hb1 : Below wb.heap.size wd (wd.alloc (.cells #[.string RT] 9)) := (below_alloc wd _).mono s5
         clear hr HEE
         go_wp2_with (at_builtin; refine append_strs rfl _ _ rfl rfl rfl (ys := [RT]) hO1 hN (by show (_ + 1) * 16 ≤ _; omega) (by simp; omega) ?_)
         intro v' w' hO2 hgr
         have hb2 : Below wb.heap.size wd w' := hb1.grown hgr (by simp; omega) (fun k hk => (hO1.lt k hk).1)
         obtain ⟨a2, c2, rfl⟩ := row_form2S hO2
         have hly : (xs ++ [RT]).length ≤ 1026 := by simp; omega
         clear hO1 hN hb1 hgr
         go_wp2_with fail
         go_meet
         exact ⟨a2, c2, xs ++ [RT], HY, hly, rfl, hO2, hb2⟩
       case rest =>
        obtain ⟨a2, c2, ys, HY, hly, hq9, O6, b6⟩ := hcut
        subst hq9
        obtain ⟨we, hwe⟩ : ∃ we, we = wc := ⟨wc, rfl⟩
        subst hwe
        have N6 := N5.below b6 (by omega)
        have F6 := F5.below b6 (by omega)
        have L6 := L5.below b6 (by omega)
        have HT6 : Hid (TokRR w1.heap.size we g T) := HT5.out.below b6 (by omega)
        have g6 := g5.trans (b6.mono (by omega))
        have s6 : wb.heap.size ≤ we.heap.size := by have := b6.size; omega
        clear N5 F5 L5 HT5 g5 HO5 s5 b6 HEE c1
        obtain ⟨LS, hLS⟩ : ∃ LS, localsOfF T = LS := ⟨_, rfl⟩
        have HLS : Hid (localsOfF T = LS) := hLS
        have HL0 : Hid (locF T T.length k = LS) := by
         unfold Hid
         rw [← hLS, HKE.out]
         show _ = locF T T.length (resK T + (namesOfF T).length)
         rw [HRK.out, HNS2.out]
        clear hLS
        go_wp2
        go_loopw [8, 9] (fun av nv wr => ∃ (k2 : Nat) (ls zs : List ByteArray) (a1 : Option Addr) (c1 : Nat) (a3 : Option Addr) (c3 : Nat), av = .int .i64 k2 ∧ nv = .slice a3 zs.length c3 ∧ Hid (zs = ys ++ ls) ∧ Hid (k2 = k + 2 * ls.length) ∧ ls.length ≤ k2 ∧ zs.length ≤ 1026 + ls.length ∧ k2 < T.length ∧ Hid (ls ++ locF T T.length k2 = LS) ∧ BoxA wr (w1.heap.size + 1) 25 (fnV nm RT lf rt (.slice a1 ls.length c1) (.slice none 0 0) (.slice none 0 0) (.slice (some ⟨w1.heap.size, 0, none⟩) 1 1) false) ∧ BoxA wr w.heap.size 25 fn0 ∧ BoxA wr w1.heap.size 9 #[.string s] ∧ TokRR w1.heap.size wr g T ∧ wb.heap.size ≤ wr.heap.size ∧ OwS wb.heap.size wr (.slice a3 zs.length c3) zs ∧ OwS wb.heap.size wr (.slice a1 ls.length c1) ls ∧ Hid (∀ x, (Value.slice a1 ls.length c1).ownBlock = some x → (Value.slice a3 zs.length c3).ownBlock ≠ some x) ∧ Below w.heap.size w wr) (fun av _ _ => T.length - (intOf av).toNat)
        case atStart => exact ⟨k, [], ys, none, 0, a2, c2, rfl, rfl, by unfold Hid; rw [List.append_nil], rfl, Nat.zero_le _, by simpa using hly, hk, HL0, N6, F6, L6, HT6.out, s6, O6, World.ownsRow_nil _ _ _ _, (fun x hx => by cases hx), g6⟩
        case round =>
         obtain ⟨k2, ls, zs, a1, c1, a3, c3, rfl, rfl, HZ, HK2, hlk, hzl, hk2, HX, N7, F7, L7, hT7, s7, O7, O8, HDJ, g7⟩ := hrel
         have HT7 : Hid (TokRR w1.heap.size wr g T) := hT7
         clear hT7 N6 F6 L6 HT6 g6 O6 HL0 s6
         have q0 := HT7.out.kd k2 hk2
         have q1 := HT7.out.tx k2 hk2
         obtain ⟨b1, p1⟩ := tx_isD (ttx T k2) semT [59] rfl
         have h6 : ttx T k2 = semT → tkd T k2 = 6 := fun h => HT7.out.row.six (Or.inr h)
         by_cases hs6 : ttx T k2 = semT
         · have hk3 := (HT7.out.row.less (k := k2) (Or.inr (by rw [hs6]; decide))).2
           rw [h6 hs6] at q0
           rw [decide_eq_true hs6] at b1
           have p2 := p1.2 hs6
           have q2 := HT7.out.kd (k2 + 1) hk3
           have q3 := HT7.out.tx (k2 + 1) hk3
           by_cases h3 : tkd T (k2 + 1) = 3
           · have hk4 := (HT7.out.row.three h3).2
             have HX2 : Hid ((ls ++ [ttx T (k2 + 1)]) ++ locF T T.length (k2 + 2) = LS) := by
              unfold Hid
              rw [← HX.out, locF_step HT7.out.row.endT hk2 ⟨hs6, h3⟩, List.append_assoc]
              rfl
             rw [h3] at q2
             generalize ttx T k2 = u0 at *
             generalize hx : ttx T (k2 + 1) = x at *
             have HXX : Hid (ttx T (k2 + 1) = x) := hx
             clear h3 hs6 h6 p1 HX hx
             go_wp2_with fail
             have j1 : (0 : Int) ≤ (k2 : Int) + 1 := by omega
             have j2 : (k2 : Int) + 1 < (T.length : Int) := by omega
             have j3 : ((k2 : Int) + 1).toNat = k2 + 1 := by omega
             have y4 := N7.cell 4 rfl
             have v4 := N7.frozen 4
             have y4a := (N7.below (below_alloc wr (.cells #[.string x] 9)) N7.lt).cell 4 rfl
             have y4b : (wr.drew.alloc (.cells #[.string x] 9)).cell? ⟨w1.heap.size + 1, 4, none⟩ = some (.slice a1 ls.length c1) := y4a
             have y4c : (wr.alloc (.cells #[.string x] 9)).drew.cell? ⟨w1.heap.size + 1, 4, none⟩ = some (.slice a1 ls.length c1) := y4a
             have hN1 : RdS (wr.heap.size + 1) (wr.alloc (.cells #[.string x] 9)).drew (.slice (some ⟨wr.heap.size, 0, none⟩) 1 1) [x] := rdS_new1 wr x
             have hN2 : RdS (wr.heap.size + 1) (wr.alloc (.cells #[.string x] 9)) (.slice (some ⟨wr.heap.size, 0, none⟩) 1 1) [x] := rdS_new1 wr x
             have hN3 : RdS (wr.heap.size + 1) (wr.drew.alloc (.cells #[.string x] 9)) (.slice (some ⟨wr.heap.size, 0, none⟩) 1 1) [x] := rdS_new1 wr.drew x
             have hO1 : OwS wb.heap.size (wr.alloc (.cells #[.string x] 9)).drew (.slice a1 ls.length c1) ls := O8.alloc _
             have hO2 : OwS wb.heap.size (wr.alloc (.cells #[.string x] 9)) (.slice a1 ls.length c1) ls := O8.alloc _
             have hO3 : OwS wb.heap.size (wr.drew.alloc (.cells #[.string x] 9)) (.slice a1 ls.length c1) ls := World.ownsRow.alloc (w := wr.drew) O8 _
             have hqr : (Value.slice a1 ls.length c1).ownBlock ≠ some (w1.heap.size + 1) := fun e => by have := (O8.lt _ e).1; omega
             go_region_law (first
              | (refine step_append_strsB (base := wb.heap.size) (xs := ls) (ys := [x]) (by rfl) _ _ (by rfl) (by rfl) (by rfl) (by first | exact hO2 | exact hO1 | exact hO3) (by first | exact hN2 | exact hN1 | exact hN3) (Nat.zero_lt_succ _) (by show (_ + 1) * 16 ≤ _; omega) (by simp; omega) ?_; intro v' w' hO9 hgr hob; have N8 := box_app (.cells #[.string x] 9) N7 hgr rfl hqr; have c8 := N8.cell 4 rfl; have f8 := N8.frozen 4; obtain ⟨a4, c4, rfl⟩ := row_form2S hO9))
             all_goals
              have hlx : (ls ++ [x]).length = ls.length + 1 := by simp
              have hgr2 : (wr.alloc (.cells #[.string x] 9)).grownBy w' (Value.slice a1 ls.length c1).ownBlock := ⟨hgr.os, hgr.tape, hgr.output, hgr.size, hgr.block⟩
              have kb : Below wb.heap.size wr w' := ((below_alloc wr _).mono s7).grown hgr2 (by simp; omega) (fun k hk => (O8.lt k hk).1)
              have F8 := F7.below kb (by omega)
              have L8 := L7.below kb (by omega)
              have T8 := HT7.out.below kb (by omega)
              have g8 := g7.trans (kb.mono (by omega))
              have hdj : (Value.slice a3 zs.length c3).ownBlock = none ∨ (Value.slice a3 zs.length c3).ownBlock ≠ (Value.slice a1 ls.length c1).ownBlock := by
               cases h : (Value.slice a3 zs.length c3).ownBlock with
               | none => exact Or.inl rfl
               | some y => exact Or.inr (fun e => HDJ.out y e.symm h)
              have O9 : OwS wb.heap.size w' (.slice a3 zs.length c3) zs := (O7.alloc (.cells #[.string x] 9)).kept hgr2 hdj
              rw [hlx] at hO9 hob
              have HDJ2 : Hid (∀ y, (Value.slice a4 (ls.length + 1) c4).ownBlock = some y → (Value.slice a3 zs.length c3).ownBlock ≠ some y) := by
               intro y hy e
               rcases hob with hob | hob
               · exact HDJ.out y (hob.symm.trans hy) e
               · have h1 := (O7.lt y e).2
                 rw [hob] at hy
                 have h2 := Option.some.inj hy
                 have h3 : (wr.alloc (.cells #[.string x] 9)).heap.size = y := h2
                 rw [World.size_alloc] at h3
                 omega
              have N9 := fn_set4 N8 (.slice a4 (ls.length + 1) c4)
              have F9 := F8.other' (p := ⟨w1.heap.size + 1, 4, none⟩) (by simp <;> omega) (.slice a4 (ls.length + 1) c4)
              have L9 := L8.other' (p := ⟨w1.heap.size + 1, 4, none⟩) (by simp) (.slice a4 (ls.length + 1) c4)
              have k9 : Below w1.heap.size w' (w'.setCell ⟨w1.heap.size + 1, 4, none⟩ (.slice a4 (ls.length + 1) c4)) := (Below.refl _ _).setCell (p := ⟨w1.heap.size + 1, 4, none⟩) (by simp) _
              have T9 := T8.below k9 (Nat.le_refl _)
              have g9 := g8.trans (k9.mono (by omega))
              have O10 := O9.setLow (q := w1.heap.size + 1) (i := 4) (by omega) (.slice a4 (ls.length + 1) c4)
              have O11 : OwS wb.heap.size (w'.setCell ⟨w1.heap.size + 1, 4, none⟩ (.slice a4 (ls.length + 1) c4)) (.slice a4 (ls.length + 1) c4) (ls ++ [x]) := hO9.setLow (q := w1.heap.size + 1) (i := 4) (by omega) (.slice a4 (ls.length + 1) c4)
              have z9 : wb.heap.size ≤ (w'.setCell ⟨w1.heap.size + 1, 4, none⟩ (.slice a4 (ls.length + 1) c4)).heap.size := by have := kb.size; simp [World.setCell]; omega
              generalize w'.setCell ⟨w1.heap.size + 1, 4, none⟩ (.slice a4 (ls.length + 1) c4) = W9 at *
              have HT9 : Hid (TokRR w1.heap.size W9 g T) := T9
              have t1 := T9.tx (k2 + 1) hk3
              rw [HXX.out] at t1
              clear T9 k9 T8 F8 L8 g8 O9 kb hgr2 hgr hob hO9 N8 c8 f8 N7 F7 L7 HT7 O7 O8 HDJ g7 hdj q0 q1 q2 q3 y4 v4 y4a y4b y4c hN1 hN2 hN3 hO1 hO2 hO3 hqr hlx s7
              have hN : RdS (W9.heap.size + 1) (W9.alloc (.cells #[.string x] 9)) (.slice (some ⟨W9.heap.size, 0, none⟩) 1 1) [x] := rdS_new1 W9 x
              have O12 : OwS wb.heap.size (W9.alloc (.cells #[.string x] 9)) (.slice a3 zs.length c3) zs := O10.alloc _
              go_wp2_with (at_builtin; refine append_strsB rfl _ _ rfl rfl rfl (ys := [x]) O12 hN (Nat.zero_lt_succ _) (by show (_ + 1) * 16 ≤ _; omega) (by simp; omega) ?_)
              intro v3 w3 O13 hgr3 hob3
              obtain ⟨a5, c5, rfl⟩ := row_form2S O13
              have kb3 : Below wb.heap.size W9 w3 := ((below_alloc W9 _).mono z9).grown hgr3 (by simp; omega) (fun k hk => (O12.lt k hk).1)
              have hdj3 : (Value.slice a4 (ls.length + 1) c4).ownBlock = none ∨ (Value.slice a4 (ls.length + 1) c4).ownBlock ≠ (Value.slice a3 zs.length c3).ownBlock := by
               cases h : (Value.slice a4 (ls.length + 1) c4).ownBlock with
               | none => exact Or.inl rfl
               | some y => exact Or.inr (fun e => HDJ2.out y h e.symm)
              have O14 : OwS wb.heap.size w3 (.slice a4 (ls.length + 1) c4) (ls ++ [x]) := (O11.alloc (.cells #[.string x] 9)).kept hgr3 hdj3
              have HDJ4 : Hid (∀ y, (Value.slice a4 (ls.length + 1) c4).ownBlock = some y → (Value.slice a5 (zs ++ [x]).length c5).ownBlock ≠ some y) := by
               intro y hy e
               rcases hob3 with hob | hob
               · exact HDJ2.out y hy (hob.symm.trans e)
               · have h1 := (O11.lt y hy).2
                 rw [hob] at e
                 have h3 : W9.heap.size + 1 = y := Option.some.inj e
                 omega
              have hlx : (ls ++ [x]).length = ls.length + 1 := by simp
              have hlz : (zs ++ [x]).length = zs.length + 1 := by simp
              have N15 := N9.below kb3 (by omega)
              have F15 := F9.below kb3 (by omega)
              have L15 := L9.below kb3 (by omega)
              have HT15 : Hid (TokRR w1.heap.size w3 g T) := HT9.out.below kb3 (by omega)
              have g15 := g9.trans (kb3.mono (by omega))
              have z15 : wb.heap.size ≤ w3.heap.size := by have := kb3.size; omega
              have HZ2 : Hid (zs ++ [x] = ys ++ (ls ++ [x])) := by unfold Hid; rw [HZ.out, List.append_assoc]
              have HK3 : Hid (k2 + 2 = k + 2 * (ls ++ [x]).length) := by unfold Hid; rw [hlx, HK2.out]; omega
              have HR1 : Hid (ls.length + 1 ≤ k2 + 2 ∧ zs.length + 1 ≤ 1026 + (ls.length + 1)) := ⟨by omega, by omega⟩
              clear N9 F9 L9 HT9 g9 kb3 hgr3 hob3 O12 hN O10 O11 hdj3 HDJ2 t1 z9 HZ HK2 hlz
              go_wp2
              go_roundw
              case rel => exact ⟨k2 + 2, ls ++ [x], zs ++ [x], a4, c4, a5, c5, by go_num, by first | rfl | simp, HZ2, HK3, by rw [hlx]; exact HR1.out.1, by rw [hlx, List.length_append, List.length_singleton]; exact HR1.out.2, hk4, HX2, by rw [hlx]; exact N15, F15, L15, HT15.out, z15, O13, by rw [hlx]; exact O14, by rw [hlx]; exact HDJ4, g15⟩
              case measure => simp [intOf]; omega
           · have HLL : Hid (ls = LS) := by
              have := HX.out
              rw [locF_stop _ (fun h => h3 h.2), List.append_nil] at this
              exact this
             have HE : Hid (endK T = k2) := by
              unfold Hid endK
              rw [HLS.out, ← HLL.out, HNS2.out, HRK.out, HK2.out, HKE.out]
             have HN : Hid (o = none) := by
              unfold Hid
              rw [HD.out]
              unfold headF
              rw [HE.out, if_pos (Or.inl (by rw [h6 hs6]; decide))]
             have e3 : (tkd T (k2 + 1) != 3) = true := by rw [bne_iff_ne]; exact h3
             generalize ttx T k2 = u0 at *
             generalize ttx T (k2 + 1) = x at *
             generalize tkd T (k2 + 1) = zz at *
             clear h3 hs6 h6 p1 HX HE HLL
             obtain ⟨z0, z1, z2, z3, z4, z5, z6, z7, z8⟩ := cells9 F7
             obtain ⟨y0, y1, y2, y3, y4, y5, y6, y7, y8⟩ := frozen9 F7
             obtain ⟨wz, hWwz, Z, kz⟩ := put0 F7 g7 (by omega)
             obtain ⟨d0, d1, d2, d3, d4, d5, d6, d7, d8⟩ := cells9 Z
             go_wp2
             refine bodyPost_ret (v := .tuple #[.agg fn0, .int .i64 28]) (by simp [results, Tryz.results19, go_sem, d0, d1, d2, d3, d4, d5, d6, d7, d8]) rfl ?_
             exact ⟨Or.inr ⟨HN.out, rfl⟩, kz⟩
         · have HLL : Hid (ls = LS) := by
            have := HX.out
            rw [locF_stop _ (fun h => hs6 h.1), List.append_nil] at this
            exact this
           have HE : Hid (endK T = k2) := by
            unfold Hid endK
            rw [HLS.out, ← HLL.out, HNS2.out, HRK.out, HK2.out, HKE.out]
           rw [decide_eq_false hs6] at b1
           have p2 : ¬ (ttx T k2).toList = [59] := fun h => hs6 (p1.1 h)
           have HDOC := headF_doc HT7.out.ful
           rw [HE.out, HLS.out, HNS2.out, HRT.out] at HDOC
           have HDC : Hid _ := HDOC
           clear HDOC
           by_cases hz : tkd T k2 = 0
           · have e0 : (tkd T k2 == 6) = false := by rw [hz]; rfl
             have e1 : (tkd T k2 != 0) = false := by rw [hz]; rfl
             by_cases h32 : 32 < ls.length
             · have HN : Hid (o = none) := by
                unfold Hid
                rw [HD.out, HDC.out, if_pos (Or.inr (by rw [← HLL.out]; exact h32))]
               have e32 : (32 : Int) < (ls.length : Int) := by omega
               have y4 := N7.cell 4 rfl
               generalize ttx T k2 = u0 at *
               generalize tkd T k2 = zz at *
               clear hs6 h6 p1 HX HE HLL hz HDC
               obtain ⟨z0, z1, z2, z3, z4, z5, z6, z7, z8⟩ := cells9 F7
               obtain ⟨y0, y1, y2, y3, y4, y5, y6, y7, y8⟩ := frozen9 F7
               obtain ⟨wz, hWwz, Z, kz⟩ := put0 F7 g7 (by omega)
               obtain ⟨d0, d1, d2, d3, d4, d5, d6, d7, d8⟩ := cells9 Z
               go_wp2
               refine bodyPost_ret (v := .tuple #[.agg fn0, .int .i64 28]) (by simp [results, Tryz.results19, go_sem, d0, d1, d2, d3, d4, d5, d6, d7, d8]) rfl ?_
               exact ⟨Or.inr ⟨HN.out, rfl⟩, kz⟩
             · have e32 : ¬ (32 : Int) < (ls.length : Int) := by omega
               have y4 := N7.cell 4 rfl
               have HDC2 : Hid (o = docF NS RT LS) := by
                unfold Hid
                rw [HD.out, HDC.out, if_neg (fun h => by
                 rcases h with h | h
                 · exact h hz
                 · rw [← HLL.out] at h; exact h32 h)]
               generalize ttx T k2 = u0 at *
               generalize tkd T k2 = zz at *
               clear hs6 h6 p1 HX HE hz HDC h32
               have HZD : Hid (docAll NS RT LS = zs) := by unfold Hid docAll; rw [HZ.out, HY.out, HX2.out, HLL.out]
               have HR3 : Hid (RdS wr.heap.size wr (.slice a3 zs.length c3) zs) := RdS.of_row O7
               obtain ⟨hcz1, hcz2⟩ := HR3.out.cap
               have HO8 : Hid (OwS wb.heap.size wr (.slice a1 ls.length c1) ls) := O8
               clear HZ HY O7 O8 HDJ HT7
               go_wp2
               go_loopw [10] (fun iv wx => (∃ q, wx = wr.drewN q) ∧ ∃ i : Nat, i ≤ zs.length ∧ iv = .int .i64 i ∧ Hid (∀ j, j < i → memT (zs.getD j noT) (zs.take j) = false)) (fun iv _ => zs.length - (intOf iv).toNat)
               case atStart => exact ⟨⟨0, rfl⟩, 0, Nat.zero_le _, rfl, fun j hj => by omega⟩
               case round =>
                obtain ⟨⟨q, rfl⟩, i, hi, rfl, HI⟩ := hrel
                by_cases hlt : i < zs.length
                · obtain ⟨gz, oz, rfl, hgz, hcz⟩ := HR3.out.ptr (by omega)
                  have qz := hcz i hlt
                  have hlen : (zs.take i).length = i := by rw [List.length_take]; omega
                  have hHas : ∀ q', Calls Tryz.prog 22 #[.slice (some ⟨gz, oz, none⟩) i c3, .string (zs.getD i noT)] (wr.drewN q') fun e w' => e = .returned (.bool (memT (zs.getD i noT) (zs.take i))) ∧ w' = wr.drewN q' := by
                   intro q'
                   have h1 : RdS wr.heap.size (wr.drewN q') (.slice (some ⟨gz, oz, none⟩) (zs.take i).length c3) (zs.take i) := (rds_pre HR3.out (by omega)).below (⟨rfl, rfl, rfl, Nat.le_refl _, fun _ _ => rfl⟩ : Below wr.heap.size wr (wr.drewN q')) (Nat.le_refl _)
                   have h2 := refHas_any (zs.getD i noT) h1
                   rw [hlen] at h2
                   exact h2.mono fun e w' h => ⟨h.1, h.2.symm⟩
                  have HM : Hid (memT (zs.getD i noT) (zs.take i) = true → o = none) := fun h => by
                   rw [HDC2.out]
                   refine docF_no (fun hn => ?_)
                   rw [HZD.out] at hn
                   have := nodup_take.1 hn i hlt
                   rw [h] at this
                   cases this
                  have HI2 : Hid (memT (zs.getD i noT) (zs.take i) = false → ∀ j, j < i + 1 → memT (zs.getD j noT) (zs.take j) = false) := fun h j hj => by
                   rcases Nat.lt_or_ge j i with h' | h'
                   · exact HI.out j h'
                   · obtain rfl : j = i := by omega
                     exact h
                  have hii : (i : Int) ≤ (zs.length : Int) := by omega
                  have hic : (i : Int) ≤ (c3 : Int) := by omega
                  have hic2 : i ≤ c3 := by omega
                  have hi0 : (0 : Int) ≤ (i : Int) := by omega
                  have hiz : (i : Int) < (zs.length : Int) := by omega
                  generalize zs.getD i noT = p at *
                  generalize memT p (zs.take i) = MM at *
                  clear hcz HI hlen HDC2
                  go_wp2_with fail
                  go_region_held3 (fun w' => w'.cell? ⟨gz, oz + i, none⟩ = some (.string p)) (first | (go_keep; done)) (first | (go_at_call 22; refine (hHas _).mono ?_; rintro e wk ⟨rfl, rfl⟩))
                  clear hHas
                  cases MM with
                  | true =>
                   have HN : Hid (o = none) := HM.out rfl
                   clear HM HI2
                   have F8 : BoxA (wr.drewN (q + 1)) w.heap.size 25 fn0 := F7
                   have g8 : Below w.heap.size w (wr.drewN (q + 1)) := g7.trans ⟨rfl, rfl, rfl, Nat.le_refl _, fun _ _ => rfl⟩
                   generalize wr.drewN (q + 1) = wq at *
                   obtain ⟨z0, z1, z2, z3, z4, z5, z6, z7, z8⟩ := cells9 F8
                   obtain ⟨y0, y1, y2, y3, y4, y5, y6, y7, y8⟩ := frozen9 F8
                   obtain ⟨wz, hWwz, Z, kz⟩ := put0 F8 g8 (by omega)
                   obtain ⟨d0, d1, d2, d3, d4, d5, d6, d7, d8⟩ := cells9 Z
                   go_wp2
                   refine bodyPost_ret (v := .tuple #[.agg fn0, .int .i64 28]) (by simp [results, Tryz.results19, go_sem, d0, d1, d2, d3, d4, d5, d6, d7, d8]) rfl ?_
                   exact ⟨Or.inr ⟨HN.out, rfl⟩, kz⟩
                  | false =>
                   have HI3 := HI2.out rfl
                   have HI4 : Hid (∀ j, j < i + 1 → memT (zs.getD j noT) (zs.take j) = false) := HI3
                   clear HM HI2 HI3
                   go_wp2
                   go_roundw
                   case rel => exact ⟨⟨_, rfl⟩, i + 1, by omega, by go_num, HI4⟩
                   case measure => simp [intOf]; omega
                · have HND : Hid (o = some ⟨nm, RT, lf, rt, ls⟩) := by
                   unfold Hid
                   rw [HDC2.out, HLL.out]
                   refine docF_yes ?_ ?_
                   · rw [← HX2.out]; exact HH.out LS
                   · rw [HZD.out]; exact nodup_take.2 (fun j hj => HI.out j (by omega))
                  have N8 : BoxA (wr.drewN q) (w1.heap.size + 1) 25 (fnV nm RT lf rt (.slice a1 ls.length c1) (.slice none 0 0) (.slice none 0 0) (.slice (some ⟨w1.heap.size, 0, none⟩) 1 1) false) := N7
                  have F8 : BoxA (wr.drewN q) w.heap.size 25 fn0 := F7
                  have L8 : BoxA (wr.drewN q) w1.heap.size 9 #[.string s] := L7
                  have O9 : OwS wb.heap.size (wr.drewN q) (.slice a1 ls.length c1) ls := HO8.out
                  have g8 : Below w.heap.size w (wr.drewN q) := g7.trans ⟨rfl, rfl, rfl, Nat.le_refl _, fun _ _ => rfl⟩
                  generalize wr.drewN q = wq at *
                  clear HI HDC2 HZD HR3 HO8
                  obtain ⟨n0, n1, n2, n3, n4, n5, n6, n7, n8⟩ := cells9 N8
                  obtain ⟨z0, z1, z2, z3, z4, z5, z6, z7, z8⟩ := cells9 F8
                  obtain ⟨y0, y1, y2, y3, y4, y5, y6, y7, y8⟩ := frozen9 F8
                  have O10 := owS_set9 (R := w.heap.size) O9 (by omega) (.string nm) (.string RT) (.string lf) (.string rt) (.slice a1 ls.length c1) (.slice none 0 0) (.slice none 0 0) (.slice (some ⟨w1.heap.size, 0, none⟩) 1 1) (.bool false)
                  have hLq : ¬ w.heap.size = w1.heap.size := by omega
                  have L9 : BoxA (((((((((wq.setCell ⟨w.heap.size, 0, none⟩ (.string nm)).setCell ⟨w.heap.size, 1, none⟩ (.string RT)).setCell ⟨w.heap.size, 2, none⟩ (.string lf)).setCell ⟨w.heap.size, 3, none⟩ (.string rt)).setCell ⟨w.heap.size, 4, none⟩ (.slice a1 ls.length c1)).setCell ⟨w.heap.size, 5, none⟩ (.slice none 0 0)).setCell ⟨w.heap.size, 6, none⟩ (.slice none 0 0)).setCell ⟨w.heap.size, 7, none⟩ (.slice (some ⟨w1.heap.size, 0, none⟩) 1 1)).setCell ⟨w.heap.size, 8, none⟩ (.bool false)) w1.heap.size 9 #[.string s] := by unfold BoxA; rw [other_set9 hLq]; exact L8
                  have Z := fn_set9 F8 (.string nm) (.string RT) (.string lf) (.string rt) (.slice a1 ls.length c1) (.slice none 0 0) (.slice none 0 0) (.slice (some ⟨w1.heap.size, 0, none⟩) 1 1) (.bool false)
                  have kz := below_set9 (R := w.heap.size) g8 (by omega) (.string nm) (.string RT) (.string lf) (.string rt) (.slice a1 ls.length c1) (.slice none 0 0) (.slice none 0 0) (.slice (some ⟨w1.heap.size, 0, none⟩) 1 1) (.bool false)
                  generalize hWwz : (((((((((wq.setCell ⟨w.heap.size, 0, none⟩ (.string nm)).setCell ⟨w.heap.size, 1, none⟩ (.string RT)).setCell ⟨w.heap.size, 2, none⟩ (.string lf)).setCell ⟨w.heap.size, 3, none⟩ (.string rt)).setCell ⟨w.heap.size, 4, none⟩ (.slice a1 ls.length c1)).setCell ⟨w.heap.size, 5, none⟩ (.slice none 0 0)).setCell ⟨w.heap.size, 6, none⟩ (.slice none 0 0)).setCell ⟨w.heap.size, 7, none⟩ (.slice (some ⟨w1.heap.size, 0, none⟩) 1 1)).setCell ⟨w.heap.size, 8, none⟩ (.bool false)) = wz at *
                  obtain ⟨d0, d1, d2, d3, d4, d5, d6, d7, d8⟩ := cells9 Z
                  have HF1 : Hid (OwS wb.heap.size wz (.slice a1 ls.length c1) ls) := O10
                  clear O10 O9 L8 N7 F7 L7 g7
                  go_wp2
                  refine bodyPost_ret (v := .tuple #[.agg (fnV nm RT lf rt (.slice a1 ls.length c1) (.slice none 0 0) (.slice none 0 0) (.slice (some ⟨w1.heap.size, 0, none⟩) 1 1) false), .int .i64 0]) (by simp [results, Tryz.results19, go_sem, d0, d1, d2, d3, d4, d5, d6, d7, d8]) rfl ?_
                  exact ⟨Or.inl ⟨⟨nm, RT, lf, rt, ls⟩, a1, c1, w1.heap.size, HND.out, rfl, owS_up HF1.out (by omega), L9⟩, kz⟩
           · have HN : Hid (o = none) := by
              unfold Hid
              rw [HD.out, HDC.out, if_pos (Or.inl hz)]
             have e1 : (tkd T k2 != 0) = true := by rw [bne_iff_ne]; exact hz
             generalize ttx T k2 = u0 at *
             clear hs6 h6 p1 HX HE HLL HDC
             by_cases hz6 : tkd T k2 = 6
             · have e0 : (tkd T k2 == 6) = true := by rw [beq_iff_eq]; exact hz6
               generalize tkd T k2 = zz at *
               clear hz hz6
               obtain ⟨z0, z1, z2, z3, z4, z5, z6, z7, z8⟩ := cells9 F7
               obtain ⟨y0, y1, y2, y3, y4, y5, y6, y7, y8⟩ := frozen9 F7
               obtain ⟨wz, hWwz, Z, kz⟩ := put0 F7 g7 (by omega)
               obtain ⟨d0, d1, d2, d3, d4, d5, d6, d7, d8⟩ := cells9 Z
               go_wp2
               refine bodyPost_ret (v := .tuple #[.agg fn0, .int .i64 28]) (by simp [results, Tryz.results19, go_sem, d0, d1, d2, d3, d4, d5, d6, d7, d8]) rfl ?_
               exact ⟨Or.inr ⟨HN.out, rfl⟩, kz⟩
             · have e0 : (tkd T k2 == 6) = false := by rw [beq_eq_false_iff_ne]; exact hz6
               generalize tkd T k2 = zz at *
               clear hz hz6
               obtain ⟨z0, z1, z2, z3, z4, z5, z6, z7, z8⟩ := cells9 F7
               obtain ⟨y0, y1, y2, y3, y4, y5, y6, y7, y8⟩ := frozen9 F7
               obtain ⟨wz, hWwz, Z, kz⟩ := put0 F7 g7 (by omega)
               obtain ⟨d0, d1, d2, d3, d4, d5, d6, d7, d8⟩ := cells9 Z
               go_wp2
               refine bodyPost_ret (v := .tuple #[.agg fn0, .int .i64 28]) (by simp [results, Tryz.results19, go_sem, d0, d1, d2, d3, d4, d5, d6, d7, d8]) rfl ?_
               exact ⟨Or.inr ⟨HN.out, rfl⟩, kz⟩
end Go.Proofs.YtflkclphchafaaaGreatDoor
