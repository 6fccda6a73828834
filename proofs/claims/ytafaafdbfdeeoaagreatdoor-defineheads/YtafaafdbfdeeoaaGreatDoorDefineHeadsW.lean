/- law12.DefineHeads. -/
import Derived.Test.YtafaafdbfdeeoaaGreatDoorDF
import Derived.Test.YtafaafdbfdeeoaaGreatDoorHX
namespace Go.Proofs.YtafaafdbfdeeoaaGreatDoor
set_option linter.unusedVariables false
set_option linter.unusedSimpArgs false
open Go.RowKit Go.Shelf

theorem noB (x : ByteArray) : ∃ b : Bool, x.toList.isEmpty = b ∧ Hid (decide (x = noT) = b) := ⟨_, rfl, (isNo_list x).1.symm⟩
theorem boxA_lt {w : World} {B ty : Nat} {xs : Array Value} (h : BoxA w B ty xs) : B < w.heap.size := by
  unfold BoxA at h
  exact (Array.getElem?_eq_some_iff.1 h).1
theorem rdS_box {w : World} {g B : Nat} {s : ByteArray} (h : BoxA w g 9 #[.string s]) (hB : g < B) : RdS B w (.slice (some ⟨g, 0, none⟩) 1 1) [s] :=
  ⟨some ⟨g, 0, none⟩, 1, rfl, Nat.le_refl _, by omega, fun (e : some _ = none) => (by cases e), Or.inr ⟨g, 0, rfl, hB, fun j hj => by
    obtain rfl : j = 0 := by simp at hj; omega
    exact h.cell 0 rfl⟩⟩
theorem if_len {x : ByteArray} {l : List UInt8} (h : x.size ≤ l.length) : x.size ≤ (if x = noT then [] else l).length := by
  by_cases e : x = noT
  · rw [if_pos e, e]
    exact Nat.le_refl _
  · rw [if_neg e]
    exact h
theorem pr_parts (h : Hd) : h.nm.size + h.rs.size + h.lf.size + h.rt.size ≤ (prH h).length := by
  have q : ∀ x : ByteArray, x.data.toList.length = x.size := fun x => Array.length_toList
  have a1 := if_len (x := h.rs) (l := h.rs.data.toList ++ arwT.data.toList) (by rw [List.length_append, q]; omega)
  have a2 := if_len (x := h.lf) (l := h.lf.data.toList ++ [32]) (by rw [List.length_append, q]; omega)
  have a3 := if_len (x := h.rt) (l := [32] ++ h.rt.data.toList) (by rw [List.length_append, q]; omega)
  unfold prH
  rw [List.length_append, List.length_append, List.length_append, List.length_append, q]
  omega
theorem heads_step {lo : List ByteArray} {t x : ByteArray} {i : Nat} {P : List UInt8} (hlt : i < lo.length) (hx : x = lo.getD i noT) (h : t.data.toList ++ (lo.drop i).flatMap (fun x => semT.data.toList ++ x.data.toList) = P) : (t ++ ((⟨#[59]⟩ : ByteArray) ++ x)).data.toList ++ (lo.drop (i + 1)).flatMap (fun x => semT.data.toList ++ x.data.toList) = P := by
  rw [← h, List.drop_eq_getElem_cons hlt, List.flatMap_cons]
  have e : lo[i] = x := by rw [hx, List.getD_eq_getElem?_getD, List.getElem?_eq_getElem hlt]; rfl
  rw [e]
  simp [ByteArray.data_append, semT]
theorem heads_size {ne : ByteArray → Int} {s t x : ByteArray} {h : Hd} {l : List UInt8} (hh : headerF ne s = some h) (e : (t ++ ((⟨#[59]⟩ : ByteArray) ++ x)).data.toList ++ l = prH h) : t.size ≤ 1024 ∧ x.size ≤ 1024 := by
  have h1 := pr_size hh
  rw [← e, List.length_append] at h1
  have h2 : (t ++ ((⟨#[59]⟩ : ByteArray) ++ x)).data.toList.length = t.size + (1 + x.size) := by
    rw [Array.length_toList]
    have e1 : (t ++ ((⟨#[59]⟩ : ByteArray) ++ x)).size = t.size + (1 + x.size) := by
      rw [ByteArray.size_append, ByteArray.size_append]
      rfl
    exact e1
  omega
set_option maxRecDepth 100000 in
set_option maxHeartbeats 32000000 in
theorem defineHeads_walk {w : World} {s : ByteArray} (hs : s.size ≤ 9223372036854775807) :
    Calls Tryz.prog 5 #[.string s] w fun e w' => e = .returned (.bool true) ∧ Below w.heap.size w w' := by
  obtain ⟨ne, hne⟩ := tellsErr_ex
  have C1 := header_any hne s (w := w) hs
  obtain ⟨o, ho⟩ : ∃ o, o = headerF ne s := ⟨_, rfl⟩
  rw [← ho] at C1
  have HO : Hid (o = headerF ne s) := ho
  have HC1 : Hid (Calls Tryz.prog 14 _ w _) := C1
  clear C1 ho
  go_enter Tryz.func5, Tryz.ntmps5
  go_wp2_with fail
  refine HC1.out.mono ?_
  rintro e w1 ⟨hcase, k1⟩
  have s1 := k1.size
  clear HC1
  rcases hcase with ⟨h, a1, c1, gl, hh, rfl, oL, bS⟩ | ⟨hh, rfl⟩
  case inr =>
    clear hh HO
    go_upto_region 2 with fail
    have k2 := below_alloc w1 (.cells fn0 25)
    have N2 := boxA_new w1 fn0 25
    have s2 : w1.heap.size < (w1.alloc (.cells fn0 25)).heap.size := by simp
    have g2 : Below w.heap.size w (w1.alloc (.cells fn0 25)) := k1.trans (k2.mono s1)
    generalize hW2 : w1.alloc (.cells fn0 25) = w2 at *
    clear hW2 k2
    go_wp2_with fail
    refine (live12_ok w2).mono ?_
    rintro e w3 ⟨rfl, k3⟩
    have g3 : Below w.heap.size w w3 := g2.trans (k3.mono g2.size)
    have n7 := (N2.below k3 s2).cell 7 rfl
    go_wp2
    go_ret
    exact ⟨rfl, g3⟩
  have HH : Hid (headerF ne s = some h) := by rw [← HO.out]; exact hh
  obtain ⟨nm, rs, lf, rt, lo⟩ := h
  simp only at oL ⊢
  clear hh HO
  go_upto_region 2 with fail
  have k2 := below_alloc w1 (.cells (fnV nm rs lf rt (.slice a1 lo.length c1) (.slice none 0 0) (.slice none 0 0) (.slice (some ⟨gl, 0, none⟩) 1 1) false) 25)
  have N2 := boxA_new w1 (fnV nm rs lf rt (.slice a1 lo.length c1) (.slice none 0 0) (.slice none 0 0) (.slice (some ⟨gl, 0, none⟩) 1 1) false) 25
  have g2 : Below w.heap.size w (w1.alloc (.cells (fnV nm rs lf rt (.slice a1 lo.length c1) (.slice none 0 0) (.slice none 0 0) (.slice (some ⟨gl, 0, none⟩) 1 1) false) 25)) := k1.trans (k2.mono s1)
  have s2 : w1.heap.size < (w1.alloc (.cells (fnV nm rs lf rt (.slice a1 lo.length c1) (.slice none 0 0) (.slice none 0 0) (.slice (some ⟨gl, 0, none⟩) 1 1) false) 25)).heap.size := by simp
  have HS2 : Hid (RdS (w1.alloc (.cells (fnV nm rs lf rt (.slice a1 lo.length c1) (.slice none 0 0) (.slice none 0 0) (.slice (some ⟨gl, 0, none⟩) 1 1) false) 25)).heap.size (w1.alloc (.cells (fnV nm rs lf rt (.slice a1 lo.length c1) (.slice none 0 0) (.slice none 0 0) (.slice (some ⟨gl, 0, none⟩) 1 1) false) 25)) (.slice a1 lo.length c1) lo) := ((RdS.of_row oL).below k2 (Nat.le_refl _)).mono (by omega)
  have hgl : gl < w1.heap.size := boxA_lt bS
  have B2 := bS.below k2 hgl
  generalize hW2 : w1.alloc (.cells (fnV nm rs lf rt (.slice a1 lo.length c1) (.slice none 0 0) (.slice none 0 0) (.slice (some ⟨gl, 0, none⟩) 1 1) false) 25) = w2 at *
  clear hW2 k2 oL bS
  have y0 := N2.cell 0 rfl
  have y1 := N2.cell 1 rfl
  have y2 := N2.cell 2 rfl
  have y3 := N2.cell 3 rfl
  have y4 := N2.cell 4 rfl
  have y5 := N2.cell 5 rfl
  have y6 := N2.cell 6 rfl
  have y7 := N2.cell 7 rfl
  have y8 := N2.cell 8 rfl
  obtain ⟨z1, z2, z3, z4⟩ : nm.size ≤ 1024 ∧ rs.size ≤ 1024 ∧ lf.size ≤ 1024 ∧ rt.size ≤ 1024 := by
    have p1 := pr_size HH.out
    have p2 := pr_parts ⟨nm, rs, lf, rt, lo⟩
    simp only at p2
    omega
  obtain ⟨b1, e1, E1⟩ := noB rt
  obtain ⟨b2, e2, E2⟩ := noB lf
  obtain ⟨b3, e3, E3⟩ := noB rs
  cases b1 <;> cases b2 <;> cases b3
  all_goals
    go_wp2_with fail
    go_loopw [5, 6] (fun tv iv wr => ∃ (t : ByteArray) (i : Nat), tv = .string t ∧ iv = .int .i64 i ∧ i ≤ lo.length ∧ Hid (t.data.toList ++ (lo.drop i).flatMap (fun x => semT.data.toList ++ x.data.toList) = prH ⟨nm, rs, lf, rt, lo⟩) ∧ Below w2.heap.size w2 wr) (fun _ iv _ => lo.length - (intOf iv).toNat)
    case atStart =>
      refine ⟨_, 0, rfl, rfl, Nat.zero_le _, ?_, Below.refl _ _⟩
      have d1 := E1.out
      have d2 := E2.out
      have d3 := E3.out
      simp only [decide_eq_true_eq, decide_eq_false_iff_not] at d1 d2 d3
      unfold Hid prH
      simp [d1, d2, d3, ByteArray.data_append, arwT]
    case round =>
      obtain ⟨t, i, rfl, rfl, hil, HT, kr⟩ := hrel
      have sr := kr.size
      by_cases hlt : i < lo.length
      · obtain ⟨g, og, rfl, hg, hc⟩ := HS2.out.ptr (by omega)
        have q := (kr.cell (p := ⟨g, og + i, none⟩) hg).trans (hc i hlt)
        obtain ⟨x, hx⟩ : ∃ x, x = lo.getD i noT := ⟨_, rfl⟩
        rw [← hx] at q
        have r4 := (N2.below kr s2).cell 4 rfl
        have HT2 : Hid ((t ++ ((⟨#[59]⟩ : ByteArray) ++ x)).data.toList ++ (lo.drop (i + 1)).flatMap (fun x => semT.data.toList ++ x.data.toList) = prH ⟨nm, rs, lf, rt, lo⟩) := heads_step hlt hx HT.out
        have hz := heads_size HH.out HT2.out
        have zt : t.size ≤ 1024 := hz.1
        have zx : x.size ≤ 1024 := hz.2
        have i1 : (i : Int) < (lo.length : Int) := by omega
        have HLT : Hid (i < lo.length) := hlt
        have hcap := HS2.out.cap
        have hw : IntKind.i64.wrap ((i : Int) + 1) = (i : Int) + 1 := by rw [IntKind.wrap_i64]; omega
        clear hcap
        clear hc hx y0 y1 y2 y3 y4 y5 y6 y7 y8 HT hz HH HS2 E1 E2 E3 e1 e2 e3 z1 z2 z3 z4
        go_wp2
        go_roundw
        case rel => exact ⟨_, i + 1, rfl, by go_num, HLT.out, HT2, kr⟩
        case measure => have := HLT.out; simp [intOf]; omega
      · have HT2 : Hid (t.data.toList = prH ⟨nm, rs, lf, rt, lo⟩) := by
          have := HT.out
          rw [show i = lo.length by omega, List.drop_length, List.flatMap_nil, List.append_nil] at this
          exact this
        have ha := header_again HH.out HT2.out
        have C2 := header_any hne t (w := wr) (by have := ha.2; omega)
        rw [ha.1] at C2
        have HC2 : Hid (Calls Tryz.prog 14 _ wr _) := C2
        have Nr := N2.below kr s2
        have Br := B2.below kr (by omega)
        have r4 := Nr.cell 4 rfl
        have i1 : ¬ (i : Int) < (lo.length : Int) := by omega
        clear C2 ha HT HT2 y0 y1 y2 y3 y4 y5 y6 y7 y8 e2 e3 z1 z2 z3 z4 hne
        go_wp2_with fail
        refine HC2.out.mono ?_
        rintro e w3 ⟨hcase, k3⟩
        clear HC2
        rcases hcase with ⟨h', a2, c2, gl2, hh, rfl, oL, bS⟩ | ⟨hh, rfl⟩
        case inr => exact nomatch hh
        obtain rfl := Option.some.inj hh
        simp only at oL ⊢
        have s3 := k3.size
        have N3 := Nr.below k3 (by omega)
        go_upto_region 16 with fail
        have k4 := below_alloc w3 (.cells (fnV nm rs lf rt (.slice a2 lo.length c2) (.slice none 0 0) (.slice none 0 0) (.slice (some ⟨gl2, 0, none⟩) 1 1) false) 25)
        have G4 := boxA_new w3 (fnV nm rs lf rt (.slice a2 lo.length c2) (.slice none 0 0) (.slice none 0 0) (.slice (some ⟨gl2, 0, none⟩) 1 1) false) 25
        have N4 := N3.below k4 (by omega)
        have s4 : w3.heap.size < (w3.alloc (.cells (fnV nm rs lf rt (.slice a2 lo.length c2) (.slice none 0 0) (.slice none 0 0) (.slice (some ⟨gl2, 0, none⟩) 1 1) false) 25)).heap.size := by simp
        have L1 : RdS w2.heap.size (w3.alloc (.cells (fnV nm rs lf rt (.slice a2 lo.length c2) (.slice none 0 0) (.slice none 0 0) (.slice (some ⟨gl2, 0, none⟩) 1 1) false) 25)) (.slice a1 lo.length c1) lo := ((HS2.out.below kr (Nat.le_refl _)).below k3 sr).below k4 (by omega)
        have L2 : RdS w3.heap.size (w3.alloc (.cells (fnV nm rs lf rt (.slice a2 lo.length c2) (.slice none 0 0) (.slice none 0 0) (.slice (some ⟨gl2, 0, none⟩) 1 1) false) 25)) (.slice a2 lo.length c2) lo := (RdS.of_row oL).below k4 (Nat.le_refl _)
        have B4 := ((B2.below kr (by omega)).below k3 (by omega)).below k4 (by omega)
        have g4 : Below w.heap.size w (w3.alloc (.cells (fnV nm rs lf rt (.slice a2 lo.length c2) (.slice none 0 0) (.slice none 0 0) (.slice (some ⟨gl2, 0, none⟩) 1 1) false) 25)) := ((g2.trans (kr.mono g2.size)).trans (k3.mono (by have := g2.size; omega))).trans (k4.mono (by have := g2.size; omega))
        generalize hW4 : w3.alloc (.cells (fnV nm rs lf rt (.slice a2 lo.length c2) (.slice none 0 0) (.slice none 0 0) (.slice (some ⟨gl2, 0, none⟩) 1 1) false) 25) = w4 at *
        clear hW4 k4 oL bS HS2 HH N2 Nr N3 B2 Br r4 k3
        have r7 := N4.cell 7 rfl
        have q7 := G4.cell 7 rfl
        have f7 := G4.frozen 7
        have G5 : BoxA (w4.setCell ⟨w3.heap.size, 7, none⟩ (.slice (some ⟨gl, 0, none⟩) 1 1)) w3.heap.size 25 (fnV nm rs lf rt (.slice a2 lo.length c2) (.slice none 0 0) (.slice none 0 0) (.slice (some ⟨gl, 0, none⟩) 1 1) false) := boxA_put G4 7 (.slice (some ⟨gl, 0, none⟩) 1 1)
        have k5 : Below w3.heap.size w4 (w4.setCell ⟨w3.heap.size, 7, none⟩ (.slice (some ⟨gl, 0, none⟩) 1 1)) := Below.setCell (Below.refl _ _) (p := ⟨w3.heap.size, 7, none⟩) (Nat.le_refl _) _
        have N5 := N4.below k5 (by omega)
        have B5 := B4.below k5 (by omega)
        have M1 := L1.below k5 (by omega)
        have M2 := L2.below k5 (Nat.le_refl _)
        have g5 : Below w.heap.size w (w4.setCell ⟨w3.heap.size, 7, none⟩ (.slice (some ⟨gl, 0, none⟩) 1 1)) := g4.trans (k5.mono (by have := g2.size; omega))
        have s5 : w4.heap.size ≤ (w4.setCell ⟨w3.heap.size, 7, none⟩ (.slice (some ⟨gl, 0, none⟩) 1 1)).heap.size := k5.size
        go_wp2_with fail
        generalize w4.setCell ⟨w3.heap.size, 7, none⟩ (.slice (some ⟨gl, 0, none⟩) 1 1) = w5 at *
        clear r7 q7 f7 G4 N4 B4 L1 L2 k5 g4
        have hcells : ∀ {w' : World}, Below w5.heap.size w5 w' → w'.cell? ⟨w1.heap.size, 0, none⟩ = some (.string nm) ∧ w'.cell? ⟨w1.heap.size, 1, none⟩ = some (.string rs) ∧ w'.cell? ⟨w1.heap.size, 2, none⟩ = some (.string lf) ∧ w'.cell? ⟨w1.heap.size, 3, none⟩ = some (.string rt) ∧ w'.cell? ⟨w1.heap.size, 4, none⟩ = some (.slice a1 lo.length c1) ∧ w'.cell? ⟨w1.heap.size, 5, none⟩ = some (.slice none 0 0) ∧ w'.cell? ⟨w1.heap.size, 6, none⟩ = some (.slice none 0 0) ∧ w'.cell? ⟨w1.heap.size, 7, none⟩ = some (.slice (some ⟨gl, 0, none⟩) 1 1) ∧ w'.cell? ⟨w1.heap.size, 8, none⟩ = some (.bool false) ∧ w'.cell? ⟨w3.heap.size, 0, none⟩ = some (.string nm) ∧ w'.cell? ⟨w3.heap.size, 1, none⟩ = some (.string rs) ∧ w'.cell? ⟨w3.heap.size, 2, none⟩ = some (.string lf) ∧ w'.cell? ⟨w3.heap.size, 3, none⟩ = some (.string rt) ∧ w'.cell? ⟨w3.heap.size, 4, none⟩ = some (.slice a2 lo.length c2) ∧ w'.cell? ⟨w3.heap.size, 5, none⟩ = some (.slice none 0 0) ∧ w'.cell? ⟨w3.heap.size, 6, none⟩ = some (.slice none 0 0) ∧ w'.cell? ⟨w3.heap.size, 7, none⟩ = some (.slice (some ⟨gl, 0, none⟩) 1 1) ∧ w'.cell? ⟨w3.heap.size, 8, none⟩ = some (.bool false) := fun hb => by
          have F := N5.below hb (by omega)
          have G := G5.below hb (by omega)
          exact ⟨F.cell 0 rfl, F.cell 1 rfl, F.cell 2 rfl, F.cell 3 rfl, F.cell 4 rfl, F.cell 5 rfl, F.cell 6 rfl, F.cell 7 rfl, F.cell 8 rfl, G.cell 0 rfl, G.cell 1 rfl, G.cell 2 rfl, G.cell 3 rfl, G.cell 4 rfl, G.cell 5 rfl, G.cell 6 rfl, G.cell 7 rfl, G.cell 8 rfl⟩
        have HC6 : Hid (∀ W, Below w5.heap.size w5 W → Calls Tryz.prog 13 _ W _) := fun W kb => same_fn (nm := nm) (rs := rs) (lf := lf) (rt := rt) (ln := [s]) (b := some ⟨gl, 0, none⟩) (d := 1) (M1.below kb (by omega)) (M2.below kb (by omega)) (C := w5.heap.size) (rdS_box (B5.below kb (by omega)) (by omega)) (by have := kb.size; omega) (by have := kb.size; omega) kb.size
        have HC7 : Hid (∀ W, Calls Tryz.prog 15 _ W _) := fun W => niladic_fn W nm rs lf rt (.slice a1 lo.length c1) (.slice none 0 0) (.slice none 0 0) (.slice (some ⟨gl, 0, none⟩) 1 1)
        rw [E1.out] at HC7
        obtain ⟨t0, t1, t2, t3, t4, t5, t6, t7, t8, t9, t10, t11, t12, t13, t14, t15, t16, t17⟩ := hcells (Below.refl _ _)
        have d1 : Below w5.heap.size w5 w5.drew := ⟨rfl, rfl, rfl, Nat.le_refl _, fun _ _ => rfl⟩
        go_region_held3 (fun w' => w'.cell? ⟨w1.heap.size, 0, none⟩ = some (.string nm) ∧ w'.cell? ⟨w1.heap.size, 1, none⟩ = some (.string rs) ∧ w'.cell? ⟨w1.heap.size, 2, none⟩ = some (.string lf) ∧ w'.cell? ⟨w1.heap.size, 3, none⟩ = some (.string rt) ∧ w'.cell? ⟨w1.heap.size, 4, none⟩ = some (.slice a1 lo.length c1) ∧ w'.cell? ⟨w1.heap.size, 5, none⟩ = some (.slice none 0 0) ∧ w'.cell? ⟨w1.heap.size, 6, none⟩ = some (.slice none 0 0) ∧ w'.cell? ⟨w1.heap.size, 7, none⟩ = some (.slice (some ⟨gl, 0, none⟩) 1 1) ∧ w'.cell? ⟨w1.heap.size, 8, none⟩ = some (.bool false) ∧ w'.cell? ⟨w3.heap.size, 0, none⟩ = some (.string nm) ∧ w'.cell? ⟨w3.heap.size, 1, none⟩ = some (.string rs) ∧ w'.cell? ⟨w3.heap.size, 2, none⟩ = some (.string lf) ∧ w'.cell? ⟨w3.heap.size, 3, none⟩ = some (.string rt) ∧ w'.cell? ⟨w3.heap.size, 4, none⟩ = some (.slice a2 lo.length c2) ∧ w'.cell? ⟨w3.heap.size, 5, none⟩ = some (.slice none 0 0) ∧ w'.cell? ⟨w3.heap.size, 6, none⟩ = some (.slice none 0 0) ∧ w'.cell? ⟨w3.heap.size, 7, none⟩ = some (.slice (some ⟨gl, 0, none⟩) 1 1) ∧ w'.cell? ⟨w3.heap.size, 8, none⟩ = some (.bool false)) (first | (go_keep; done) | exact tw)
          (first | (go_at_call 15; have j := g7; refine (HC7.out w7).mono ?_; rintro e w8 ⟨rfl, k8⟩; have g8 : Below w5.heap.size w5 w8 := g7.trans (k8.mono g7.size); have tw := hcells g8) | (go_at_call 13; have j := g6; refine (HC6.out w6 g6).mono ?_; rintro e w7 ⟨rfl, k7⟩; have g7 : Below w5.heap.size w5 w7 := g6.trans (k7.mono g6.size); have tw := hcells g7) | (go_at_call 8; refine (live12_ok w5.drew).mono ?_; rintro e w6 ⟨rfl, k6⟩; have g6 : Below w5.heap.size w5 w6 := below_undrew k6; have tw := hcells g6))
        all_goals
          have g9 : Below w.heap.size w w8 := g5.trans (g8.mono (by have := g2.size; omega))
          go_wp2
          go_ret
          exact ⟨rfl, g9⟩
end Go.Proofs.YtafaafdbfdeeoaaGreatDoor
