/- define.headed. -/
import Derived.Test.YtimfnalpmmkndaaGreatDoorDA
namespace Go.Proofs.YtimfnalpmmkndaaGreatDoor
set_option linter.unusedVariables false
set_option linter.unusedSimpArgs false
open Go.RowKit

theorem resK_lt {T : List Tk} (hE : EndT T) : resK T < T.length := by
 unfold resK
 have h0 := hE.pos
 by_cases h : tkd T 0 = 3 ∧ ttx T 1 = arwT
 · rw [if_pos h]
   have h1 := hE.next h0 (Or.inl (by rw [h.1]; decide))
   exact hE.next h1 (Or.inr (by rw [h.2]; decide))
 · rw [if_neg h]; exact h0
theorem fn_set9 {w : World} {R : Nat} {u0 u1 u2 u3 u4 u5 u6 u7 u8 : Value} (h : BoxA w R 36 #[u0, u1, u2, u3, u4, u5, u6, u7, u8]) (v0 v1 v2 v3 v4 v5 v6 v7 v8 : Value) : BoxA (((((((((w.setCell ⟨R, 0, none⟩ (v0)).setCell ⟨R, 1, none⟩ (v1)).setCell ⟨R, 2, none⟩ (v2)).setCell ⟨R, 3, none⟩ (v3)).setCell ⟨R, 4, none⟩ (v4)).setCell ⟨R, 5, none⟩ (v5)).setCell ⟨R, 6, none⟩ (v6)).setCell ⟨R, 7, none⟩ (v7)).setCell ⟨R, 8, none⟩ (v8)) R 36 #[v0, v1, v2, v3, v4, v5, v6, v7, v8] := by
 have h0 : BoxA (w.setCell ⟨R, 0, none⟩ v0) R 36 #[v0, u1, u2, u3, u4, u5, u6, u7, u8] := boxA_put h 0 v0
 have h1 : BoxA ((w.setCell ⟨R, 0, none⟩ v0).setCell ⟨R, 1, none⟩ v1) R 36 #[v0, v1, u2, u3, u4, u5, u6, u7, u8] := boxA_put h0 1 v1
 have h2 : BoxA (((w.setCell ⟨R, 0, none⟩ v0).setCell ⟨R, 1, none⟩ v1).setCell ⟨R, 2, none⟩ v2) R 36 #[v0, v1, v2, u3, u4, u5, u6, u7, u8] := boxA_put h1 2 v2
 have h3 : BoxA ((((w.setCell ⟨R, 0, none⟩ v0).setCell ⟨R, 1, none⟩ v1).setCell ⟨R, 2, none⟩ v2).setCell ⟨R, 3, none⟩ v3) R 36 #[v0, v1, v2, v3, u4, u5, u6, u7, u8] := boxA_put h2 3 v3
 have h4 : BoxA (((((w.setCell ⟨R, 0, none⟩ v0).setCell ⟨R, 1, none⟩ v1).setCell ⟨R, 2, none⟩ v2).setCell ⟨R, 3, none⟩ v3).setCell ⟨R, 4, none⟩ v4) R 36 #[v0, v1, v2, v3, v4, u5, u6, u7, u8] := boxA_put h3 4 v4
 have h5 : BoxA ((((((w.setCell ⟨R, 0, none⟩ v0).setCell ⟨R, 1, none⟩ v1).setCell ⟨R, 2, none⟩ v2).setCell ⟨R, 3, none⟩ v3).setCell ⟨R, 4, none⟩ v4).setCell ⟨R, 5, none⟩ v5) R 36 #[v0, v1, v2, v3, v4, v5, u6, u7, u8] := boxA_put h4 5 v5
 have h6 : BoxA (((((((w.setCell ⟨R, 0, none⟩ v0).setCell ⟨R, 1, none⟩ v1).setCell ⟨R, 2, none⟩ v2).setCell ⟨R, 3, none⟩ v3).setCell ⟨R, 4, none⟩ v4).setCell ⟨R, 5, none⟩ v5).setCell ⟨R, 6, none⟩ v6) R 36 #[v0, v1, v2, v3, v4, v5, v6, u7, u8] := boxA_put h5 6 v6
 have h7 : BoxA ((((((((w.setCell ⟨R, 0, none⟩ v0).setCell ⟨R, 1, none⟩ v1).setCell ⟨R, 2, none⟩ v2).setCell ⟨R, 3, none⟩ v3).setCell ⟨R, 4, none⟩ v4).setCell ⟨R, 5, none⟩ v5).setCell ⟨R, 6, none⟩ v6).setCell ⟨R, 7, none⟩ v7) R 36 #[v0, v1, v2, v3, v4, v5, v6, v7, u8] := boxA_put h6 7 v7
 have h8 : BoxA (((((((((w.setCell ⟨R, 0, none⟩ v0).setCell ⟨R, 1, none⟩ v1).setCell ⟨R, 2, none⟩ v2).setCell ⟨R, 3, none⟩ v3).setCell ⟨R, 4, none⟩ v4).setCell ⟨R, 5, none⟩ v5).setCell ⟨R, 6, none⟩ v6).setCell ⟨R, 7, none⟩ v7).setCell ⟨R, 8, none⟩ v8) R 36 #[v0, v1, v2, v3, v4, v5, v6, v7, v8] := boxA_put h7 8 v8
 exact h8
theorem below_set9 {C : Nat} {a w : World} {R : Nat} (h : Below C a w) (hR : C ≤ R) (v0 v1 v2 v3 v4 v5 v6 v7 v8 : Value) : Below C a (((((((((w.setCell ⟨R, 0, none⟩ (v0)).setCell ⟨R, 1, none⟩ (v1)).setCell ⟨R, 2, none⟩ (v2)).setCell ⟨R, 3, none⟩ (v3)).setCell ⟨R, 4, none⟩ (v4)).setCell ⟨R, 5, none⟩ (v5)).setCell ⟨R, 6, none⟩ (v6)).setCell ⟨R, 7, none⟩ (v7)).setCell ⟨R, 8, none⟩ (v8)) := Below.setCell (Below.setCell (Below.setCell (Below.setCell (Below.setCell (Below.setCell (Below.setCell (Below.setCell (Below.setCell h hR _) hR _) hR _) hR _) hR _) hR _) hR _) hR _) hR _
theorem owS_set9 {base : Nat} {w : World} {R : Nat} {v : Value} {ss : List ByteArray} (h : OwS base w v ss) (hR : R < base) (v0 v1 v2 v3 v4 v5 v6 v7 v8 : Value) : OwS base (((((((((w.setCell ⟨R, 0, none⟩ (v0)).setCell ⟨R, 1, none⟩ (v1)).setCell ⟨R, 2, none⟩ (v2)).setCell ⟨R, 3, none⟩ (v3)).setCell ⟨R, 4, none⟩ (v4)).setCell ⟨R, 5, none⟩ (v5)).setCell ⟨R, 6, none⟩ (v6)).setCell ⟨R, 7, none⟩ (v7)).setCell ⟨R, 8, none⟩ (v8)) v ss := by
 have hn : v.ownBlock ≠ some R := fun e => by have := (h.lt R e).1; omega
 exact ownsRow_setCell_other (ownsRow_setCell_other (ownsRow_setCell_other (ownsRow_setCell_other (ownsRow_setCell_other (ownsRow_setCell_other (ownsRow_setCell_other (ownsRow_setCell_other (ownsRow_setCell_other h (a := ⟨R, 0, none⟩) hn _) (a := ⟨R, 1, none⟩) hn _) (a := ⟨R, 2, none⟩) hn _) (a := ⟨R, 3, none⟩) hn _) (a := ⟨R, 4, none⟩) hn _) (a := ⟨R, 5, none⟩) hn _) (a := ⟨R, 6, none⟩) hn _) (a := ⟨R, 7, none⟩) hn _) (a := ⟨R, 8, none⟩) hn _
theorem other_set9 {w : World} {R q : Nat} (hq : ¬ R = q) (v0 v1 v2 v3 v4 v5 v6 v7 v8 : Value) : (((((((((w.setCell ⟨R, 0, none⟩ (v0)).setCell ⟨R, 1, none⟩ (v1)).setCell ⟨R, 2, none⟩ (v2)).setCell ⟨R, 3, none⟩ (v3)).setCell ⟨R, 4, none⟩ (v4)).setCell ⟨R, 5, none⟩ (v5)).setCell ⟨R, 6, none⟩ (v6)).setCell ⟨R, 7, none⟩ (v7)).setCell ⟨R, 8, none⟩ (v8)).heap[q]? = w.heap[q]? := by
 simp [World.setCell, Array.getElem?_modify, hq]
def HeadIs (w : World) (T : List Tk) (e : Ending) (w' : World) : Prop :=
 ((∃ h a c, headF T = some h ∧ e = .returned (.tuple #[.agg (fnV h.nm h.rs h.lf h.rt (.slice a h.ls.length c) (.slice none 0 0) (.slice none 0 0) (.slice none 0 0) false), .bool true]) ∧ OwS w.heap.size w' (.slice a h.ls.length c) h.ls) ∨
  (headF T = none ∧ ∃ nm rs lf rt a n c, e = .returned (.tuple #[.agg (fnV nm rs lf rt (.slice a n c) (.slice none 0 0) (.slice none 0 0) (.slice none 0 0) false), .bool false]))) ∧ Below w.heap.size w w'
abbrev fn0 : Array Value := fnV ⟨#[]⟩ ⟨#[]⟩ ⟨#[]⟩ ⟨#[]⟩ (.slice none 0 0) (.slice none 0 0) (.slice none 0 0) (.slice none 0 0) false
theorem cells9 {w : World} {R ty : Nat} {u0 u1 u2 u3 u4 u5 u6 u7 u8 : Value} (h : BoxA w R ty #[u0, u1, u2, u3, u4, u5, u6, u7, u8]) : w.cell? ⟨R, 0, none⟩ = some u0 ∧ w.cell? ⟨R, 1, none⟩ = some u1 ∧ w.cell? ⟨R, 2, none⟩ = some u2 ∧ w.cell? ⟨R, 3, none⟩ = some u3 ∧ w.cell? ⟨R, 4, none⟩ = some u4 ∧ w.cell? ⟨R, 5, none⟩ = some u5 ∧ w.cell? ⟨R, 6, none⟩ = some u6 ∧ w.cell? ⟨R, 7, none⟩ = some u7 ∧ w.cell? ⟨R, 8, none⟩ = some u8 := ⟨h.cell 0 rfl, h.cell 1 rfl, h.cell 2 rfl, h.cell 3 rfl, h.cell 4 rfl, h.cell 5 rfl, h.cell 6 rfl, h.cell 7 rfl, h.cell 8 rfl⟩
theorem frozen9 {w : World} {R ty : Nat} {xs : Array Value} (h : BoxA w R ty xs) : w.frozen? ⟨R, 0, none⟩ = false ∧ w.frozen? ⟨R, 1, none⟩ = false ∧ w.frozen? ⟨R, 2, none⟩ = false ∧ w.frozen? ⟨R, 3, none⟩ = false ∧ w.frozen? ⟨R, 4, none⟩ = false ∧ w.frozen? ⟨R, 5, none⟩ = false ∧ w.frozen? ⟨R, 6, none⟩ = false ∧ w.frozen? ⟨R, 7, none⟩ = false ∧ w.frozen? ⟨R, 8, none⟩ = false := ⟨h.frozen 0, h.frozen 1, h.frozen 2, h.frozen 3, h.frozen 4, h.frozen 5, h.frozen 6, h.frozen 7, h.frozen 8⟩
theorem put0 {C : Nat} {a w : World} {R : Nat} {u0 u1 u2 u3 u4 u5 u6 u7 u8 : Value} (h : BoxA w R 36 #[u0, u1, u2, u3, u4, u5, u6, u7, u8]) (k : Below C a w) (hR : C ≤ R) : ∃ wz, (((((((((w.setCell ⟨R, 0, none⟩ (.string ⟨#[]⟩)).setCell ⟨R, 1, none⟩ (.string ⟨#[]⟩)).setCell ⟨R, 2, none⟩ (.string ⟨#[]⟩)).setCell ⟨R, 3, none⟩ (.string ⟨#[]⟩)).setCell ⟨R, 4, none⟩ (.slice none 0 0)).setCell ⟨R, 5, none⟩ (.slice none 0 0)).setCell ⟨R, 6, none⟩ (.slice none 0 0)).setCell ⟨R, 7, none⟩ (.slice none 0 0)).setCell ⟨R, 8, none⟩ (.bool false)) = wz ∧ BoxA wz R 36 fn0 ∧ Below C a wz := ⟨_, rfl, fn_set9 h _ _ _ _ _ _ _ _ _, below_set9 k hR _ _ _ _ _ _ _ _ _⟩
set_option maxRecDepth 100000 in
set_option maxHeartbeats 16000000 in
theorem headed_any {B : Nat} {w : World} {g : Nat} {T : List Tk} {c : Nat} (h : TokR B w g T) (hB : B ≤ w.heap.size) (hc : T.length ≤ c) (hc2 : c ≤ 9223372036854775807) :
    Calls Tryz.prog 83 #[.slice (some ⟨g, 0, none⟩) T.length c] w (HeadIs w T) := by
 have hf := h.few
 have HT : Hid (TokR B w g T) := h
 have k0 := below_alloc w (.cells fn0 36)
 have F0 := boxA_new w fn0 36
 generalize hW0 : w.alloc (.cells fn0 36) = w0 at *
 have s0 : w0.heap.size = w.heap.size + 1 := by rw [← hW0]; simp
 obtain ⟨ns, hns⟩ : ∃ ns, ns = namesOfF T := ⟨_, rfl⟩
 obtain ⟨ls, hls⟩ : ∃ ls, ls = localsOfF T := ⟨_, rfl⟩
 have hr1 := resK_lt h.fin
 have C1 := resultOf_any (w := w0) (h.below k0 hB) hc hc2
 obtain ⟨r, hr⟩ : ∃ r, r = resK T := ⟨_, rfl⟩
 obtain ⟨rs, hrs⟩ : ∃ rs, rs = resT T := ⟨_, rfl⟩
 rw [← hr, ← hrs] at C1
 rw [← hr] at hr1
 have HNS : Hid (ns = namF T T.length r) := by unfold Hid; rw [hns, hr]; rfl
 have HLS : Hid (ls = locF T T.length (r + ns.length)) := by unfold Hid; rw [hls, localsOfF, ← hns, hr]
 have HH : Hid (headF T = if ¬ tkd T (r + ns.length + 2 * ls.length) = 0 ∨ 32 < ls.length then none else pickH (hdOf rs ls ns)) := by
  unfold Hid headF endK
  rw [← hls, ← hns, ← hr, ← hrs]
 have HC1 : Hid (Calls Tryz.prog 118 _ w0 _) := C1
 clear h hns hls hr hrs C1
 go_enter Tryz.func83, Tryz.ntmps83
 go_wp2_with fail
 refine HC1.out.mono ?_
 rintro e w1 ⟨rfl, k1⟩
 have s1 := k1.size
 have g1 : Below w.heap.size w w1 := k0.trans (k1.mono (by omega))
 have F1 := F0.below k1 (by omega)
 have C2 : Hid (Calls Tryz.prog 119 _ w1 _) := namesOf_any (w := w1) (r := r) (HT.out.below g1 hB) (by omega) hr1 hc hc2 HNS
 clear HC1 F0 k0 k1
 go_wp2_with fail
 refine C2.out.mono ?_
 rintro e w2 ⟨a2, c2, rfl, hO2, k2, hr2⟩
 have s2 := k2.size
 have g2 : Below w.heap.size w w2 := g1.trans (k2.mono (by omega))
 have F2 := F1.below k2 (by omega)
 have C3 : Hid (Calls Tryz.prog 120 _ w2 _) := localsOf_any (w := w2) (r := r + ns.length) (HT.out.below g2 hB) (by omega) hr2 hc hc2 HLS
 have HO2 : Hid (OwS w1.heap.size w2 (.slice a2 ns.length c2) ns) := hO2
 clear C2 F1 k2 hO2
 generalize hrn : r + ns.length = rn at *
 go_wp2_with fail
 refine C3.out.mono ?_
 rintro e w3 ⟨a3, c3, rfl, hO3, k3, hr3⟩
 have s3 := k3.size
 have g3 : Below w.heap.size w w3 := g2.trans (k3.mono (by omega))
 have F3 := F2.below k3 (by omega)
 have HO2 : Hid (OwS w1.heap.size w3 (.slice a2 ns.length c2) ns) := owS_belowS HO2.out k3 (Nat.le_refl _)
 have HO3 : Hid (OwS w2.heap.size w3 (.slice a3 ls.length c3) ls) := hO3
 have qk := (HT.out.below g3 hB).kd _ hr3
 have hl0 : 0 < T.length - (rn + 2 * ls.length) := by omega
 have hnl : ns.length ≤ 1025 := by omega
 have hll : ls.length ≤ 1025 := by omega
 have hcc : T.length - (rn + 2 * ls.length) ≤ c - (rn + 2 * ls.length) := by omega
 have hcc2 : c - (rn + 2 * ls.length) ≤ 9223372036854775807 := by omega
 generalize (rn + 2 * ls.length) * 5 = oo at *
 generalize T.length - (rn + 2 * ls.length) = nn at *
 generalize c - (rn + 2 * ls.length) = mm at *
 generalize tkd T (rn + 2 * ls.length) = kk at *
 clear C3 F2 k3 hO3 HLS HNS HT hr1 hr2 hr3 hrn
 obtain ⟨z0, z1, z2, z3, z4, z5, z6, z7, z8⟩ := cells9 F3
 obtain ⟨y0, y1, y2, y3, y4, y5, y6, y7, y8⟩ := frozen9 F3
 by_cases hk : kk = 0
 case neg =>
  have e1 : (kk != 0) = true := by rw [bne_iff_ne]; exact hk
  have HN : Hid (headF T = none) := by unfold Hid; rw [HH.out, if_pos (Or.inl hk)]
  clear HH hk
  have Z := fn_set9 F3 (.string ⟨#[]⟩) (.string ⟨#[]⟩) (.string ⟨#[]⟩) (.string ⟨#[]⟩) (.slice none 0 0) (.slice none 0 0) (.slice none 0 0) (.slice none 0 0) (.bool false)
  have kz := below_set9 (R := w.heap.size) g3 (Nat.le_refl _) (.string ⟨#[]⟩) (.string ⟨#[]⟩) (.string ⟨#[]⟩) (.string ⟨#[]⟩) (.slice none 0 0) (.slice none 0 0) (.slice none 0 0) (.slice none 0 0) (.bool false)
  generalize hWz : (((((((((w3.setCell ⟨w.heap.size, 0, none⟩ (.string ⟨#[]⟩)).setCell ⟨w.heap.size, 1, none⟩ (.string ⟨#[]⟩)).setCell ⟨w.heap.size, 2, none⟩ (.string ⟨#[]⟩)).setCell ⟨w.heap.size, 3, none⟩ (.string ⟨#[]⟩)).setCell ⟨w.heap.size, 4, none⟩ (.slice none 0 0)).setCell ⟨w.heap.size, 5, none⟩ (.slice none 0 0)).setCell ⟨w.heap.size, 6, none⟩ (.slice none 0 0)).setCell ⟨w.heap.size, 7, none⟩ (.slice none 0 0)).setCell ⟨w.heap.size, 8, none⟩ (.bool false)) = wz at *
  obtain ⟨d0, d1, d2, d3, d4, d5, d6, d7, d8⟩ := cells9 Z
  go_wp2
  refine bodyPost_ret (v := .tuple #[.agg fn0, .bool false]) (by simp [results, Tryz.results83, go_sem, d0, d1, d2, d3, d4, d5, d6, d7, d8]) rfl ?_
  exact ⟨Or.inr ⟨HN.out, _, _, _, _, _, _, _, rfl⟩, kz⟩
 have e1 : (kk != 0) = false := by rw [hk]; rfl
 by_cases hl32 : 32 < ls.length
 case pos =>
  have HN : Hid (headF T = none) := by unfold Hid; rw [HH.out, if_pos (Or.inr hl32)]
  have e2 : (32 : Int) < (ls.length : Int) := by omega
  clear HH hk
  have Z := fn_set9 F3 (.string ⟨#[]⟩) (.string ⟨#[]⟩) (.string ⟨#[]⟩) (.string ⟨#[]⟩) (.slice none 0 0) (.slice none 0 0) (.slice none 0 0) (.slice none 0 0) (.bool false)
  have kz := below_set9 (R := w.heap.size) g3 (Nat.le_refl _) (.string ⟨#[]⟩) (.string ⟨#[]⟩) (.string ⟨#[]⟩) (.string ⟨#[]⟩) (.slice none 0 0) (.slice none 0 0) (.slice none 0 0) (.slice none 0 0) (.bool false)
  generalize hWz : (((((((((w3.setCell ⟨w.heap.size, 0, none⟩ (.string ⟨#[]⟩)).setCell ⟨w.heap.size, 1, none⟩ (.string ⟨#[]⟩)).setCell ⟨w.heap.size, 2, none⟩ (.string ⟨#[]⟩)).setCell ⟨w.heap.size, 3, none⟩ (.string ⟨#[]⟩)).setCell ⟨w.heap.size, 4, none⟩ (.slice none 0 0)).setCell ⟨w.heap.size, 5, none⟩ (.slice none 0 0)).setCell ⟨w.heap.size, 6, none⟩ (.slice none 0 0)).setCell ⟨w.heap.size, 7, none⟩ (.slice none 0 0)).setCell ⟨w.heap.size, 8, none⟩ (.bool false)) = wz at *
  obtain ⟨d0, d1, d2, d3, d4, d5, d6, d7, d8⟩ := cells9 Z
  go_wp2
  refine bodyPost_ret (v := .tuple #[.agg fn0, .bool false]) (by simp [results, Tryz.results83, go_sem, d0, d1, d2, d3, d4, d5, d6, d7, d8]) rfl ?_
  exact ⟨Or.inr ⟨HN.out, _, _, _, _, _, _, _, rfl⟩, kz⟩
 have HH2 : Hid (headF T = pickH (hdOf rs ls ns)) := by unfold Hid; rw [HH.out, if_neg (by omega)]
 have e2 : ¬ (32 : Int) < (ls.length : Int) := by omega
 clear HH hk
 have k4 := below_alloc w3 (.cells (fnV ⟨#[]⟩ rs ⟨#[]⟩ ⟨#[]⟩ (.slice a3 ls.length c3) (.slice none 0 0) (.slice none 0 0) (.slice none 0 0) false) 36)
 have N4 := boxA_new w3 (fnV ⟨#[]⟩ rs ⟨#[]⟩ ⟨#[]⟩ (.slice a3 ls.length c3) (.slice none 0 0) (.slice none 0 0) (.slice none 0 0) false) 36
 have F4 := F3.below k4 F3.lt
 have g4 : Below w.heap.size w (w3.alloc (.cells (fnV ⟨#[]⟩ rs ⟨#[]⟩ ⟨#[]⟩ (.slice a3 ls.length c3) (.slice none 0 0) (.slice none 0 0) (.slice none 0 0) false) 36)) := g3.trans (k4.mono g3.size)
 have HO4 : Hid (OwS w1.heap.size (w3.alloc (.cells (fnV ⟨#[]⟩ rs ⟨#[]⟩ ⟨#[]⟩ (.slice a3 ls.length c3) (.slice none 0 0) (.slice none 0 0) (.slice none 0 0) false) 36)) (.slice a2 ns.length c2) ns) := HO2.out.alloc _
 have HO5 : Hid (OwS w2.heap.size (w3.alloc (.cells (fnV ⟨#[]⟩ rs ⟨#[]⟩ ⟨#[]⟩ (.slice a3 ls.length c3) (.slice none 0 0) (.slice none 0 0) (.slice none 0 0) false) 36)) (.slice a3 ls.length c3) ls) := HO3.out.alloc _
 go_upto_region 7 with fail
 generalize hW4 : w3.alloc (.cells (fnV ⟨#[]⟩ rs ⟨#[]⟩ ⟨#[]⟩ (.slice a3 ls.length c3) (.slice none 0 0) (.slice none 0 0) (.slice none 0 0) false) 36) = w4 at *
 have s4 : w4.heap.size = w3.heap.size + 1 := by rw [← hW4]; simp
 clear hW4
 obtain ⟨x0, x1, x2, x3, x4, x5, x6, x7, x8⟩ := cells9 F4
 obtain ⟨v0, v1, v2, v3, v4, v5, v6, v7, v8⟩ := frozen9 F4
 have hne : ¬ w.heap.size = w3.heap.size := by omega
 have HB3' : Hid (∀ k, (Value.slice a2 ns.length c2).ownBlock = some k → k < w3.heap.size) := fun k hk => (HO2.out.lt k hk).2
 have HB4' : Hid (∀ k, (Value.slice a3 ls.length c3).ownBlock = some k → k < w3.heap.size) := fun k hk => (HO3.out.lt k hk).2
 clear HO2 HO3 y0 y1 y2 y3 y4 y5 y6 y7 y8 z0 z1 z2 z3 z4 z5 z6 z7 z8
 by_cases hn4 : ns.length = 0 ∨ 3 < ns.length
 case pos =>
  have HN : Hid (headF T = none) := by
   unfold Hid
   rw [HH2.out]
   match ns, hn4 with
   | [], _ => rfl
   | [_], h => simp at h
   | [_, _], h => simp at h
   | [_, _, _], h => simp at h
   | _ :: _ :: _ :: _ :: _, _ => rfl
  have m1 : ((ns.length : Int) == 1) = false := by rw [beq_eq_false_iff_ne]; omega
  have m2 : ((ns.length : Int) == 2) = false := by rw [beq_eq_false_iff_ne]; omega
  have m3 : ((ns.length : Int) == 3) = false := by rw [beq_eq_false_iff_ne]; omega
  clear HH2 hn4 HO4 HO5
  have Z := fn_set9 F4 (.string ⟨#[]⟩) (.string ⟨#[]⟩) (.string ⟨#[]⟩) (.string ⟨#[]⟩) (.slice none 0 0) (.slice none 0 0) (.slice none 0 0) (.slice none 0 0) (.bool false)
  have kz := below_set9 (R := w.heap.size) g4 (Nat.le_refl _) (.string ⟨#[]⟩) (.string ⟨#[]⟩) (.string ⟨#[]⟩) (.string ⟨#[]⟩) (.slice none 0 0) (.slice none 0 0) (.slice none 0 0) (.slice none 0 0) (.bool false)
  generalize hWz : (((((((((w4.setCell ⟨w.heap.size, 0, none⟩ (.string ⟨#[]⟩)).setCell ⟨w.heap.size, 1, none⟩ (.string ⟨#[]⟩)).setCell ⟨w.heap.size, 2, none⟩ (.string ⟨#[]⟩)).setCell ⟨w.heap.size, 3, none⟩ (.string ⟨#[]⟩)).setCell ⟨w.heap.size, 4, none⟩ (.slice none 0 0)).setCell ⟨w.heap.size, 5, none⟩ (.slice none 0 0)).setCell ⟨w.heap.size, 6, none⟩ (.slice none 0 0)).setCell ⟨w.heap.size, 7, none⟩ (.slice none 0 0)).setCell ⟨w.heap.size, 8, none⟩ (.bool false)) = wz at *
  obtain ⟨d0, d1, d2, d3, d4, d5, d6, d7, d8⟩ := cells9 Z
  go_wp2
  refine bodyPost_ret (v := .tuple #[.agg fn0, .bool false]) (by simp [results, Tryz.results83, go_sem, d0, d1, d2, d3, d4, d5, d6, d7, d8]) rfl ?_
  exact ⟨Or.inr ⟨HN.out, _, _, _, _, _, _, _, rfl⟩, kz⟩
 have HB3 : Hid (∀ k, (Value.slice a2 ns.length c2).ownBlock = some k → k < w3.heap.size) := HB3'
 have HB4 : Hid (∀ k, (Value.slice a3 ls.length c3).ownBlock = some k → k < w3.heap.size) := HB4'
 clear HB3' HB4'
 rcases ns with _ | ⟨n1, _ | ⟨n2, _ | ⟨n3, _ | ⟨n4, nt⟩⟩⟩⟩
 · exact absurd (Or.inl rfl) hn4
 · clear hn4
   have HD : Hid (hdOf rs ls [n1] = some ⟨n1, rs, ⟨#[]⟩, ⟨#[]⟩, ls⟩) := rfl
   obtain ⟨gn, rfl, hn1, hn2, hgn⟩ := row_ptrS HO4.out (by simp)
   have nc0 : w4.cell? ⟨gn, 0, none⟩ = some (.string n1) := World.ownsRow.cellAt HO4.out 0 (by simp)
   have hgn1 : w1.heap.size ≤ gn := (HO4.out.lt gn rfl).1
   have hgn3 : gn < w3.heap.size := HB3.out gn rfl
   have hng : ¬ w3.heap.size = gn := by omega
   have b0 := N4.cell 0 rfl
   have b2 := N4.cell 2 rfl
   have b3 := N4.cell 3 rfl
   have f0' := N4.frozen 0
   have f2' := N4.frozen 2
   have f3' := N4.frozen 3
   have N50 : BoxA (w4.setCell ⟨w3.heap.size, 0, none⟩ (.string n1)) w3.heap.size 36 (fnV n1 rs ⟨#[]⟩ ⟨#[]⟩ (.slice a3 ls.length c3) (.slice none 0 0) (.slice none 0 0) (.slice none 0 0) false) := boxA_put N4 0 (.string n1)
   have g50 : Below w.heap.size w (w4.setCell ⟨w3.heap.size, 0, none⟩ (.string n1)) := Below.setCell g4 (by show _ ≤ w3.heap.size; omega) _
   have o50 : OwS w2.heap.size (w4.setCell ⟨w3.heap.size, 0, none⟩ (.string n1)) (.slice a3 ls.length c3) ls := ownsRow_setCell_other HO5.out (a := ⟨w3.heap.size, 0, none⟩) (fun e => by have := HB4.out _ e; simp at this) _
   have F50 : BoxA (w4.setCell ⟨w3.heap.size, 0, none⟩ (.string n1)) w.heap.size 36 fn0 := by
    have := F4
    unfold BoxA at this ⊢
    rw [← this]
    simp [World.setCell, Array.getElem?_modify, Ne.symm hne]
   have HO6 : Hid (OwS w2.heap.size (w4.setCell ⟨w3.heap.size, 0, none⟩ (.string n1)) (.slice a3 ls.length c3) ls) := o50
   have F5 := F50
   have N5 := N50
   have g5 := g50
   clear o50 F50 N50 g50 HO5
   generalize hW5 : (w4.setCell ⟨w3.heap.size, 0, none⟩ (.string n1)) = w5 at *
   have s5 : w3.heap.size < w5.heap.size := by rw [← hW5]; simp [World.setCell]; omega
   clear s4
   have hcells : ∀ {w' : World}, Below w5.heap.size w5 w' → w'.cell? ⟨w3.heap.size, 0, none⟩ = some (.string n1) ∧ w'.cell? ⟨w3.heap.size, 1, none⟩ = some (.string rs) ∧ w'.cell? ⟨w3.heap.size, 2, none⟩ = some (.string ⟨#[]⟩) ∧ w'.cell? ⟨w3.heap.size, 3, none⟩ = some (.string ⟨#[]⟩) ∧ w'.cell? ⟨w3.heap.size, 4, none⟩ = some (.slice a3 ls.length c3) ∧ w'.cell? ⟨w3.heap.size, 5, none⟩ = some (.slice none 0 0) ∧ w'.cell? ⟨w3.heap.size, 6, none⟩ = some (.slice none 0 0) ∧ w'.cell? ⟨w3.heap.size, 7, none⟩ = some (.slice none 0 0) ∧ w'.cell? ⟨w3.heap.size, 8, none⟩ = some (.bool false) := fun hb => by
    have F2 := N5.below hb (by omega)
    exact ⟨F2.cell 0 rfl, F2.cell 1 rfl, F2.cell 2 rfl, F2.cell 3 rfl, F2.cell 4 rfl, F2.cell 5 rfl, F2.cell 6 rfl, F2.cell 7 rfl, F2.cell 8 rfl⟩
   have HRd : ∀ {W : World}, Below w5.heap.size w5 W → RdS w5.heap.size W (.slice a3 ls.length c3) ls := fun hb => (RdS.of_row HO6.out).below hb (Nat.le_refl _)
   have d1 : Below w5.heap.size w5 w5.drew := ⟨rfl, rfl, rfl, Nat.le_refl _, fun _ _ => rfl⟩
   have d2 : ∀ O, Below w5.heap.size w5 (w5.alloc O).drew := fun O => ⟨rfl, rfl, rfl, by simp, fun k hk => (below_alloc w5 O).block k hk⟩
   obtain ⟨t0, t1, t2, t3, t4, t5, t6, t7, t8⟩ := hcells (Below.refl _ _)
   have hll5 : ls.length ≤ 10000 := by omega
   obtain ⟨al, hal⟩ : ∃ al, (Hd.mk n1 rs ⟨#[]⟩ ⟨#[]⟩ ls).all = al := ⟨_, rfl⟩
   have hal6 : al.length ≤ 1000000 := by
    rw [← hal]
    unfold Hd.all
    have := List.length_filter_le full ([rs, (⟨#[]⟩ : ByteArray), (⟨#[]⟩ : ByteArray)] ++ ls)
    simp only [List.length_append, List.length_cons, List.length_nil] at this ⊢
    omega
   have hmm := @run_makeMap Tryz.prog
   have hS5 : SetIs (w5.alloc (.map #[] 0)).drew w5.heap.size [] := SetIs.new w5
   clear x0 x1 x2 x3 x4 x5 x6 x7 x8 v0 v1 v2 v3 v4 v5 v6 v7 v8 HO4
   go_wp2_with fail
   go_region_held3 (fun w' => w'.cell? ⟨w3.heap.size, 0, none⟩ = some (.string n1) ∧ w'.cell? ⟨w3.heap.size, 1, none⟩ = some (.string rs) ∧ w'.cell? ⟨w3.heap.size, 2, none⟩ = some (.string ⟨#[]⟩) ∧ w'.cell? ⟨w3.heap.size, 3, none⟩ = some (.string ⟨#[]⟩) ∧ w'.cell? ⟨w3.heap.size, 4, none⟩ = some (.slice a3 ls.length c3) ∧ w'.cell? ⟨w3.heap.size, 5, none⟩ = some (.slice none 0 0) ∧ w'.cell? ⟨w3.heap.size, 6, none⟩ = some (.slice none 0 0) ∧ w'.cell? ⟨w3.heap.size, 7, none⟩ = some (.slice none 0 0) ∧ w'.cell? ⟨w3.heap.size, 8, none⟩ = some (.bool false))
    (first | (go_keep; done) | exact tw | exact tw2)
    (first
     | (go_at_call 53; refine (headerNames_any (HRd (by first | exact d1 | exact d2 _)) (by simp) hll5).mono ?_; rw [hal]; rintro e wa ⟨an, cn, rfl, hOn, ka⟩; have ta : Below w5.heap.size w5 wa := (by first | exact d1.trans (ka.mono (by simp)) | exact (d2 _).trans (ka.mono (by simp))); have tw := hcells ta; have HRn : ∀ {W : World}, Below wa.heap.size wa W → RdS wa.heap.size W (.slice an al.length cn) al := fun hb => (RdS.of_row hOn).below hb (Nat.le_refl _); (first | have hNo : ∀ g o, an = some ⟨g, o, none⟩ → g ≠ w5.heap.size := (fun g o e => by have := (hOn.lt g (by rw [e]; rfl)).1; simp at this; omega) | skip); have r1 : Below wa.heap.size wa wa.drew := ⟨rfl, rfl, rfl, Nat.le_refl _, fun _ _ => rfl⟩; have r2 : ∀ O, Below wa.heap.size wa (wa.alloc O).drew := fun O => ⟨rfl, rfl, rfl, by simp, fun k hk => (below_alloc wa O).block k hk⟩)
     | (have j := tw; go_at_call 52; refine (take_any (B := wa.heap.size) (ks := []) (ns := al) (HRn (by first | exact Below.refl _ _ | exact below_alloc _ _ | exact r1 | exact r2 _)) (by first | exact Or.inl (Nat.le_refl _) | exact Or.inr ⟨by have := ka.size; simp at this; omega, fun g o e => hNo g o e⟩) (by first | exact SetIs.new wa | exact hS5.below ka (by simp)) hal6).mono ?_; rintro e wb ⟨rfl, hSb, kb⟩; have tb : Below w5.heap.size w5 wb := (by first | exact (ta.alloc ta.size _).trans ((kb.below (C := w5.heap.size) ta.size (by have := ta.size; simp; omega))) | exact ta.trans (kb.below (C := w5.heap.size) (Nat.le_refl _) ta.size)); have tw2 := hcells tb; have Rc := F5.below tb (by omega); have q0 := Rc.cell 0 rfl; have q1 := Rc.cell 1 rfl; have q2 := Rc.cell 2 rfl; have q3 := Rc.cell 3 rfl; have q4 := Rc.cell 4 rfl; have q5 := Rc.cell 5 rfl; have q6 := Rc.cell 6 rfl; have q7 := Rc.cell 7 rfl; have q8 := Rc.cell 8 rfl; have p0 := Rc.frozen 0; have p1 := Rc.frozen 1; have p2 := Rc.frozen 2; have p3 := Rc.frozen 3; have p4 := Rc.frozen 4; have p5 := Rc.frozen 5; have p6 := Rc.frozen 6; have p7 := Rc.frozen 7; have p8 := Rc.frozen 8))
   all_goals
    have Z := fn_set9 Rc (.string n1) (.string rs) (.string ⟨#[]⟩) (.string ⟨#[]⟩) (.slice a3 ls.length c3) (.slice none 0 0) (.slice none 0 0) (.slice none 0 0) (.bool false)
    have kz := below_set9 (R := w.heap.size) (g5.trans (tb.mono g5.size)) (Nat.le_refl _) (.string n1) (.string rs) (.string ⟨#[]⟩) (.string ⟨#[]⟩) (.slice a3 ls.length c3) (.slice none 0 0) (.slice none 0 0) (.slice none 0 0) (.bool false)
    have oz := owS_set9 (R := w.heap.size) (owS_belowS HO6.out tb (Nat.le_refl _)) (by omega) (.string n1) (.string rs) (.string ⟨#[]⟩) (.string ⟨#[]⟩) (.slice a3 ls.length c3) (.slice none 0 0) (.slice none 0 0) (.slice none 0 0) (.bool false)
    generalize hWz : (((((((((wb.setCell ⟨w.heap.size, 0, none⟩ (.string n1)).setCell ⟨w.heap.size, 1, none⟩ (.string rs)).setCell ⟨w.heap.size, 2, none⟩ (.string ⟨#[]⟩)).setCell ⟨w.heap.size, 3, none⟩ (.string ⟨#[]⟩)).setCell ⟨w.heap.size, 4, none⟩ (.slice a3 ls.length c3)).setCell ⟨w.heap.size, 5, none⟩ (.slice none 0 0)).setCell ⟨w.heap.size, 6, none⟩ (.slice none 0 0)).setCell ⟨w.heap.size, 7, none⟩ (.slice none 0 0)).setCell ⟨w.heap.size, 8, none⟩ (.bool false)) = wz at *
    obtain ⟨d0, d1, d2, d3, d4, d5, d6, d7, d8⟩ := cells9 Z
    clear hOn tw tw2 hSb
    go_wp2
    refine bodyPost_ret (v := .tuple #[.agg (fnV n1 rs ⟨#[]⟩ ⟨#[]⟩ (.slice a3 ls.length c3) (.slice none 0 0) (.slice none 0 0) (.slice none 0 0) false), .bool (takeF [] al).1]) (by simp [results, Tryz.results83, go_sem, d0, d1, d2, d3, d4, d5, d6, d7, d8]) rfl ?_
    have HF : headF T = if (takeF [] al).1 then some ⟨n1, rs, ⟨#[]⟩, ⟨#[]⟩, ls⟩ else none := by
     rw [HH2.out, HD.out, ← hal]
     rfl
    cases htk : (takeF [] al).1 with
    | true =>
     rw [htk] at HF
     exact ⟨Or.inl ⟨_, a3, c3, HF, rfl, row_monoS oz (by have := g2.size; omega)⟩, kz⟩
    | false =>
     rw [htk] at HF
     exact ⟨Or.inr ⟨HF, _, _, _, _, _, _, _, rfl⟩, kz⟩
 · clear hn4
   have HD : Hid (hdOf rs ls [n1, n2] = some ⟨n1, rs, ⟨#[]⟩, n2, ls⟩) := rfl
   obtain ⟨gn, rfl, hn1, hn2, hgn⟩ := row_ptrS HO4.out (by simp)
   have nc0 : w4.cell? ⟨gn, 0, none⟩ = some (.string n1) := World.ownsRow.cellAt HO4.out 0 (by simp)
   have nc1 : w4.cell? ⟨gn, 1, none⟩ = some (.string n2) := World.ownsRow.cellAt HO4.out 1 (by simp)
   have hgn1 : w1.heap.size ≤ gn := (HO4.out.lt gn rfl).1
   have hgn3 : gn < w3.heap.size := HB3.out gn rfl
   have hng : ¬ w3.heap.size = gn := by omega
   have b0 := N4.cell 0 rfl
   have b2 := N4.cell 2 rfl
   have b3 := N4.cell 3 rfl
   have f0' := N4.frozen 0
   have f2' := N4.frozen 2
   have f3' := N4.frozen 3
   have N50 : BoxA (w4.setCell ⟨w3.heap.size, 0, none⟩ (.string n1)) w3.heap.size 36 (fnV n1 rs ⟨#[]⟩ ⟨#[]⟩ (.slice a3 ls.length c3) (.slice none 0 0) (.slice none 0 0) (.slice none 0 0) false) := boxA_put N4 0 (.string n1)
   have g50 : Below w.heap.size w (w4.setCell ⟨w3.heap.size, 0, none⟩ (.string n1)) := Below.setCell g4 (by show _ ≤ w3.heap.size; omega) _
   have o50 : OwS w2.heap.size (w4.setCell ⟨w3.heap.size, 0, none⟩ (.string n1)) (.slice a3 ls.length c3) ls := ownsRow_setCell_other HO5.out (a := ⟨w3.heap.size, 0, none⟩) (fun e => by have := HB4.out _ e; simp at this) _
   have F50 : BoxA (w4.setCell ⟨w3.heap.size, 0, none⟩ (.string n1)) w.heap.size 36 fn0 := by
    have := F4
    unfold BoxA at this ⊢
    rw [← this]
    simp [World.setCell, Array.getElem?_modify, Ne.symm hne]
   have N51 : BoxA ((w4.setCell ⟨w3.heap.size, 0, none⟩ (.string n1)).setCell ⟨w3.heap.size, 3, none⟩ (.string n2)) w3.heap.size 36 (fnV n1 rs ⟨#[]⟩ n2 (.slice a3 ls.length c3) (.slice none 0 0) (.slice none 0 0) (.slice none 0 0) false) := boxA_put N50 3 (.string n2)
   have g51 : Below w.heap.size w ((w4.setCell ⟨w3.heap.size, 0, none⟩ (.string n1)).setCell ⟨w3.heap.size, 3, none⟩ (.string n2)) := Below.setCell g50 (by show _ ≤ w3.heap.size; omega) _
   have o51 : OwS w2.heap.size ((w4.setCell ⟨w3.heap.size, 0, none⟩ (.string n1)).setCell ⟨w3.heap.size, 3, none⟩ (.string n2)) (.slice a3 ls.length c3) ls := ownsRow_setCell_other o50 (a := ⟨w3.heap.size, 3, none⟩) (fun e => by have := HB4.out _ e; simp at this) _
   have F51 : BoxA ((w4.setCell ⟨w3.heap.size, 0, none⟩ (.string n1)).setCell ⟨w3.heap.size, 3, none⟩ (.string n2)) w.heap.size 36 fn0 := by
    have := F50
    unfold BoxA at this ⊢
    rw [← this]
    simp [World.setCell, Array.getElem?_modify, Ne.symm hne]
   have HO6 : Hid (OwS w2.heap.size ((w4.setCell ⟨w3.heap.size, 0, none⟩ (.string n1)).setCell ⟨w3.heap.size, 3, none⟩ (.string n2)) (.slice a3 ls.length c3) ls) := o51
   have F5 := F51
   have N5 := N51
   have g5 := g51
   clear o50 F50 N50 g50 o51 F51 N51 g51 HO5
   generalize hW5 : ((w4.setCell ⟨w3.heap.size, 0, none⟩ (.string n1)).setCell ⟨w3.heap.size, 3, none⟩ (.string n2)) = w5 at *
   have s5 : w3.heap.size < w5.heap.size := by rw [← hW5]; simp [World.setCell]; omega
   clear s4
   have nd0 : w5.cell? ⟨gn, 0, none⟩ = some (.string n1) := by
    rw [← hW5]
    simp [World.cell?_setCell_other, hng, nc0]
   have nd1 : w5.cell? ⟨gn, 1, none⟩ = some (.string n2) := by
    rw [← hW5]
    simp [World.cell?_setCell_other, hng, nc1]
   go_wp2_with fail
   go_region_held3 (fun w' => w'.cell? ⟨gn, 0, none⟩ = some (.string n1) ∧ w'.cell? ⟨gn, 1, none⟩ = some (.string n2)) (first | (go_keep; done) | exact ⟨(show w5.cell? ⟨gn, 0, none⟩ = some (.string n1) from nd0), (show w5.cell? ⟨gn, 1, none⟩ = some (.string n2) from nd1)⟩) (fail)
   have N6 : BoxA w5.drew w3.heap.size 36 (fnV n1 rs ⟨#[]⟩ n2 (.slice a3 ls.length c3) (.slice none 0 0) (.slice none 0 0) (.slice none 0 0) false) := N5
   have F6 : BoxA w5.drew w.heap.size 36 fn0 := F5
   have g6 : Below w.heap.size w w5.drew := ⟨g5.os, g5.tape, g5.output, g5.size, g5.block⟩
   have HO7 : Hid (OwS w2.heap.size w5.drew (.slice a3 ls.length c3) ls) := HO6.out
   have s6 : w3.heap.size < w5.drew.heap.size := s5
   clear N5 F5 g5 HO6 s5 hW5 nd0 nd1
   generalize w5.drew = w6 at *
   have N5 := N6
   have F5 := F6
   have g5 := g6
   have HO6 := HO7
   have s5 := s6
   clear N6 F6 g6 HO7 s6
   have hcells : ∀ {w' : World}, Below w6.heap.size w6 w' → w'.cell? ⟨w3.heap.size, 0, none⟩ = some (.string n1) ∧ w'.cell? ⟨w3.heap.size, 1, none⟩ = some (.string rs) ∧ w'.cell? ⟨w3.heap.size, 2, none⟩ = some (.string ⟨#[]⟩) ∧ w'.cell? ⟨w3.heap.size, 3, none⟩ = some (.string n2) ∧ w'.cell? ⟨w3.heap.size, 4, none⟩ = some (.slice a3 ls.length c3) ∧ w'.cell? ⟨w3.heap.size, 5, none⟩ = some (.slice none 0 0) ∧ w'.cell? ⟨w3.heap.size, 6, none⟩ = some (.slice none 0 0) ∧ w'.cell? ⟨w3.heap.size, 7, none⟩ = some (.slice none 0 0) ∧ w'.cell? ⟨w3.heap.size, 8, none⟩ = some (.bool false) := fun hb => by
    have F2 := N5.below hb (by omega)
    exact ⟨F2.cell 0 rfl, F2.cell 1 rfl, F2.cell 2 rfl, F2.cell 3 rfl, F2.cell 4 rfl, F2.cell 5 rfl, F2.cell 6 rfl, F2.cell 7 rfl, F2.cell 8 rfl⟩
   have HRd : ∀ {W : World}, Below w6.heap.size w6 W → RdS w6.heap.size W (.slice a3 ls.length c3) ls := fun hb => (RdS.of_row HO6.out).below hb (Nat.le_refl _)
   have d1 : Below w6.heap.size w6 w6.drew := ⟨rfl, rfl, rfl, Nat.le_refl _, fun _ _ => rfl⟩
   have d2 : ∀ O, Below w6.heap.size w6 (w6.alloc O).drew := fun O => ⟨rfl, rfl, rfl, by simp, fun k hk => (below_alloc w6 O).block k hk⟩
   obtain ⟨t0, t1, t2, t3, t4, t5, t6, t7, t8⟩ := hcells (Below.refl _ _)
   have hll5 : ls.length ≤ 10000 := by omega
   obtain ⟨al, hal⟩ : ∃ al, (Hd.mk n1 rs ⟨#[]⟩ n2 ls).all = al := ⟨_, rfl⟩
   have hal6 : al.length ≤ 1000000 := by
    rw [← hal]
    unfold Hd.all
    have := List.length_filter_le full ([rs, (⟨#[]⟩ : ByteArray), (n2 : ByteArray)] ++ ls)
    simp only [List.length_append, List.length_cons, List.length_nil] at this ⊢
    omega
   have hmm := @run_makeMap Tryz.prog
   have hS5 : SetIs (w6.alloc (.map #[] 0)).drew w6.heap.size [] := SetIs.new w6
   clear x0 x1 x2 x3 x4 x5 x6 x7 x8 v0 v1 v2 v3 v4 v5 v6 v7 v8 HO4
   go_wp2_with fail
   go_region_held3 (fun w' => w'.cell? ⟨w3.heap.size, 0, none⟩ = some (.string n1) ∧ w'.cell? ⟨w3.heap.size, 1, none⟩ = some (.string rs) ∧ w'.cell? ⟨w3.heap.size, 2, none⟩ = some (.string ⟨#[]⟩) ∧ w'.cell? ⟨w3.heap.size, 3, none⟩ = some (.string n2) ∧ w'.cell? ⟨w3.heap.size, 4, none⟩ = some (.slice a3 ls.length c3) ∧ w'.cell? ⟨w3.heap.size, 5, none⟩ = some (.slice none 0 0) ∧ w'.cell? ⟨w3.heap.size, 6, none⟩ = some (.slice none 0 0) ∧ w'.cell? ⟨w3.heap.size, 7, none⟩ = some (.slice none 0 0) ∧ w'.cell? ⟨w3.heap.size, 8, none⟩ = some (.bool false))
    (first | (go_keep; done) | exact tw | exact tw2)
    (first
     | (go_at_call 53; refine (headerNames_any (HRd (by first | exact d1 | exact d2 _)) (by simp) hll5).mono ?_; rw [hal]; rintro e wa ⟨an, cn, rfl, hOn, ka⟩; have ta : Below w6.heap.size w6 wa := (by first | exact d1.trans (ka.mono (by simp)) | exact (d2 _).trans (ka.mono (by simp))); have tw := hcells ta; have HRn : ∀ {W : World}, Below wa.heap.size wa W → RdS wa.heap.size W (.slice an al.length cn) al := fun hb => (RdS.of_row hOn).below hb (Nat.le_refl _); (first | have hNo : ∀ g o, an = some ⟨g, o, none⟩ → g ≠ w6.heap.size := (fun g o e => by have := (hOn.lt g (by rw [e]; rfl)).1; simp at this; omega) | skip); have r1 : Below wa.heap.size wa wa.drew := ⟨rfl, rfl, rfl, Nat.le_refl _, fun _ _ => rfl⟩; have r2 : ∀ O, Below wa.heap.size wa (wa.alloc O).drew := fun O => ⟨rfl, rfl, rfl, by simp, fun k hk => (below_alloc wa O).block k hk⟩)
     | (have j := tw; go_at_call 52; refine (take_any (B := wa.heap.size) (ks := []) (ns := al) (HRn (by first | exact Below.refl _ _ | exact below_alloc _ _ | exact r1 | exact r2 _)) (by first | exact Or.inl (Nat.le_refl _) | exact Or.inr ⟨by have := ka.size; simp at this; omega, fun g o e => hNo g o e⟩) (by first | exact SetIs.new wa | exact hS5.below ka (by simp)) hal6).mono ?_; rintro e wb ⟨rfl, hSb, kb⟩; have tb : Below w6.heap.size w6 wb := (by first | exact (ta.alloc ta.size _).trans ((kb.below (C := w6.heap.size) ta.size (by have := ta.size; simp; omega))) | exact ta.trans (kb.below (C := w6.heap.size) (Nat.le_refl _) ta.size)); have tw2 := hcells tb; have Rc := F5.below tb (by omega); have q0 := Rc.cell 0 rfl; have q1 := Rc.cell 1 rfl; have q2 := Rc.cell 2 rfl; have q3 := Rc.cell 3 rfl; have q4 := Rc.cell 4 rfl; have q5 := Rc.cell 5 rfl; have q6 := Rc.cell 6 rfl; have q7 := Rc.cell 7 rfl; have q8 := Rc.cell 8 rfl; have p0 := Rc.frozen 0; have p1 := Rc.frozen 1; have p2 := Rc.frozen 2; have p3 := Rc.frozen 3; have p4 := Rc.frozen 4; have p5 := Rc.frozen 5; have p6 := Rc.frozen 6; have p7 := Rc.frozen 7; have p8 := Rc.frozen 8))
   all_goals
    have Z := fn_set9 Rc (.string n1) (.string rs) (.string ⟨#[]⟩) (.string n2) (.slice a3 ls.length c3) (.slice none 0 0) (.slice none 0 0) (.slice none 0 0) (.bool false)
    have kz := below_set9 (R := w.heap.size) (g5.trans (tb.mono g5.size)) (Nat.le_refl _) (.string n1) (.string rs) (.string ⟨#[]⟩) (.string n2) (.slice a3 ls.length c3) (.slice none 0 0) (.slice none 0 0) (.slice none 0 0) (.bool false)
    have oz := owS_set9 (R := w.heap.size) (owS_belowS HO6.out tb (Nat.le_refl _)) (by omega) (.string n1) (.string rs) (.string ⟨#[]⟩) (.string n2) (.slice a3 ls.length c3) (.slice none 0 0) (.slice none 0 0) (.slice none 0 0) (.bool false)
    generalize hWz : (((((((((wb.setCell ⟨w.heap.size, 0, none⟩ (.string n1)).setCell ⟨w.heap.size, 1, none⟩ (.string rs)).setCell ⟨w.heap.size, 2, none⟩ (.string ⟨#[]⟩)).setCell ⟨w.heap.size, 3, none⟩ (.string n2)).setCell ⟨w.heap.size, 4, none⟩ (.slice a3 ls.length c3)).setCell ⟨w.heap.size, 5, none⟩ (.slice none 0 0)).setCell ⟨w.heap.size, 6, none⟩ (.slice none 0 0)).setCell ⟨w.heap.size, 7, none⟩ (.slice none 0 0)).setCell ⟨w.heap.size, 8, none⟩ (.bool false)) = wz at *
    obtain ⟨d0, d1, d2, d3, d4, d5, d6, d7, d8⟩ := cells9 Z
    clear hOn tw tw2 hSb
    go_wp2
    refine bodyPost_ret (v := .tuple #[.agg (fnV n1 rs ⟨#[]⟩ n2 (.slice a3 ls.length c3) (.slice none 0 0) (.slice none 0 0) (.slice none 0 0) false), .bool (takeF [] al).1]) (by simp [results, Tryz.results83, go_sem, d0, d1, d2, d3, d4, d5, d6, d7, d8]) rfl ?_
    have HF : headF T = if (takeF [] al).1 then some ⟨n1, rs, ⟨#[]⟩, n2, ls⟩ else none := by
     rw [HH2.out, HD.out, ← hal]
     rfl
    cases htk : (takeF [] al).1 with
    | true =>
     rw [htk] at HF
     exact ⟨Or.inl ⟨_, a3, c3, HF, rfl, row_monoS oz (by have := g2.size; omega)⟩, kz⟩
    | false =>
     rw [htk] at HF
     exact ⟨Or.inr ⟨HF, _, _, _, _, _, _, _, rfl⟩, kz⟩
 · clear hn4
   have HD : Hid (hdOf rs ls [n1, n2, n3] = some ⟨n2, rs, n1, n3, ls⟩) := rfl
   obtain ⟨gn, rfl, hn1, hn2, hgn⟩ := row_ptrS HO4.out (by simp)
   have nc0 : w4.cell? ⟨gn, 0, none⟩ = some (.string n1) := World.ownsRow.cellAt HO4.out 0 (by simp)
   have nc1 : w4.cell? ⟨gn, 1, none⟩ = some (.string n2) := World.ownsRow.cellAt HO4.out 1 (by simp)
   have nc2 : w4.cell? ⟨gn, 2, none⟩ = some (.string n3) := World.ownsRow.cellAt HO4.out 2 (by simp)
   have hgn1 : w1.heap.size ≤ gn := (HO4.out.lt gn rfl).1
   have hgn3 : gn < w3.heap.size := HB3.out gn rfl
   have hng : ¬ w3.heap.size = gn := by omega
   have b0 := N4.cell 0 rfl
   have b2 := N4.cell 2 rfl
   have b3 := N4.cell 3 rfl
   have f0' := N4.frozen 0
   have f2' := N4.frozen 2
   have f3' := N4.frozen 3
   have N50 : BoxA (w4.setCell ⟨w3.heap.size, 2, none⟩ (.string n1)) w3.heap.size 36 (fnV ⟨#[]⟩ rs n1 ⟨#[]⟩ (.slice a3 ls.length c3) (.slice none 0 0) (.slice none 0 0) (.slice none 0 0) false) := boxA_put N4 2 (.string n1)
   have g50 : Below w.heap.size w (w4.setCell ⟨w3.heap.size, 2, none⟩ (.string n1)) := Below.setCell g4 (by show _ ≤ w3.heap.size; omega) _
   have o50 : OwS w2.heap.size (w4.setCell ⟨w3.heap.size, 2, none⟩ (.string n1)) (.slice a3 ls.length c3) ls := ownsRow_setCell_other HO5.out (a := ⟨w3.heap.size, 2, none⟩) (fun e => by have := HB4.out _ e; simp at this) _
   have F50 : BoxA (w4.setCell ⟨w3.heap.size, 2, none⟩ (.string n1)) w.heap.size 36 fn0 := by
    have := F4
    unfold BoxA at this ⊢
    rw [← this]
    simp [World.setCell, Array.getElem?_modify, Ne.symm hne]
   have N51 : BoxA ((w4.setCell ⟨w3.heap.size, 2, none⟩ (.string n1)).setCell ⟨w3.heap.size, 0, none⟩ (.string n2)) w3.heap.size 36 (fnV n2 rs n1 ⟨#[]⟩ (.slice a3 ls.length c3) (.slice none 0 0) (.slice none 0 0) (.slice none 0 0) false) := boxA_put N50 0 (.string n2)
   have g51 : Below w.heap.size w ((w4.setCell ⟨w3.heap.size, 2, none⟩ (.string n1)).setCell ⟨w3.heap.size, 0, none⟩ (.string n2)) := Below.setCell g50 (by show _ ≤ w3.heap.size; omega) _
   have o51 : OwS w2.heap.size ((w4.setCell ⟨w3.heap.size, 2, none⟩ (.string n1)).setCell ⟨w3.heap.size, 0, none⟩ (.string n2)) (.slice a3 ls.length c3) ls := ownsRow_setCell_other o50 (a := ⟨w3.heap.size, 0, none⟩) (fun e => by have := HB4.out _ e; simp at this) _
   have F51 : BoxA ((w4.setCell ⟨w3.heap.size, 2, none⟩ (.string n1)).setCell ⟨w3.heap.size, 0, none⟩ (.string n2)) w.heap.size 36 fn0 := by
    have := F50
    unfold BoxA at this ⊢
    rw [← this]
    simp [World.setCell, Array.getElem?_modify, Ne.symm hne]
   have N52 : BoxA (((w4.setCell ⟨w3.heap.size, 2, none⟩ (.string n1)).setCell ⟨w3.heap.size, 0, none⟩ (.string n2)).setCell ⟨w3.heap.size, 3, none⟩ (.string n3)) w3.heap.size 36 (fnV n2 rs n1 n3 (.slice a3 ls.length c3) (.slice none 0 0) (.slice none 0 0) (.slice none 0 0) false) := boxA_put N51 3 (.string n3)
   have g52 : Below w.heap.size w (((w4.setCell ⟨w3.heap.size, 2, none⟩ (.string n1)).setCell ⟨w3.heap.size, 0, none⟩ (.string n2)).setCell ⟨w3.heap.size, 3, none⟩ (.string n3)) := Below.setCell g51 (by show _ ≤ w3.heap.size; omega) _
   have o52 : OwS w2.heap.size (((w4.setCell ⟨w3.heap.size, 2, none⟩ (.string n1)).setCell ⟨w3.heap.size, 0, none⟩ (.string n2)).setCell ⟨w3.heap.size, 3, none⟩ (.string n3)) (.slice a3 ls.length c3) ls := ownsRow_setCell_other o51 (a := ⟨w3.heap.size, 3, none⟩) (fun e => by have := HB4.out _ e; simp at this) _
   have F52 : BoxA (((w4.setCell ⟨w3.heap.size, 2, none⟩ (.string n1)).setCell ⟨w3.heap.size, 0, none⟩ (.string n2)).setCell ⟨w3.heap.size, 3, none⟩ (.string n3)) w.heap.size 36 fn0 := by
    have := F51
    unfold BoxA at this ⊢
    rw [← this]
    simp [World.setCell, Array.getElem?_modify, Ne.symm hne]
   have HO6 : Hid (OwS w2.heap.size (((w4.setCell ⟨w3.heap.size, 2, none⟩ (.string n1)).setCell ⟨w3.heap.size, 0, none⟩ (.string n2)).setCell ⟨w3.heap.size, 3, none⟩ (.string n3)) (.slice a3 ls.length c3) ls) := o52
   have F5 := F52
   have N5 := N52
   have g5 := g52
   clear o50 F50 N50 g50 o51 F51 N51 g51 o52 F52 N52 g52 HO5
   generalize hW5 : (((w4.setCell ⟨w3.heap.size, 2, none⟩ (.string n1)).setCell ⟨w3.heap.size, 0, none⟩ (.string n2)).setCell ⟨w3.heap.size, 3, none⟩ (.string n3)) = w5 at *
   have s5 : w3.heap.size < w5.heap.size := by rw [← hW5]; simp [World.setCell]; omega
   clear s4
   have nd0 : w5.cell? ⟨gn, 0, none⟩ = some (.string n1) := by
    rw [← hW5]
    simp [World.cell?_setCell_other, hng, nc0]
   have nd1 : w5.cell? ⟨gn, 1, none⟩ = some (.string n2) := by
    rw [← hW5]
    simp [World.cell?_setCell_other, hng, nc1]
   have nd2 : w5.cell? ⟨gn, 2, none⟩ = some (.string n3) := by
    rw [← hW5]
    simp [World.cell?_setCell_other, hng, nc2]
   go_wp2_with fail
   go_region_held3 (fun w' => w'.cell? ⟨gn, 0, none⟩ = some (.string n1) ∧ w'.cell? ⟨gn, 1, none⟩ = some (.string n2) ∧ w'.cell? ⟨gn, 2, none⟩ = some (.string n3)) (first | (go_keep; done) | exact ⟨(show w5.cell? ⟨gn, 0, none⟩ = some (.string n1) from nd0), (show w5.cell? ⟨gn, 1, none⟩ = some (.string n2) from nd1), (show w5.cell? ⟨gn, 2, none⟩ = some (.string n3) from nd2)⟩) (fail)
   have N6 : BoxA w5.drew w3.heap.size 36 (fnV n2 rs n1 n3 (.slice a3 ls.length c3) (.slice none 0 0) (.slice none 0 0) (.slice none 0 0) false) := N5
   have F6 : BoxA w5.drew w.heap.size 36 fn0 := F5
   have g6 : Below w.heap.size w w5.drew := ⟨g5.os, g5.tape, g5.output, g5.size, g5.block⟩
   have HO7 : Hid (OwS w2.heap.size w5.drew (.slice a3 ls.length c3) ls) := HO6.out
   have s6 : w3.heap.size < w5.drew.heap.size := s5
   clear N5 F5 g5 HO6 s5 hW5 nd0 nd1 nd2
   generalize w5.drew = w6 at *
   have N5 := N6
   have F5 := F6
   have g5 := g6
   have HO6 := HO7
   have s5 := s6
   clear N6 F6 g6 HO7 s6
   have hcells : ∀ {w' : World}, Below w6.heap.size w6 w' → w'.cell? ⟨w3.heap.size, 0, none⟩ = some (.string n2) ∧ w'.cell? ⟨w3.heap.size, 1, none⟩ = some (.string rs) ∧ w'.cell? ⟨w3.heap.size, 2, none⟩ = some (.string n1) ∧ w'.cell? ⟨w3.heap.size, 3, none⟩ = some (.string n3) ∧ w'.cell? ⟨w3.heap.size, 4, none⟩ = some (.slice a3 ls.length c3) ∧ w'.cell? ⟨w3.heap.size, 5, none⟩ = some (.slice none 0 0) ∧ w'.cell? ⟨w3.heap.size, 6, none⟩ = some (.slice none 0 0) ∧ w'.cell? ⟨w3.heap.size, 7, none⟩ = some (.slice none 0 0) ∧ w'.cell? ⟨w3.heap.size, 8, none⟩ = some (.bool false) := fun hb => by
    have F2 := N5.below hb (by omega)
    exact ⟨F2.cell 0 rfl, F2.cell 1 rfl, F2.cell 2 rfl, F2.cell 3 rfl, F2.cell 4 rfl, F2.cell 5 rfl, F2.cell 6 rfl, F2.cell 7 rfl, F2.cell 8 rfl⟩
   have HRd : ∀ {W : World}, Below w6.heap.size w6 W → RdS w6.heap.size W (.slice a3 ls.length c3) ls := fun hb => (RdS.of_row HO6.out).below hb (Nat.le_refl _)
   have d1 : Below w6.heap.size w6 w6.drew := ⟨rfl, rfl, rfl, Nat.le_refl _, fun _ _ => rfl⟩
   have d2 : ∀ O, Below w6.heap.size w6 (w6.alloc O).drew := fun O => ⟨rfl, rfl, rfl, by simp, fun k hk => (below_alloc w6 O).block k hk⟩
   obtain ⟨t0, t1, t2, t3, t4, t5, t6, t7, t8⟩ := hcells (Below.refl _ _)
   have hll5 : ls.length ≤ 10000 := by omega
   obtain ⟨al, hal⟩ : ∃ al, (Hd.mk n2 rs n1 n3 ls).all = al := ⟨_, rfl⟩
   have hal6 : al.length ≤ 1000000 := by
    rw [← hal]
    unfold Hd.all
    have := List.length_filter_le full ([rs, (n1 : ByteArray), (n3 : ByteArray)] ++ ls)
    simp only [List.length_append, List.length_cons, List.length_nil] at this ⊢
    omega
   have hmm := @run_makeMap Tryz.prog
   have hS5 : SetIs (w6.alloc (.map #[] 0)).drew w6.heap.size [] := SetIs.new w6
   clear x0 x1 x2 x3 x4 x5 x6 x7 x8 v0 v1 v2 v3 v4 v5 v6 v7 v8 HO4
   go_wp2_with fail
   go_region_held3 (fun w' => w'.cell? ⟨w3.heap.size, 0, none⟩ = some (.string n2) ∧ w'.cell? ⟨w3.heap.size, 1, none⟩ = some (.string rs) ∧ w'.cell? ⟨w3.heap.size, 2, none⟩ = some (.string n1) ∧ w'.cell? ⟨w3.heap.size, 3, none⟩ = some (.string n3) ∧ w'.cell? ⟨w3.heap.size, 4, none⟩ = some (.slice a3 ls.length c3) ∧ w'.cell? ⟨w3.heap.size, 5, none⟩ = some (.slice none 0 0) ∧ w'.cell? ⟨w3.heap.size, 6, none⟩ = some (.slice none 0 0) ∧ w'.cell? ⟨w3.heap.size, 7, none⟩ = some (.slice none 0 0) ∧ w'.cell? ⟨w3.heap.size, 8, none⟩ = some (.bool false))
    (first | (go_keep; done) | exact tw | exact tw2)
    (first
     | (go_at_call 53; refine (headerNames_any (HRd (by first | exact d1 | exact d2 _)) (by simp) hll5).mono ?_; rw [hal]; rintro e wa ⟨an, cn, rfl, hOn, ka⟩; have ta : Below w6.heap.size w6 wa := (by first | exact d1.trans (ka.mono (by simp)) | exact (d2 _).trans (ka.mono (by simp))); have tw := hcells ta; have HRn : ∀ {W : World}, Below wa.heap.size wa W → RdS wa.heap.size W (.slice an al.length cn) al := fun hb => (RdS.of_row hOn).below hb (Nat.le_refl _); (first | have hNo : ∀ g o, an = some ⟨g, o, none⟩ → g ≠ w6.heap.size := (fun g o e => by have := (hOn.lt g (by rw [e]; rfl)).1; simp at this; omega) | skip); have r1 : Below wa.heap.size wa wa.drew := ⟨rfl, rfl, rfl, Nat.le_refl _, fun _ _ => rfl⟩; have r2 : ∀ O, Below wa.heap.size wa (wa.alloc O).drew := fun O => ⟨rfl, rfl, rfl, by simp, fun k hk => (below_alloc wa O).block k hk⟩)
     | (have j := tw; go_at_call 52; refine (take_any (B := wa.heap.size) (ks := []) (ns := al) (HRn (by first | exact Below.refl _ _ | exact below_alloc _ _ | exact r1 | exact r2 _)) (by first | exact Or.inl (Nat.le_refl _) | exact Or.inr ⟨by have := ka.size; simp at this; omega, fun g o e => hNo g o e⟩) (by first | exact SetIs.new wa | exact hS5.below ka (by simp)) hal6).mono ?_; rintro e wb ⟨rfl, hSb, kb⟩; have tb : Below w6.heap.size w6 wb := (by first | exact (ta.alloc ta.size _).trans ((kb.below (C := w6.heap.size) ta.size (by have := ta.size; simp; omega))) | exact ta.trans (kb.below (C := w6.heap.size) (Nat.le_refl _) ta.size)); have tw2 := hcells tb; have Rc := F5.below tb (by omega); have q0 := Rc.cell 0 rfl; have q1 := Rc.cell 1 rfl; have q2 := Rc.cell 2 rfl; have q3 := Rc.cell 3 rfl; have q4 := Rc.cell 4 rfl; have q5 := Rc.cell 5 rfl; have q6 := Rc.cell 6 rfl; have q7 := Rc.cell 7 rfl; have q8 := Rc.cell 8 rfl; have p0 := Rc.frozen 0; have p1 := Rc.frozen 1; have p2 := Rc.frozen 2; have p3 := Rc.frozen 3; have p4 := Rc.frozen 4; have p5 := Rc.frozen 5; have p6 := Rc.frozen 6; have p7 := Rc.frozen 7; have p8 := Rc.frozen 8))
   all_goals
    have Z := fn_set9 Rc (.string n2) (.string rs) (.string n1) (.string n3) (.slice a3 ls.length c3) (.slice none 0 0) (.slice none 0 0) (.slice none 0 0) (.bool false)
    have kz := below_set9 (R := w.heap.size) (g5.trans (tb.mono g5.size)) (Nat.le_refl _) (.string n2) (.string rs) (.string n1) (.string n3) (.slice a3 ls.length c3) (.slice none 0 0) (.slice none 0 0) (.slice none 0 0) (.bool false)
    have oz := owS_set9 (R := w.heap.size) (owS_belowS HO6.out tb (Nat.le_refl _)) (by omega) (.string n2) (.string rs) (.string n1) (.string n3) (.slice a3 ls.length c3) (.slice none 0 0) (.slice none 0 0) (.slice none 0 0) (.bool false)
    generalize hWz : (((((((((wb.setCell ⟨w.heap.size, 0, none⟩ (.string n2)).setCell ⟨w.heap.size, 1, none⟩ (.string rs)).setCell ⟨w.heap.size, 2, none⟩ (.string n1)).setCell ⟨w.heap.size, 3, none⟩ (.string n3)).setCell ⟨w.heap.size, 4, none⟩ (.slice a3 ls.length c3)).setCell ⟨w.heap.size, 5, none⟩ (.slice none 0 0)).setCell ⟨w.heap.size, 6, none⟩ (.slice none 0 0)).setCell ⟨w.heap.size, 7, none⟩ (.slice none 0 0)).setCell ⟨w.heap.size, 8, none⟩ (.bool false)) = wz at *
    obtain ⟨d0, d1, d2, d3, d4, d5, d6, d7, d8⟩ := cells9 Z
    clear hOn tw tw2 hSb
    go_wp2
    refine bodyPost_ret (v := .tuple #[.agg (fnV n2 rs n1 n3 (.slice a3 ls.length c3) (.slice none 0 0) (.slice none 0 0) (.slice none 0 0) false), .bool (takeF [] al).1]) (by simp [results, Tryz.results83, go_sem, d0, d1, d2, d3, d4, d5, d6, d7, d8]) rfl ?_
    have HF : headF T = if (takeF [] al).1 then some ⟨n2, rs, n1, n3, ls⟩ else none := by
     rw [HH2.out, HD.out, ← hal]
     rfl
    cases htk : (takeF [] al).1 with
    | true =>
     rw [htk] at HF
     exact ⟨Or.inl ⟨_, a3, c3, HF, rfl, row_monoS oz (by have := g2.size; omega)⟩, kz⟩
    | false =>
     rw [htk] at HF
     exact ⟨Or.inr ⟨HF, _, _, _, _, _, _, _, rfl⟩, kz⟩
 · exact absurd (Or.inr (by simp)) hn4
end Go.Proofs.YtimfnalpmmkndaaGreatDoor
