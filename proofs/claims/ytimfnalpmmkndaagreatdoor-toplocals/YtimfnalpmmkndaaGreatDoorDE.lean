/- define.Make. -/
import Derived.Test.YtimfnalpmmkndaaGreatDoorDC
import Derived.Test.YtimfnalpmmkndaaGreatDoorDD
namespace Go.Proofs.YtimfnalpmmkndaaGreatDoor
set_option linter.unusedVariables false
set_option linter.unusedSimpArgs false
open Go.RowKit Go.Shelf

def MakeIs (w : World) (ss : List ByteArray) (o : Sum Nat (Hd × List ByteArray × List Int)) (e : Ending) (w' : World) : Prop :=
 ((∃ n : Nat, o = .inl n ∧ e = .returned (.tuple #[.agg fn0, .int .i64 28, .int .i64 n])) ∨
  (∃ h ls ats a1 c1 a2 c2 a3 c3 a4 c4, o = .inr (h, ls, ats) ∧ e = .returned (.tuple #[.agg (fnV h.nm h.rs h.lf h.rt (.slice a1 h.ls.length c1) (.slice a2 ls.length c2) (.slice a3 ats.length c3) (.slice a4 ss.length c4) false), .int .i64 0, .int .i64 0]) ∧ OwS w.heap.size w' (.slice a1 h.ls.length c1) h.ls ∧ OwS w.heap.size w' (.slice a2 ls.length c2) ls ∧ OwI w.heap.size w' (.slice a3 ats.length c3) ats ∧ OwS w.heap.size w' (.slice a4 ss.length c4) ss)) ∧ Below w.heap.size w w'
theorem headerF_few {ne : ByteArray → Int} {s : ByteArray} {h : Hd} (e : headerF ne s = some h) : h.ls.length ≤ 10000 := by
 unfold headerF at e
 by_cases h0 : (allF ne s).2.1 = 0
 · rw [if_pos h0] at e
   unfold headF at e
   by_cases h1 : ¬ tkd (allF ne s).1 (endK (allF ne s).1) = 0 ∨ 32 < (localsOfF (allF ne s).1).length
   · rw [if_pos h1] at e; cases e
   · rw [if_neg h1] at e
     generalize namesOfF (allF ne s).1 = ns at e
     have : ∀ k, hdOf (resT (allF ne s).1) (localsOfF (allF ne s).1) ns = some k → k.ls = localsOfF (allF ne s).1 := by
      intro k hk
      match ns, hk with
      | [_], hk => cases hk; rfl
      | [_, _], hk => cases hk; rfl
      | [_, _, _], hk => cases hk; rfl
     cases hd : hdOf (resT (allF ne s).1) (localsOfF (allF ne s).1) ns with
     | none => rw [hd] at e; cases e
     | some k =>
      rw [hd] at e
      have e2 : (if (takeF [] k.all).1 = true then some k else none) = some h := e
      by_cases ht : (takeF [] k.all).1 = true
      · rw [if_pos ht] at e2
        cases e2
        rw [this _ hd]
        omega
      · rw [if_neg ht] at e2; cases e2
 · rw [if_neg h0] at e; cases e
theorem own_set9 {base e n : Nat} {w : World} {R : Nat} {v : Value} {xs : List Value} (h : w.ownsRow base e 1 v n xs) (hn : ∀ g, v.ownBlock = some g → g ≠ R) (v0 v1 v2 v3 v4 v5 v6 v7 v8 : Value) : (((((((((w.setCell ⟨R, 0, none⟩ (v0)).setCell ⟨R, 1, none⟩ (v1)).setCell ⟨R, 2, none⟩ (v2)).setCell ⟨R, 3, none⟩ (v3)).setCell ⟨R, 4, none⟩ (v4)).setCell ⟨R, 5, none⟩ (v5)).setCell ⟨R, 6, none⟩ (v6)).setCell ⟨R, 7, none⟩ (v7)).setCell ⟨R, 8, none⟩ (v8)).ownsRow base e 1 v n xs :=
 own_set (own_set (own_set (own_set (own_set (own_set (own_set (own_set (own_set h hn) hn) hn) hn) hn) hn) hn) hn) hn
theorem Kp.boxF {M g ty : Nat} {w w' : World} {xs : Array Value} (k : Kp M w w') (h : BoxA w g ty xs) (hM : g ≠ M) : BoxA w' g ty xs := by
 unfold BoxA at h ⊢
 rw [k.block g (lt_of_block h) hM]; exact h
theorem Kp.own {M base e n : Nat} {w w' : World} {v : Value} {xs : List Value} (k : Kp M w w') (h : w.ownsRow base e 1 v n xs) (hM : M < base) : w'.ownsRow base e 1 v n xs := by
 obtain ⟨h1, h | ⟨g, cap, cur, hv, hg, hh, r⟩⟩ := h
 · exact ⟨h1, Or.inl h⟩
 · exact ⟨h1, Or.inr ⟨g, cap, cur, hv, hg, by rw [k.block g (lt_of_block hh) (by omega)]; exact hh, r⟩⟩
theorem boxF_set {w : World} {R g ty k : Nat} {xs : Array Value} (h : BoxA w g ty xs) (hn : R ≠ g) (u : Value) : BoxA (w.setCell ⟨R, k, none⟩ u) g ty xs := by
 unfold BoxA at h ⊢
 rw [← h]
 simp [World.setCell, Array.getElem?_modify, hn]
set_option maxRecDepth 100000 in
set_option maxHeartbeats 32000000 in
theorem fnMake_any {B : Nat} {w : World} {ne : ByteArray → Int} (hne : TellsErr ne) {a : Option Addr} {c : Nat} {ss : List ByteArray} (h : RdS B w (.slice a ss.length c) ss) (hB : B ≤ w.heap.size) (hsz : ∀ x ∈ ss, x.size ≤ 9223372036854775807) :
    Calls Tryz.prog 26 #[.slice a ss.length c] w (MakeIs w ss (makeF ne ss)) := by
 have HR : Hid (RdS B w (.slice a ss.length c) ss) := h
 obtain ⟨hc1, hc2⟩ := h.cap
 have HSZ : Hid (∀ j, j < ss.length → (ss.getD j noT).size ≤ 9223372036854775807) := fun j hj => hsz _ (by rw [List.getD_eq_getElem?_getD, List.getElem?_eq_getElem hj]; exact List.getElem_mem hj)
 have k0 := below_alloc w (.cells fn0 36)
 have F0 := boxA_new w fn0 36
 generalize hW0 : w.alloc (.cells fn0 36) = w0 at *
 have s0 : w.heap.size < w0.heap.size := by rw [← hW0]; simp
 obtain ⟨o, ho⟩ : ∃ o, o = makeF ne ss := ⟨_, rfl⟩
 rw [← ho]
 have HMF : Hid (o = makeF ne ss) := ho
 clear h hsz ho
 go_enter Tryz.func26, Tryz.ntmps26
 by_cases hl : ss.length = 0 ∨ 256 < ss.length
 case pos =>
  have HN : Hid (o = .inl 0) := by
   unfold Hid
   rw [HMF.out]
   cases ss with
   | nil => rfl
   | cons x r =>
    rw [makeF, if_pos]
    simp at hl
    omega
  by_cases hl0 : ss.length = 0
  · have e0 : ((ss.length : Int) == 0) = true := by rw [beq_iff_eq]; omega
    clear HMF hl hl0 HR
    obtain ⟨z0, z1, z2, z3, z4, z5, z6, z7, z8⟩ := cells9 F0
    obtain ⟨y0, y1, y2, y3, y4, y5, y6, y7, y8⟩ := frozen9 F0
    obtain ⟨wz, hWwz, Z, kz⟩ := put0 F0 k0 (by omega)
    obtain ⟨d0, d1, d2, d3, d4, d5, d6, d7, d8⟩ := cells9 Z
    go_wp2
    refine bodyPost_ret (v := .tuple #[.agg fn0, .int .i64 28, .int .i64 0]) (by simp [results, Tryz.results26, go_sem, d0, d1, d2, d3, d4, d5, d6, d7, d8]) rfl ?_
    exact ⟨Or.inl ⟨0, HN.out, rfl⟩, kz⟩
  · have e0 : ((ss.length : Int) == 0) = false := by rw [beq_eq_false_iff_ne]; omega
    have e1 : (256 : Int) < (ss.length : Int) := by omega
    clear HMF hl hl0 HR
    obtain ⟨z0, z1, z2, z3, z4, z5, z6, z7, z8⟩ := cells9 F0
    obtain ⟨y0, y1, y2, y3, y4, y5, y6, y7, y8⟩ := frozen9 F0
    obtain ⟨wz, hWwz, Z, kz⟩ := put0 F0 k0 (by omega)
    obtain ⟨d0, d1, d2, d3, d4, d5, d6, d7, d8⟩ := cells9 Z
    go_wp2
    refine bodyPost_ret (v := .tuple #[.agg fn0, .int .i64 28, .int .i64 0]) (by simp [results, Tryz.results26, go_sem, d0, d1, d2, d3, d4, d5, d6, d7, d8]) rfl ?_
    exact ⟨Or.inl ⟨0, HN.out, rfl⟩, kz⟩
 obtain ⟨g, og, rfl, hg, hcell⟩ := HR.out.ptr (by omega)
 have e0 : ((ss.length : Int) == 0) = false := by rw [beq_eq_false_iff_ne]; omega
 have e1 : ¬ (256 : Int) < (ss.length : Int) := by omega
 have l0 : 0 < ss.length := by omega
 have l1 : (0 : Int) < (ss.length : Int) := by omega
 have l2 : (1 : Int) ≤ (ss.length : Int) := by omega
 have hl6 : ss.length ≤ 256 := by omega
 obtain ⟨s, hs⟩ : ∃ s, s = ss.getD 0 noT := ⟨_, rfl⟩
 have q := hcell 0 l0
 rw [← hs, Nat.add_zero] at q
 have q0 := (k0.cell (p := ⟨g, og, none⟩) (by show g < _; omega)).trans q
 have C1 := header_any hne s (w := w0) (by rw [hs]; exact HSZ.out 0 l0)
 have HM2 : Hid (o = match headerF ne s with | none => .inl 0 | some h => match goF ne (ss.drop 1) 0 (takeF [] h.all).2 [] [] with | .inl n => .inl n | .inr (ls, ats) => .inr (h, ls, ats)) := by
  unfold Hid
  rw [HMF.out, hs]
  cases ss with
  | nil => simp at l0
  | cons x r =>
   rw [makeF, if_neg (by simp at hl6; omega)]
   rfl
 have HCL : Hid (∀ j, j < ss.length → w.cell? ⟨g, og + j, none⟩ = some (.string (ss.getD j noT))) := hcell
 clear hl HMF hs hcell q
 have HC1 : Hid (Calls Tryz.prog 51 _ w0 _) := C1
 clear C1
 go_wp2_with fail
 refine HC1.out.mono ?_
 rintro e w1 ⟨hcase, k1⟩
 have s1 := k1.size
 have g1 : Below w.heap.size w w1 := k0.trans (k1.mono (by omega))
 have F1 := F0.below k1 (by omega)
 clear F0 k0 HC1 hW0
 rcases hcase with ⟨h, a1, c1, gl, hh, rfl, hO, hS⟩ | ⟨hh, rfl⟩
 case inr =>
  have HN : Hid (o = .inl 0) := by unfold Hid; rw [HM2.out, hh]
  clear hh HM2
  go_upto_region 4 with fail
  have k3 := below_alloc w1 (.cells fn0 36)
  have F3 := F1.below k3 F1.lt
  have g3 : Below w.heap.size w (w1.alloc (.cells fn0 36)) := g1.trans (k3.mono g1.size)
  generalize hW3 : w1.alloc (.cells fn0 36) = w3 at *
  clear hW3 k3 F1
  obtain ⟨z0, z1, z2, z3, z4, z5, z6, z7, z8⟩ := cells9 F3
  obtain ⟨y0, y1, y2, y3, y4, y5, y6, y7, y8⟩ := frozen9 F3
  obtain ⟨wz, hWwz, Z, kz⟩ := put0 F3 g3 (by omega)
  obtain ⟨d0, d1, d2, d3, d4, d5, d6, d7, d8⟩ := cells9 Z
  go_wp2
  refine bodyPost_ret (v := .tuple #[.agg fn0, .int .i64 28, .int .i64 0]) (by simp [results, Tryz.results26, go_sem, d0, d1, d2, d3, d4, d5, d6, d7, d8]) rfl ?_
  exact ⟨Or.inl ⟨0, HN.out, rfl⟩, kz⟩
 have HG : Hid (o = match goF ne (ss.drop 1) 0 (takeF [] h.all).2 [] [] with | .inl n => .inl n | .inr (ls, ats) => .inr (h, ls, ats)) := by unfold Hid; rw [HM2.out, hh]
 have HO1 : Hid (OwS w0.heap.size w1 (.slice a1 h.ls.length c1) h.ls) := hO
 have HLO' : h.ls.length ≤ 10000 := headerF_few hh
 clear hh HM2 hO hS
 have HLO : Hid (h.ls.length ≤ 10000) := HLO'
 clear HLO'
 obtain ⟨nm, rs, lf, rt, lo⟩ := h
 simp only at HO1 HLO ⊢
 go_upto_region 4 with fail
 have k2 := below_alloc w1 (.cells (fnV nm rs lf rt (.slice a1 lo.length c1) (.slice none 0 0) (.slice none 0 0) (.slice (some ⟨gl, 0, none⟩) 1 1) false) 36)
 have N2 := boxA_new w1 (fnV nm rs lf rt (.slice a1 lo.length c1) (.slice none 0 0) (.slice none 0 0) (.slice (some ⟨gl, 0, none⟩) 1 1) false) 36
 have F2 := F1.below k2 F1.lt
 have g2 : Below w.heap.size w (w1.alloc (.cells (fnV nm rs lf rt (.slice a1 lo.length c1) (.slice none 0 0) (.slice none 0 0) (.slice (some ⟨gl, 0, none⟩) 1 1) false) 36)) := g1.trans (k2.mono g1.size)
 have HO2 : Hid (OwS w0.heap.size (w1.alloc (.cells (fnV nm rs lf rt (.slice a1 lo.length c1) (.slice none 0 0) (.slice none 0 0) (.slice (some ⟨gl, 0, none⟩) 1 1) false) 36)) (.slice a1 lo.length c1) lo) := HO1.out.alloc _
 have HBL : Hid (∀ g, (Value.slice a1 lo.length c1).ownBlock = some g → w0.heap.size ≤ g ∧ g < w1.heap.size) := fun g hg => HO1.out.lt g hg
 have s2 : w1.heap.size < (w1.alloc (.cells (fnV nm rs lf rt (.slice a1 lo.length c1) (.slice none 0 0) (.slice none 0 0) (.slice (some ⟨gl, 0, none⟩) 1 1) false) 36)).heap.size := by simp
 generalize hW2 : w1.alloc (.cells (fnV nm rs lf rt (.slice a1 lo.length c1) (.slice none 0 0) (.slice none 0 0) (.slice (some ⟨gl, 0, none⟩) 1 1) false) 36) = w2 at *
 clear hW2 k2 F1 HO1
 have k3 := below_alloc w2 (.map #[] 0)
 have N3 := N2.below k3 s2
 have F3 := F2.below k3 F2.lt
 have M3 := SetIs.new w2
 have g3 : Below w.heap.size w (w2.alloc (.map #[] 0)) := g2.trans (k3.mono g2.size)
 have HO3 : Hid (OwS w0.heap.size (w2.alloc (.map #[] 0)) (.slice a1 lo.length c1) lo) := HO2.out.alloc _
 have s3 : w2.heap.size < (w2.alloc (.map #[] 0)).heap.size := by simp
 generalize hW3 : w2.alloc (.map #[] 0) = w3 at *
 have hmm := @run_makeMap Tryz.prog
 have hlo : lo.length ≤ 10000 := HLO.out
 obtain ⟨r0, r1, r2, r3, r4, r5, r6, r7, r8⟩ := cells9 N3
 obtain ⟨al, hal⟩ : ∃ al, (Hd.mk nm rs lf rt lo).all = al := ⟨_, rfl⟩
 have HAL : Hid ((Hd.mk nm rs lf rt lo).all = al) := hal
 have hal6 : al.length ≤ 1000000 := by
  rw [← hal]
  unfold Hd.all
  have := List.length_filter_le full ([rs, lf, rt] ++ lo)
  simp only [List.length_append, List.length_cons, List.length_nil] at this ⊢
  omega
 have C4 := headerNames_any (w := w3) (nm := nm) (rs := rs) (lf := lf) (rt := rt) (a2 := none) (n2 := 0) (c2 := 0) (a3 := none) (n3 := 0) (c3 := 0) (a4 := some ⟨gl, 0, none⟩) (n4 := 1) (c4 := 1) (RdS.of_row HO3.out) (Nat.le_refl _) hlo
 rw [hal] at C4
 have HC4 : Hid (Calls Tryz.prog 53 _ w3 _) := C4
 clear C4 hal k3 N2 F2 HO2
 go_wp2_with fail
 refine HC4.out.mono ?_
 rintro e w4 ⟨an, cn, rfl, hOn, k4⟩
 have s4 := k4.size
 have N4 := N3.below k4 (by omega)
 have F4 := F3.below k4 (by omega)
 have M4 := M3.below k4 s3
 have g4 : Below w.heap.size w w4 := g3.trans (k4.mono g3.size)
 have HO4 : Hid (OwS w0.heap.size w4 (.slice a1 lo.length c1) lo) := owS_belowS HO3.out k4 (Nat.le_refl _)
 have C5 := take_any (w := w4) (B := w4.heap.size) (M := w2.heap.size) (ks := []) (RdS.of_row hOn) (Or.inr ⟨by omega, fun g o e => by have := (hOn.lt g (by rw [e]; rfl)).1; omega⟩) M4 hal6
 have HC5 : Hid (Calls Tryz.prog 52 _ w4 _) := C5
 clear C5 hOn HC4 r0 r1 r2 r3 r4 r5 r6 r7 r8 N3 F3 M3 HO3 hW3
 go_wp2_with fail
 refine HC5.out.mono ?_
 rintro e w5 ⟨rfl, M5, k5⟩
 have s5 := k5.size
 have hRM : w1.heap.size ≠ w2.heap.size := by omega
 have N5 : BoxA w5 w1.heap.size 36 (fnV nm rs lf rt (.slice a1 lo.length c1) (.slice none 0 0) (.slice none 0 0) (.slice (some ⟨gl, 0, none⟩) 1 1) false) := by
  have := N4
  unfold BoxA at this ⊢
  rw [k5.block _ (by omega) hRM]; exact this
 have F5 : BoxA w5 w.heap.size 36 fn0 := by
  have := F4
  unfold BoxA at this ⊢
  rw [k5.block _ (by omega) (by omega)]; exact this
 have g5 : Below w.heap.size w w5 := g4.trans (k5.below (by omega) (by omega))
 have HO5 : Hid (OwS w0.heap.size w5 (.slice a1 lo.length c1) lo) := by
  obtain ⟨h1, h2 | ⟨gg, cap, cur, hv, hg', hh, r⟩⟩ := HO4.out
  · exact ⟨h1, Or.inl h2⟩
  · have := HBL.out gg (by rw [hv]; rfl)
    exact ⟨h1, Or.inr ⟨gg, cap, cur, hv, hg', by rw [k5.block gg (by omega) (by omega)]; exact hh, r⟩⟩
 have HGo : Hid (∀ r, goF ne (ss.drop 1) 0 (takeF [] al).2 [] [] = r → o = match r with | .inl n => .inl n | .inr (ls, ats) => .inr (Hd.mk nm rs lf rt lo, ls, ats)) := by
  intro r hr
  rw [HG.out, HAL.out, hr]
 generalize (takeF [] al).2 = ks0 at *
 generalize (takeF [] al).1 = tk at *
 clear HC5 N4 F4 M4 HO4 HG HAL k4 k5 hal6 q0
 have hcB : ∀ {W : World}, Below w.heap.size w W → ∀ j, j < ss.length → W.cell? ⟨g, og + j, none⟩ = some (.string (ss.getD j noT)) := fun hb j hj => (hb.cell (p := ⟨g, og + j, none⟩) (by show g < _; omega)).trans (HCL.out j hj)
 by_cases hcone : c = 1
 case pos =>
  subst hcone
  have hs1 : ss.length = 1 := by omega
  have HFIN : Hid (o = .inr (Hd.mk nm rs lf rt lo, [], [])) := HGo.out (.inr ([], [])) (by rw [List.drop_of_length_le (by omega), goF])
  have m1 : ¬ (0 : Int) < ((ss.length - 1 : Nat) : Int) := by omega
  have KR : KL w5.heap.size w1.heap.size w2.heap.size w5 w5 := ⟨rfl, rfl, rfl, Nat.le_refl _, fun _ _ _ _ => rfl⟩
  have HLOC : OwS w0.heap.size w5 (.slice a1 lo.length c1) lo := HO5.out
  have hswr : w5.heap.size ≤ w5.heap.size := Nat.le_refl _
  have oL : OwS w5.heap.size w5 (.slice none 0 0) [] := World.ownsRow_nil _ _ _ _
  have oA : OwI w5.heap.size w5 (.slice none 0 0) [] := World.ownsRow_nil _ _ _ _
  have hz1 : ss.length - 1 = 0 := by omega
  have HS1 : Hid (ss.length = 1) := hs1
  clear HGo M5 hs1 hz1
  go_wp2
  go_loopw [40] (fun iv wr => iv = .int .i64 0 ∧ wr = w5) (fun _ _ => 0)
  case atStart => exact ⟨rfl, rfl⟩
  case round =>
   obtain ⟨rfl, hw⟩ := hrel
   obtain rfl := hw.symm
   have HRr : Hid (RdS B w5 (.slice (some ⟨g, og, none⟩) ss.length 1) ss) := HR.out.below g5 hB
   have HLoc : Hid (OwS w0.heap.size w5 (.slice a1 lo.length c1) lo) := HLOC
   have HoL : Hid (OwS w5.heap.size w5 (.slice none 0 0) []) := oL
   have HoA : Hid (OwI w5.heap.size w5 (.slice none 0 0) []) := oA
   have hsw : w5.heap.size ≤ w5.heap.size := hswr
   go_wp2_with fail
   refine (clone_strs HRr.out (by omega) l0 (by omega)).mono ?_
   rintro e w6 ⟨a4, c4, rfl, hO4, k6⟩
   have s6 := k6.size
   have N6 := N5.below k6 (by omega)
   have F6 := F5.below k6 (by omega)
   have g6 : Below w.heap.size w w6 := g5.trans (k6.mono g5.size)
   have z7 := N6.cell 7 rfl
   have y7 := N6.frozen 7
   have N7 : BoxA (w6.setCell ⟨w1.heap.size, 7, none⟩ (.slice a4 ss.length c4)) w1.heap.size 36 #[.string nm, .string rs, .string lf, .string rt, .slice a1 lo.length c1, .slice none 0 0, .slice none 0 0, .slice a4 ss.length c4, .bool false] := boxA_put N6 7 _
   have F7 := boxF_set (R := w1.heap.size) (k := 7) F6 (by omega) (.slice a4 ss.length c4)
   have g7 : Below w.heap.size w (w6.setCell ⟨w1.heap.size, 7, none⟩ (.slice a4 ss.length c4)) := Below.setCell g6 (by show _ ≤ w1.heap.size; omega) _
   have HoL7 : Hid (OwS w5.heap.size (w6.setCell ⟨w1.heap.size, 7, none⟩ (.slice a4 ss.length c4)) (.slice none 0 0) []) := own_set (own_below HoL.out k6 (Nat.le_refl _)) (fun g hg => by have := (HoL.out.lt g hg).1; show g ≠ w1.heap.size; omega)
   have HoA7 : Hid (OwI w5.heap.size (w6.setCell ⟨w1.heap.size, 7, none⟩ (.slice a4 ss.length c4)) (.slice none 0 0) []) := own_set (own_below HoA.out k6 (Nat.le_refl _)) (fun g hg => by have := (HoA.out.lt g hg).1; show g ≠ w1.heap.size; omega)
   have HoC7 : Hid (OwS w0.heap.size (w6.setCell ⟨w1.heap.size, 7, none⟩ (.slice a4 ss.length c4)) (.slice a1 lo.length c1) lo) := own_set (own_below HLoc.out k6 (Nat.le_refl _)) (fun g hg => by have := (HBL.out g hg).2; show g ≠ w1.heap.size; omega)
   have HoS7 : Hid (OwS w5.heap.size (w6.setCell ⟨w1.heap.size, 7, none⟩ (.slice a4 ss.length c4)) (.slice a4 ss.length c4) ss) := own_set hO4 (fun g hg => by have := (hO4.lt g hg).1; show g ≠ w1.heap.size; omega)
   generalize hW7 : w6.setCell ⟨w1.heap.size, 7, none⟩ (.slice a4 ss.length c4) = w7 at *
   clear HRr HLoc HoL HoA hO4
   obtain ⟨r0, r1, r2, r3, r4, r5, r6, r7, r8⟩ := cells9 N7
   have z0 := F7.cell 0 rfl
   have z1 := F7.cell 1 rfl
   have z2 := F7.cell 2 rfl
   have z3 := F7.cell 3 rfl
   have z4 := F7.cell 4 rfl
   have z5 := F7.cell 5 rfl
   have z6 := F7.cell 6 rfl
   have zz7 := F7.cell 7 rfl
   have z8 := F7.cell 8 rfl
   have y0 := F7.frozen 0
   have y1 := F7.frozen 1
   have y2 := F7.frozen 2
   have y3 := F7.frozen 3
   have y4 := F7.frozen 4
   have y5 := F7.frozen 5
   have y6 := F7.frozen 6
   have yy7 := F7.frozen 7
   have y8 := F7.frozen 8
   have Z := fn_set9 F7 (.string nm) (.string rs) (.string lf) (.string rt) (.slice a1 lo.length c1) (.slice none 0 0) (.slice none 0 0) (.slice a4 ss.length c4) (.bool false)
   have kz := below_set9 (R := w.heap.size) g7 (by omega) (.string nm) (.string rs) (.string lf) (.string rt) (.slice a1 lo.length c1) (.slice none 0 0) (.slice none 0 0) (.slice a4 ss.length c4) (.bool false)
   generalize hWwz : (((((((((w7.setCell ⟨w.heap.size, 0, none⟩ (.string nm)).setCell ⟨w.heap.size, 1, none⟩ (.string rs)).setCell ⟨w.heap.size, 2, none⟩ (.string lf)).setCell ⟨w.heap.size, 3, none⟩ (.string rt)).setCell ⟨w.heap.size, 4, none⟩ (.slice a1 lo.length c1)).setCell ⟨w.heap.size, 5, none⟩ (.slice none 0 0)).setCell ⟨w.heap.size, 6, none⟩ (.slice none 0 0)).setCell ⟨w.heap.size, 7, none⟩ (.slice a4 ss.length c4)).setCell ⟨w.heap.size, 8, none⟩ (.bool false)) = wz at *
   obtain ⟨d0, d1, d2, d3, d4, d5, d6, d7, d8⟩ := cells9 Z
   have hN0 : ∀ g, w.heap.size < g → g ≠ w.heap.size := fun g hg => by omega
   have QL : Hid (OwS w5.heap.size wz (.slice none 0 0) []) := by rw [← hWwz]; exact own_set9 HoL7.out (fun g hg => by have := (HoL7.out.lt g hg).1; omega) _ _ _ _ _ _ _ _ _
   have QA : Hid (OwI w5.heap.size wz (.slice none 0 0) []) := by rw [← hWwz]; exact own_set9 HoA7.out (fun g hg => by have := (HoA7.out.lt g hg).1; omega) _ _ _ _ _ _ _ _ _
   have QC : Hid (OwS w0.heap.size wz (.slice a1 lo.length c1) lo) := by rw [← hWwz]; exact own_set9 HoC7.out (fun g hg => by have := (HoC7.out.lt g hg).1; omega) _ _ _ _ _ _ _ _ _
   have QS : Hid (OwS w5.heap.size wz (.slice a4 ss.length c4) ss) := by rw [← hWwz]; exact own_set9 HoS7.out (fun g hg => by have := (HoS7.out.lt g hg).1; omega) _ _ _ _ _ _ _ _ _
   clear HoL7 HoA7 HoC7 HoS7
   go_wp2
   refine bodyPost_ret (v := .tuple #[.agg #[.string nm, .string rs, .string lf, .string rt, .slice a1 lo.length c1, .slice none 0 0, .slice none 0 0, .slice a4 ss.length c4, .bool false], .int .i64 0, .int .i64 0]) (by simp [results, Tryz.results26, go_sem, d0, d1, d2, d3, d4, d5, d6, d7, d8]) rfl ?_
   exact ⟨Or.inr ⟨Hd.mk nm rs lf rt lo, [], [], a1, c1, _, _, _, _, a4, c4, HFIN.out, rfl, row_monoS QC.out (by omega), row_monoS QL.out (by omega), row_monoS QA.out (by omega), row_monoS QS.out (by omega)⟩, kz⟩
 have i3 : ¬ c = 1 := hcone
 have i4 : 1 < c := by omega
 go_wp2
 go_loopw [40] (fun iv wr => ∃ (i : Nat) (ks ls : List ByteArray) (ats : List Int) (a2 a3 : Option Addr) (c2 c3 : Nat), iv = .int .i64 i ∧ i ≤ ss.length - 1 ∧ BoxA wr w1.heap.size 36 (fnV nm rs lf rt (.slice a1 lo.length c1) (.slice a2 ls.length c2) (.slice a3 ats.length c3) (.slice (some ⟨gl, 0, none⟩) 1 1) false) ∧ SetIs wr w2.heap.size ks ∧ OwS w5.heap.size wr (.slice a2 ls.length c2) ls ∧ OwI w5.heap.size wr (.slice a3 ats.length c3) ats ∧ KL w5.heap.size w1.heap.size w2.heap.size w5 wr ∧ Hid (goF ne (ss.drop 1) 0 ks0 [] [] = goF ne ((ss.drop 1).drop i) i ks ls ats) ∧ Hid (ls.length ≤ i ∧ ats.length ≤ i)) (fun iv _ => ss.length - 1 - (intOf iv).toNat)
 case atStart => exact ⟨0, ks0, [], [], none, none, 0, 0, rfl, Nat.zero_le _, N5, M5, World.ownsRow_nil _ _ _ _, World.ownsRow_nil _ _ _ _, ⟨rfl, rfl, rfl, Nat.le_refl _, fun _ _ _ _ => rfl⟩, rfl, ⟨Nat.le_refl _, Nat.le_refl _⟩⟩
 case round =>
  obtain ⟨i, ks, ls, ats, a2, a3, c2, c3, rfl, hil, Nr, Mr, oL, oA, kr, HGr, HLr⟩ := hrel
  have sr := kr.size
  have gr : Below w.heap.size w wr := g5.trans (kr.below sr (by omega) (by omega) (by omega))
  have Fr5 : BoxA wr w.heap.size 36 fn0 := kr.box F5 (by omega) (by omega) (by omega)
  have HLOC : OwS w0.heap.size wr (.slice a1 lo.length c1) lo := kr.row HO5.out (fun g hg => by have := HBL.out g hg; omega)
  have hswr := kr.size
  by_cases hlt : i < ss.length - 1
  case neg =>
   obtain rfl : i = ss.length - 1 := by omega
   have HFIN : Hid (o = .inr (Hd.mk nm rs lf rt lo, ls, ats)) := by
    have e := HGr.out
    rw [show (ss.drop 1).drop (ss.length - 1) = [] from List.drop_of_length_le (by rw [List.length_drop]; omega)] at e
    exact HGo.out (.inr (ls, ats)) e
   clear HGr HGo HLr Mr
   have HRr : Hid (RdS B wr (.slice (some ⟨g, og, none⟩) ss.length c) ss) := HR.out.below gr hB
   have HLoc : Hid (OwS w0.heap.size wr (.slice a1 lo.length c1) lo) := HLOC
   have HoL : Hid (OwS w5.heap.size wr (.slice a2 ls.length c2) ls) := oL
   have HoA : Hid (OwI w5.heap.size wr (.slice a3 ats.length c3) ats) := oA
   have hsw : w5.heap.size ≤ wr.heap.size := hswr
   go_wp2_with fail
   refine (clone_strs HRr.out (by omega) l0 (by omega)).mono ?_
   rintro e w6 ⟨a4, c4, rfl, hO4, k6⟩
   have s6 := k6.size
   have N6 := Nr.below k6 (by omega)
   have F6 := Fr5.below k6 (by omega)
   have g6 : Below w.heap.size w w6 := gr.trans (k6.mono gr.size)
   have z7 := N6.cell 7 rfl
   have y7 := N6.frozen 7
   have N7 : BoxA (w6.setCell ⟨w1.heap.size, 7, none⟩ (.slice a4 ss.length c4)) w1.heap.size 36 #[.string nm, .string rs, .string lf, .string rt, .slice a1 lo.length c1, .slice a2 ls.length c2, .slice a3 ats.length c3, .slice a4 ss.length c4, .bool false] := boxA_put N6 7 _
   have F7 := boxF_set (R := w1.heap.size) (k := 7) F6 (by omega) (.slice a4 ss.length c4)
   have g7 : Below w.heap.size w (w6.setCell ⟨w1.heap.size, 7, none⟩ (.slice a4 ss.length c4)) := Below.setCell g6 (by show _ ≤ w1.heap.size; omega) _
   have HoL7 : Hid (OwS w5.heap.size (w6.setCell ⟨w1.heap.size, 7, none⟩ (.slice a4 ss.length c4)) (.slice a2 ls.length c2) ls) := own_set (own_below HoL.out k6 (Nat.le_refl _)) (fun g hg => by have := (HoL.out.lt g hg).1; show g ≠ w1.heap.size; omega)
   have HoA7 : Hid (OwI w5.heap.size (w6.setCell ⟨w1.heap.size, 7, none⟩ (.slice a4 ss.length c4)) (.slice a3 ats.length c3) ats) := own_set (own_below HoA.out k6 (Nat.le_refl _)) (fun g hg => by have := (HoA.out.lt g hg).1; show g ≠ w1.heap.size; omega)
   have HoC7 : Hid (OwS w0.heap.size (w6.setCell ⟨w1.heap.size, 7, none⟩ (.slice a4 ss.length c4)) (.slice a1 lo.length c1) lo) := own_set (own_below HLoc.out k6 (Nat.le_refl _)) (fun g hg => by have := (HBL.out g hg).2; show g ≠ w1.heap.size; omega)
   have HoS7 : Hid (OwS wr.heap.size (w6.setCell ⟨w1.heap.size, 7, none⟩ (.slice a4 ss.length c4)) (.slice a4 ss.length c4) ss) := own_set hO4 (fun g hg => by have := (hO4.lt g hg).1; show g ≠ w1.heap.size; omega)
   generalize hW7 : w6.setCell ⟨w1.heap.size, 7, none⟩ (.slice a4 ss.length c4) = w7 at *
   clear HRr HLoc HoL HoA hO4
   obtain ⟨r0, r1, r2, r3, r4, r5, r6, r7, r8⟩ := cells9 N7
   have z0 := F7.cell 0 rfl
   have z1 := F7.cell 1 rfl
   have z2 := F7.cell 2 rfl
   have z3 := F7.cell 3 rfl
   have z4 := F7.cell 4 rfl
   have z5 := F7.cell 5 rfl
   have z6 := F7.cell 6 rfl
   have zz7 := F7.cell 7 rfl
   have z8 := F7.cell 8 rfl
   have y0 := F7.frozen 0
   have y1 := F7.frozen 1
   have y2 := F7.frozen 2
   have y3 := F7.frozen 3
   have y4 := F7.frozen 4
   have y5 := F7.frozen 5
   have y6 := F7.frozen 6
   have yy7 := F7.frozen 7
   have y8 := F7.frozen 8
   have Z := fn_set9 F7 (.string nm) (.string rs) (.string lf) (.string rt) (.slice a1 lo.length c1) (.slice a2 ls.length c2) (.slice a3 ats.length c3) (.slice a4 ss.length c4) (.bool false)
   have kz := below_set9 (R := w.heap.size) g7 (by omega) (.string nm) (.string rs) (.string lf) (.string rt) (.slice a1 lo.length c1) (.slice a2 ls.length c2) (.slice a3 ats.length c3) (.slice a4 ss.length c4) (.bool false)
   generalize hWwz : (((((((((w7.setCell ⟨w.heap.size, 0, none⟩ (.string nm)).setCell ⟨w.heap.size, 1, none⟩ (.string rs)).setCell ⟨w.heap.size, 2, none⟩ (.string lf)).setCell ⟨w.heap.size, 3, none⟩ (.string rt)).setCell ⟨w.heap.size, 4, none⟩ (.slice a1 lo.length c1)).setCell ⟨w.heap.size, 5, none⟩ (.slice a2 ls.length c2)).setCell ⟨w.heap.size, 6, none⟩ (.slice a3 ats.length c3)).setCell ⟨w.heap.size, 7, none⟩ (.slice a4 ss.length c4)).setCell ⟨w.heap.size, 8, none⟩ (.bool false)) = wz at *
   obtain ⟨d0, d1, d2, d3, d4, d5, d6, d7, d8⟩ := cells9 Z
   have hN0 : ∀ g, w.heap.size < g → g ≠ w.heap.size := fun g hg => by omega
   have QL : Hid (OwS w5.heap.size wz (.slice a2 ls.length c2) ls) := by rw [← hWwz]; exact own_set9 HoL7.out (fun g hg => by have := (HoL7.out.lt g hg).1; omega) _ _ _ _ _ _ _ _ _
   have QA : Hid (OwI w5.heap.size wz (.slice a3 ats.length c3) ats) := by rw [← hWwz]; exact own_set9 HoA7.out (fun g hg => by have := (HoA7.out.lt g hg).1; omega) _ _ _ _ _ _ _ _ _
   have QC : Hid (OwS w0.heap.size wz (.slice a1 lo.length c1) lo) := by rw [← hWwz]; exact own_set9 HoC7.out (fun g hg => by have := (HoC7.out.lt g hg).1; omega) _ _ _ _ _ _ _ _ _
   have QS : Hid (OwS wr.heap.size wz (.slice a4 ss.length c4) ss) := by rw [← hWwz]; exact own_set9 HoS7.out (fun g hg => by have := (HoS7.out.lt g hg).1; omega) _ _ _ _ _ _ _ _ _
   clear HoL7 HoA7 HoC7 HoS7
   go_wp2
   refine bodyPost_ret (v := .tuple #[.agg #[.string nm, .string rs, .string lf, .string rt, .slice a1 lo.length c1, .slice a2 ls.length c2, .slice a3 ats.length c3, .slice a4 ss.length c4, .bool false], .int .i64 0, .int .i64 0]) (by simp [results, Tryz.results26, go_sem, d0, d1, d2, d3, d4, d5, d6, d7, d8]) rfl ?_
   exact ⟨Or.inr ⟨Hd.mk nm rs lf rt lo, ls, ats, a1, c1, _, _, _, _, a4, c4, HFIN.out, rfl, row_monoS QC.out (by omega), row_monoS QL.out (by omega), row_monoS QA.out (by omega), row_monoS QS.out (by omega)⟩, kz⟩
  have qx := hcB gr (i + 1) (by omega)
  obtain ⟨x, hx⟩ : ∃ x, x = ss.getD (i + 1) noT := ⟨_, rfl⟩
  rw [← hx] at qx
  have hxs : x.size ≤ 9223372036854775807 := by rw [hx]; exact HSZ.out _ (by omega)
  have HST : Hid (goF ne ((ss.drop 1).drop i) i ks ls ats = if ¬ (allF ne x).2.1 = 0 then .inl (i + 1) else if (labF ne x).1 = noT then goF ne ((ss.drop 1).drop (i + 1)) (i + 1) ks ls ats else if memT (labF ne x).1 ks = true then .inl (i + 1) else goF ne ((ss.drop 1).drop (i + 1)) (i + 1) (ks ++ [(labF ne x).1]) (ls ++ [(labF ne x).1]) (ats ++ [((i : Int) + 1)])) := by
   unfold Hid
   rw [goF_step (by rw [List.length_drop]; omega), show (ss.drop 1).getD i noT = x by rw [hx]; simp [List.getD_eq_getElem?_getD, Nat.add_comm]]
  have i5 : (i : Int) < ((ss.length - 1 : Nat) : Int) := by omega
  have qx2 : wr.cell? ⟨g, og + 1 + i, none⟩ = some (.string x) := by rw [show og + 1 + i = og + (i + 1) by omega]; exact qx
  clear hx qx
  go_wp2_with fail
  refine (labelled_any hne x hxs).mono ?_
  rintro e wa ⟨rfl, ka⟩
  have sa := ka.size
  have Na := Nr.below ka (by omega)
  have Fa := Fr5.below ka (by omega)
  have Ma := Mr.below ka (by omega)
  have ga : Below w.heap.size w wa := gr.trans (ka.mono gr.size)
  have kra := kr.trans_below ka sr
  have oLa : OwS w5.heap.size wa (.slice a2 ls.length c2) ls := own_below oL ka (Nat.le_refl _)
  have oAa : OwI w5.heap.size wa (.slice a3 ats.length c3) ats := own_below oA ka (Nat.le_refl _)
  obtain ⟨lb, hlb⟩ : ∃ lb, lb = (labF ne x).1 := ⟨_, rfl⟩
  rw [← hlb] at HST ⊢
  generalize (labF ne x).2 = bd at *
  clear Nr Fr5 Mr gr kr oL oA qx2 HLOC hlb
  go_wp2_with fail
  refine (isOfTokens_any hne x hxs).mono ?_
  rintro e wb ⟨rfl, kb⟩
  have sb := kb.size
  have Nb := Na.below kb (by omega)
  have Fb := Fa.below kb (by omega)
  have Mb := Ma.below kb (by omega)
  have gb : Below w.heap.size w wb := ga.trans (kb.mono ga.size)
  have krb := kra.trans_below kb (by omega)
  have oLb : OwS w5.heap.size wb (.slice a2 ls.length c2) ls := own_below oLa kb (Nat.le_refl _)
  have oAb : OwI w5.heap.size wb (.slice a3 ats.length c3) ats := own_below oAa kb (Nat.le_refl _)
  clear Na Fa Ma ga kra oLa oAa ka kb
  by_cases hok : (allF ne x).2.1 = 0
  case neg =>
   have HFIN : Hid (o = .inl (i + 1)) := by
    have e := HGr.out
    rw [HST.out, if_pos hok] at e
    exact HGo.out (.inl (i + 1)) e
   rw [decide_eq_false hok]
   clear HGr HGo HST HLr hok
   obtain ⟨z0, z1, z2, z3, z4, z5, z6, z7, z8⟩ := cells9 Fb
   obtain ⟨y0, y1, y2, y3, y4, y5, y6, y7, y8⟩ := frozen9 Fb
   obtain ⟨wz, hWwz, Z, kz⟩ := put0 Fb gb (by omega)
   obtain ⟨d0, d1, d2, d3, d4, d5, d6, d7, d8⟩ := cells9 Z
   go_wp2
   refine bodyPost_ret (v := .tuple #[.agg fn0, .int .i64 28, .int .i64 ((i : Int) + 1)]) (by simp [results, Tryz.results26, go_sem, d0, d1, d2, d3, d4, d5, d6, d7, d8]) rfl ?_
   exact ⟨Or.inl ⟨i + 1, HFIN.out, by simp⟩, kz⟩
  rw [decide_eq_true hok]
  obtain ⟨b1, p1⟩ := isNo_list lb
  by_cases hno : lb = noT
  case pos =>
   have HG2 : Hid (goF ne (ss.drop 1) 0 ks0 [] [] = goF ne ((ss.drop 1).drop (i + 1)) (i + 1) ks ls ats) := by
    unfold Hid
    rw [HGr.out, HST.out, if_neg (fun h => h hok), if_pos hno]
   have HL2 : Hid (ls.length ≤ i + 1 ∧ ats.length ≤ i + 1) := by have := HLr.out; unfold Hid; omega
   have p2 := p1.2 hno
   rw [decide_eq_true hno] at b1
   clear HGr HST HLr hok hno p1
   go_wp2
   go_roundw
   case rel => exact ⟨i + 1, ks, ls, ats, a2, a3, c2, c3, by go_num, by omega, Nb, Mb, oLb, oAb, krb, HG2, HL2⟩
   case measure => simp [intOf]; omega
  have p2 : ¬ lb.toList = [] := fun h => hno (p1.1 h)
  rw [decide_eq_false hno] at b1
  clear p1
  have kq := below_alloc wb (.cells #[.string lb] 9)
  have Nq := Nb.below kq Nb.lt
  have Fq := Fb.below kq Fb.lt
  have Mq := Mb.below kq Mb.lt
  have gq : Below w.heap.size w (wb.alloc (.cells #[.string lb] 9)) := gb.trans (kq.mono gb.size)
  have krq := krb.trans_below kq (by omega)
  have oLq : OwS w5.heap.size (wb.alloc (.cells #[.string lb] 9)) (.slice a2 ls.length c2) ls := oLb.alloc _
  have oAq : OwI w5.heap.size (wb.alloc (.cells #[.string lb] 9)) (.slice a3 ats.length c3) ats := oAb.alloc _
  have CT := take_any (w := wb.alloc (.cells #[.string lb] 9)) (B := wb.heap.size + 1) (M := w2.heap.size) (ks := ks) (ns := [lb]) (a := some ⟨wb.heap.size, 0, none⟩) (c := 1) (rdS_new1 wb lb) (Or.inr ⟨by omega, fun g o e => by cases e; omega⟩) Mq (by simp)
  have HCT : Hid (Calls Tryz.prog 52 #[.map (some w2.heap.size), .slice (some ⟨wb.heap.size, 0, none⟩) 1 1] (wb.alloc (.cells #[.string lb] 9)) _) := CT
  have sq : wb.heap.size < (wb.alloc (.cells #[.string lb] 9)).heap.size := by simp
  clear CT kq Nb Fb Mb gb krb oLb oAb Mq
  generalize hWq : wb.alloc (.cells #[.string lb] 9) = wq at *
  go_wp2_with fail
  clear hWq
  refine HCT.out.mono ?_
  rintro e wc ⟨rfl, Mc, kc⟩
  have sc := kc.size
  have Nc := kc.boxF Nq hRM
  have Fc := kc.boxF Fq (by omega)
  have gc : Below w.heap.size w wc := gq.trans (kc.below (by omega) gq.size)
  have krc := krq.trans_kp kc
  have oLc : OwS w5.heap.size wc (.slice a2 ls.length c2) ls := kc.own oLq (by omega)
  have oAc : OwI w5.heap.size wc (.slice a3 ats.length c3) ats := kc.own oAq (by omega)
  clear HCT Nq Fq gq krq oLq oAq kc
  by_cases hme : memT lb ks = true
  case pos =>
   have HFIN : Hid (o = .inl (i + 1)) := by
    have e := HGr.out
    rw [HST.out, if_neg (fun h => h hok), if_neg hno, if_pos hme] at e
    exact HGo.out (.inl (i + 1)) e
   have htk : (takeF ks [lb]).1 = false := by rw [takeF, if_pos hme]
   rw [htk]
   clear HGr HGo HST HLr hok hno hme htk Mc
   obtain ⟨z0, z1, z2, z3, z4, z5, z6, z7, z8⟩ := cells9 Fc
   obtain ⟨y0, y1, y2, y3, y4, y5, y6, y7, y8⟩ := frozen9 Fc
   obtain ⟨wz, hWwz, Z, kz⟩ := put0 Fc gc (by omega)
   obtain ⟨d0, d1, d2, d3, d4, d5, d6, d7, d8⟩ := cells9 Z
   go_wp2
   refine bodyPost_ret (v := .tuple #[.agg fn0, .int .i64 28, .int .i64 ((i : Int) + 1)]) (by simp [results, Tryz.results26, go_sem, d0, d1, d2, d3, d4, d5, d6, d7, d8]) rfl ?_
   exact ⟨Or.inl ⟨i + 1, HFIN.out, by simp⟩, kz⟩
  have HG2 : Hid (goF ne (ss.drop 1) 0 ks0 [] [] = goF ne ((ss.drop 1).drop (i + 1)) (i + 1) (ks ++ [lb]) (ls ++ [lb]) (ats ++ [((i : Int) + 1)])) := by
   unfold Hid
   rw [HGr.out, HST.out, if_neg (fun h => h hok), if_neg hno, if_neg hme]
  have HL2 : Hid ((ls ++ [lb]).length ≤ i + 1 ∧ (ats ++ [((i : Int) + 1)]).length ≤ i + 1) := by
   have := HLr.out
   unfold Hid
   rw [List.length_append, List.length_append, List.length_singleton, List.length_singleton]
   omega
  have htk : takeF ks [lb] = (true, ks ++ [lb]) := by rw [takeF, if_neg hme, takeF]
  rw [htk] at Mc ⊢
  have hll : ls.length ≤ 100000 ∧ ats.length ≤ 100000 := by have := HLr.out; omega
  have HLL : Hid (ls.length ≤ 100000 ∧ ats.length ≤ 100000) := hll
  clear HGr HST HLr hok hno hme htk hll
  go_wp2_with fail
  refine wp_region_noPanic ?_
  refine makeReg (wc := wc) (R := w1.heap.size) (base := w5.heap.size) (i := i) (lb := lb) (ls := ls) (ats := ats) (by omega) (by omega) HLL.out ?hq (fun _ _ _ _ _ h => h) ⟨rfl, rfl, rfl, by omega, fun _ _ _ _ => rfl⟩ Nc oLc oAc
  case hq =>
   intro p1 p2 x1 x2 y1 y2 W Nw oLw oAw kw
   have MW : SetIs W w2.heap.size (ks ++ [lb]) := Mc.of_block (kw.block _ (by omega) (Ne.symm hRM) (Ne.symm hRM))
   have krW := krc.trans_r kw
   have oLW : OwS w5.heap.size W (.slice x1 (ls ++ [lb]).length y1) (ls ++ [lb]) := by rw [show (ls ++ [lb]).length = ls.length + 1 by simp]; exact oLw
   have oAW : OwI w5.heap.size W (.slice x2 (ats ++ [((i : Int) + 1)]).length y2) (ats ++ [((i : Int) + 1)]) := by rw [show (ats ++ [((i : Int) + 1)]).length = ats.length + 1 by simp]; exact oAw
   have NW : BoxA W w1.heap.size 36 (fnV nm rs lf rt (.slice a1 lo.length c1) (.slice x1 (ls ++ [lb]).length y1) (.slice x2 (ats ++ [((i : Int) + 1)]).length y2) (.slice (some ⟨gl, 0, none⟩) 1 1) false) := by
    rw [show (ls ++ [lb]).length = ls.length + 1 by simp, show (ats ++ [((i : Int) + 1)]).length = ats.length + 1 by simp]
    exact Nw
   clear Nw oLw oAw kw Nc oLc oAc krc Mc
   refine NoPanic.normal ?_
   simp only [Exit.then]
   go_wp2
   go_roundw
   case rel => exact ⟨i + 1, ks ++ [lb], ls ++ [lb], ats ++ [((i : Int) + 1)], x1, x2, y1, y2, by go_num, by omega, NW, MW, oLW, oAW, krW, HG2, HL2⟩
   case measure => simp [intOf]; omega
end Go.Proofs.YtimfnalpmmkndaaGreatDoor
