/- The document's Make. -/
import Derived.Test.YtflkclphchafaaaGreatDoorRL
import Derived.Test.YtflkclphchafaaaGreatDoorRH
import Derived.Test.YtflkclphchafaaaGreatDoorDE
import Derived.Test.YtflkclphchafaaaGreatDoorRC
namespace Go.Proofs.YtflkclphchafaaaGreatDoor
set_option linter.unusedVariables false
set_option linter.unusedSimpArgs false
open Go.RowKit Go.Shelf

theorem takeF_all : ∀ (l ks : List ByteArray), (takeF ks l).1 = true → (takeF ks l).2 = ks ++ l
 | [], ks, _ => by simp [takeF]
 | n :: l, ks, h => by
  rw [takeF] at h ⊢
  by_cases hm : memT n ks = true
  · rw [if_pos hm] at h; cases h
  · rw [if_neg hm] at h ⊢
    rw [takeF_all l _ h, List.append_assoc]
    rfl
theorem headerF_all {ne : ByteArray → Int} {s : ByteArray} {h : Hd} (e : headerF ne s = some h) : (takeF [] h.all).2 = h.all := by
 unfold headerF at e
 by_cases h0 : (allF ne s).2.1 = 0
 · rw [if_pos h0] at e
   unfold headF at e
   by_cases h1 : ¬ tkd (allF ne s).1 (endK (allF ne s).1) = 0 ∨ 32 < (localsOfF (allF ne s).1).length
   · rw [if_pos h1] at e; cases e
   · rw [if_neg h1] at e
     generalize hdOf _ _ _ = od at e
     cases od with
     | none => cases e
     | some k =>
      have e2 : (if (takeF [] k.all).1 = true then some k else none) = some h := e
      by_cases ht : (takeF [] k.all).1 = true
      · rw [if_pos ht] at e2
        cases e2
        exact takeF_all _ [] ht
      · rw [if_neg ht] at e2; cases e2
 · rw [if_neg h0] at e; cases e
theorem mem_all {nm rs lf rt s : ByteArray} {lo : List ByteArray} (hs : ¬ s = noT) : s ∈ (Hd.mk nm rs lf rt lo).all ↔ s = nm ∨ s = rs ∨ s = lf ∨ s = rt ∨ s ∈ lo := by
 unfold Hd.all
 have hf : full s = true := by rw [full_iff, decide_eq_false hs]; rfl
 simp only [List.mem_append, List.mem_filter, List.mem_cons, List.not_mem_nil, or_false, hf, and_true]
 constructor
 · rintro (((h | h | h) | h) | h)
   · exact Or.inr (Or.inl h)
   · exact Or.inr (Or.inr (Or.inl h))
   · exact Or.inr (Or.inr (Or.inr (Or.inl h)))
   · exact Or.inr (Or.inr (Or.inr (Or.inr h)))
   · exact Or.inl h
 · rintro (h | h | h | h | h)
   · exact Or.inr h
   · exact Or.inl (Or.inl (Or.inl h))
   · exact Or.inl (Or.inl (Or.inr (Or.inl h)))
   · exact Or.inl (Or.inl (Or.inr (Or.inr h)))
   · exact Or.inl (Or.inr h)
theorem memT_appS {s : ByteArray} {a b : List ByteArray} : memT s (a ++ b) = true ↔ memT s a = true ∨ memT s b = true := by
 rw [memT_iff, memT_iff, memT_iff, List.mem_append]
/-- An int appended. -/
theorem append_intsB {base p : Nat} {w : World} {ops : Array Oper} {rest : List Oper} {o : Oper} {a : Act} {Q : Exit → Act → World → Prop} {v : Value} {xs : List Int} {k : Int} (hgd : o.guard = none) (s x : Operand)
    (ho : o.op = .call { callee := .builtin .append, args := #[s, x], argTypes := #[23, 23] }) (hs : a.eval s = v) (hx : a.eval x = .slice (some ⟨p, 0, none⟩) 1 1) (hO : OwI base w v xs) (hR : BoxA w p 3 #[.int .i64 k]) (hl : xs.length ≤ 1000000) (hb : base ≤ w.heap.size)
    (h : ∀ v' w', OwI base w' v' (xs ++ [k]) → w.grownBy w' v.ownBlock → wpList Tryz.prog ops Q rest (a.put o.dst v') w') : wpList Tryz.prog ops Q (o :: rest) a w := by
 refine wpList_plain hgd fun K hK => ?_
 obtain ⟨i0, hi, hz0, hz1, hz2⟩ := info_parts info_intS
 obtain ⟨v', w', hr, h2, h3, h4, h5⟩ := run_append_own_at (P := Tryz.prog) w base 23 o.type 3 i0 (.int .i64 0) 1 8 Tryz.underlying23 hi hz0 hz1 hz2 rfl (by decide) v xs.length (xs.map (Value.int .i64)) hO ⟨p, 0, none⟩ 1 1 [.int .i64 k] rfl (by
  intro j u hj
  match j, hj with
  | 0, hj => simp at hj; subst hj; exact hR.cell 0 rfl) (by intro u hu; simp at hu; subst hu; rfl) (by unfold maxLen; omega) (by omega) hb
 unfold Oper.wp execOp
 simp only [ho, resolve, invoke, builtin, Sem.run_bind, Sem.run_pure, Result.andThen_ok, List.map_toArray, List.map_cons, List.map_nil, hs, hx, hr]
 refine hK _ _ (h v' w' ?_ h3)
 unfold OwI
 rw [List.length_append, List.map_append]
 exact h2
set_option maxRecDepth 100000 in
set_option maxHeartbeats 32000000 in
theorem refMake_any {B : Nat} {w : World} {ne : ByteArray → Int} (hne : TellsErr ne) {a : Option Addr} {c : Nat} {ss : List ByteArray} (h : RdS B w (.slice a ss.length c) ss) (hB : B ≤ w.heap.size) (hsz : ∀ x ∈ ss, x.size ≤ 9223372036854775807) (hT : Lib.Utf8Tabs 0 1 w) :
    Calls Tryz.prog 6 #[.slice a ss.length c] w (MakeIs w ss (makeF ne ss)) := by
 have HR : Hid (RdS B w (.slice a ss.length c) ss) := h
 have HTB : Hid (Lib.Utf8Tabs 0 1 w) := hT
 obtain ⟨hc1, hc2⟩ := h.cap
 have HSZ : Hid (∀ j, j < ss.length → (ss.getD j noT).size ≤ 9223372036854775807) := fun j hj => hsz _ (by rw [List.getD_eq_getElem?_getD, List.getElem?_eq_getElem hj]; exact List.getElem_mem hj)
 have k0 := below_alloc w (.cells fn0 25)
 have F0 := boxA_new w fn0 25
 generalize hW0 : w.alloc (.cells fn0 25) = w0 at *
 have s0 : w.heap.size < w0.heap.size := by rw [← hW0]; simp
 obtain ⟨o, ho⟩ : ∃ o, o = makeF ne ss := ⟨_, rfl⟩
 rw [← ho]
 have HMF : Hid (o = makeF ne ss) := ho
 clear h hsz ho hT
 go_enter Tryz.func6, Tryz.ntmps6
 by_cases hl : ss.length = 0 ∨ 256 < ss.length
 case pos =>
  have HN : Hid (o = .inl 0) := by
   unfold Hid
   rw [HMF.out]
   cases ss with
   | nil => rfl
   | cons x r =>
    rw [makeF, if_pos]
    simp at hl
    omega
  by_cases hl0 : ss.length = 0
  · have e0 : ((ss.length : Int) == 0) = true := by rw [beq_iff_eq]; omega
    clear HMF hl hl0 HR
    obtain ⟨z0, z1, z2, z3, z4, z5, z6, z7, z8⟩ := cells9 F0
    obtain ⟨y0, y1, y2, y3, y4, y5, y6, y7, y8⟩ := frozen9 F0
    obtain ⟨wz, hWwz, Z, kz⟩ := put0 F0 k0 (by omega)
    obtain ⟨d0, d1, d2, d3, d4, d5, d6, d7, d8⟩ := cells9 Z
    go_wp2
    refine bodyPost_ret (v := .tuple #[.agg fn0, .int .i64 28, .int .i64 0]) (by simp [results, Tryz.results6, go_sem, d0, d1, d2, d3, d4, d5, d6, d7, d8]) rfl ?_
    exact ⟨Or.inl ⟨0, HN.out, by first | rfl | simp⟩, kz⟩
  · have e0 : ((ss.length : Int) == 0) = false := by rw [beq_eq_false_iff_ne]; omega
    have e1 : (256 : Int) < (ss.length : Int) := by omega
    clear HMF hl hl0 HR
    obtain ⟨z0, z1, z2, z3, z4, z5, z6, z7, z8⟩ := cells9 F0
    obtain ⟨y0, y1, y2, y3, y4, y5, y6, y7, y8⟩ := frozen9 F0
    obtain ⟨wz, hWwz, Z, kz⟩ := put0 F0 k0 (by omega)
    obtain ⟨d0, d1, d2, d3, d4, d5, d6, d7, d8⟩ := cells9 Z
    go_wp2
    refine bodyPost_ret (v := .tuple #[.agg fn0, .int .i64 28, .int .i64 0]) (by simp [results, Tryz.results6, go_sem, d0, d1, d2, d3, d4, d5, d6, d7, d8]) rfl ?_
    exact ⟨Or.inl ⟨0, HN.out, by first | rfl | simp⟩, kz⟩
 obtain ⟨g, og, rfl, hg, hcell⟩ := HR.out.ptr (by omega)
 have e0 : ((ss.length : Int) == 0) = false := by rw [beq_eq_false_iff_ne]; omega
 have e1 : ¬ (256 : Int) < (ss.length : Int) := by omega
 have l0 : 0 < ss.length := by omega
 have l1 : (0 : Int) < (ss.length : Int) := by omega
 have l2 : (1 : Int) ≤ (ss.length : Int) := by omega
 have hl6 : ss.length ≤ 256 := by omega
 obtain ⟨s, hs⟩ : ∃ s, s = ss.getD 0 noT := ⟨_, rfl⟩
 have q := hcell 0 l0
 rw [← hs, Nat.add_zero] at q
 have q0 := (k0.cell (p := ⟨g, og, none⟩) (by show g < _; omega)).trans q
 have hss : s.size ≤ 9223372036854775807 := by rw [hs]; exact HSZ.out 0 l0
 have C1 := refHeader_any (w := w0) (er := (allF ne s).2.1) (T := (refAllF ne s).1) s (o := headerF ne s) (by
  unfold Hid headerF
  by_cases h0 : (allF ne s).2.1 = 0
  · rw [if_pos h0, if_pos h0, (ref_facts h0).2.2.1]
  · rw [if_neg h0, if_neg h0]) (refToks_any hne s hss (Utf8Tabs.to HTB.out (k0.trans ((below_alloc w0 _).mono (by omega))) (Nat.le_refl _)))
 have HM2 : Hid (o = match headerF ne s with | none => .inl 0 | some h => match goF ne (ss.drop 1) 0 (takeF [] h.all).2 [] [] with | .inl n => .inl n | .inr (ls, ats) => .inr (h, ls, ats)) := by
  unfold Hid
  rw [HMF.out, hs]
  cases ss with
  | nil => simp at l0
  | cons x r =>
   rw [makeF, if_neg (by simp at hl6; omega)]
   rfl
 have HCL : Hid (∀ j, j < ss.length → w.cell? ⟨g, og + j, none⟩ = some (.string (ss.getD j noT))) := hcell
 clear hl HMF hs hcell q
 have HC1 : Hid (Calls Tryz.prog 19 _ w0 _) := C1
 clear C1
 go_wp2_with fail
 refine HC1.out.mono ?_
 rintro e w1 ⟨hcase, k1⟩
 have s1 := k1.size
 have g1 : Below w.heap.size w w1 := k0.trans (k1.mono (by omega))
 have F1 := F0.below k1 (by omega)
 clear F0 k0 HC1 hW0
 rcases hcase with ⟨h, a1, c1, gl, hh, rfl, hO, hS⟩ | ⟨hh, rfl⟩
 case inr =>
  have HN : Hid (o = .inl 0) := by unfold Hid; rw [HM2.out, hh]
  clear hh HM2
  go_upto_region 4 with fail
  have k3 := below_alloc w1 (.cells fn0 25)
  have F3 := F1.below k3 F1.lt
  have g3 : Below w.heap.size w (w1.alloc (.cells fn0 25)) := g1.trans (k3.mono g1.size)
  generalize hW3 : w1.alloc (.cells fn0 25) = w3 at *
  clear hW3 k3 F1
  obtain ⟨z0, z1, z2, z3, z4, z5, z6, z7, z8⟩ := cells9 F3
  obtain ⟨y0, y1, y2, y3, y4, y5, y6, y7, y8⟩ := frozen9 F3
  obtain ⟨wz, hWwz, Z, kz⟩ := put0 F3 g3 (by omega)
  obtain ⟨d0, d1, d2, d3, d4, d5, d6, d7, d8⟩ := cells9 Z
  go_wp2
  refine bodyPost_ret (v := .tuple #[.agg fn0, .int .i64 28, .int .i64 0]) (by simp [results, Tryz.results6, go_sem, d0, d1, d2, d3, d4, d5, d6, d7, d8]) rfl ?_
  exact ⟨Or.inl ⟨0, HN.out, by first | rfl | simp⟩, kz⟩
 have HG : Hid (o = match goF ne (ss.drop 1) 0 h.all [] [] with | .inl n => .inl n | .inr (ls, ats) => .inr (h, ls, ats)) := by
  have e := HM2.out
  rw [hh] at e
  simp only at e
  rw [headerF_all hh] at e
  exact e
 have HO1 : Hid (OwS w0.heap.size w1 (.slice a1 h.ls.length c1) h.ls) := hO
 have HLO' : h.ls.length ≤ 10000 := headerF_few hh
 clear hh HM2 hO hS
 have HLO : Hid (h.ls.length ≤ 10000) := HLO'
 clear HLO'
 obtain ⟨nm, rs, lf, rt, lo⟩ := h
 simp only at HO1 HLO ⊢
 go_upto_region 4 with fail
 have k2 := below_alloc w1 (.cells (fnV nm rs lf rt (.slice a1 lo.length c1) (.slice none 0 0) (.slice none 0 0) (.slice (some ⟨gl, 0, none⟩) 1 1) false) 25)
 have N2 := boxA_new w1 (fnV nm rs lf rt (.slice a1 lo.length c1) (.slice none 0 0) (.slice none 0 0) (.slice (some ⟨gl, 0, none⟩) 1 1) false) 25
 have F2 := F1.below k2 F1.lt
 have g2 : Below w.heap.size w (w1.alloc (.cells (fnV nm rs lf rt (.slice a1 lo.length c1) (.slice none 0 0) (.slice none 0 0) (.slice (some ⟨gl, 0, none⟩) 1 1) false) 25)) := g1.trans (k2.mono g1.size)
 have HO2 : Hid (OwS w0.heap.size (w1.alloc (.cells (fnV nm rs lf rt (.slice a1 lo.length c1) (.slice none 0 0) (.slice none 0 0) (.slice (some ⟨gl, 0, none⟩) 1 1) false) 25)) (.slice a1 lo.length c1) lo) := HO1.out.alloc _
 have HBL : Hid (∀ g, (Value.slice a1 lo.length c1).ownBlock = some g → w0.heap.size ≤ g ∧ g < w1.heap.size) := fun g hg => HO1.out.lt g hg
 have s2 : w1.heap.size < (w1.alloc (.cells (fnV nm rs lf rt (.slice a1 lo.length c1) (.slice none 0 0) (.slice none 0 0) (.slice (some ⟨gl, 0, none⟩) 1 1) false) 25)).heap.size := by simp
 generalize hW2 : w1.alloc (.cells (fnV nm rs lf rt (.slice a1 lo.length c1) (.slice none 0 0) (.slice none 0 0) (.slice (some ⟨gl, 0, none⟩) 1 1) false) 25) = w2 at *
 clear hW2 k2 F1 HO1
 have z7 := N2.cell 7 rfl
 have y7 := N2.frozen 7
 have N3 : BoxA (w2.setCell ⟨w1.heap.size, 7, none⟩ (.slice none 0 0)) w1.heap.size 25 #[.string nm, .string rs, .string lf, .string rt, .slice a1 lo.length c1, .slice none 0 0, .slice none 0 0, .slice none 0 0, .bool false] := boxA_put N2 7 _
 have F3 := boxF_set (R := w1.heap.size) (k := 7) F2 (by omega) (.slice none 0 0)
 have g3 : Below w.heap.size w (w2.setCell ⟨w1.heap.size, 7, none⟩ (.slice none 0 0)) := Below.setCell g2 (by show _ ≤ w1.heap.size; omega) _
 have HO3 : Hid (OwS w0.heap.size (w2.setCell ⟨w1.heap.size, 7, none⟩ (.slice none 0 0)) (.slice a1 lo.length c1) lo) := own_set HO2.out (fun g hg => by have := (HBL.out g hg).2; show g ≠ w1.heap.size; omega)
 have s3 : w1.heap.size < (w2.setCell ⟨w1.heap.size, 7, none⟩ (.slice none 0 0)).heap.size := by simp [World.setCell]; omega
 generalize hW3 : w2.setCell ⟨w1.heap.size, 7, none⟩ (.slice none 0 0) = w3 at *
 have z7' := N3.cell 7 rfl
 have HRr : Hid (RdS B w3 (.slice (some ⟨g, og, none⟩) ss.length c) ss) := HR.out.below g3 hB
 have HON : Hid (OwS w3.heap.size w3 (.slice none 0 0) []) := World.ownsRow_nil _ _ _ _
 go_wp2_with (at_builtin; refine append_strs rfl _ _ rfl rfl rfl (xs := []) (ys := ss) HON.out HRr.out (by simp only [List.length_nil]; omega) (Nat.le_refl _) ?_)
 clear hW3 z7 y7 z7' N2 F2 g2 HO2 s2 HON HRr
 intro v4 w4 hO4 hgr
 try rw [List.nil_append] at hO4
 obtain ⟨a4, c4, rfl⟩ := row_form2S hO4
 have s4 := hgr.size
 have N4 := N3.grownF hgr (by simp [Value.ownBlock])
 have F4 := F3.grownF hgr (by simp [Value.ownBlock])
 have g4 : Below w.heap.size w w4 := g3.grown hgr g3.size (fun k hk => by cases hk)
 have HO4 : Hid (OwS w0.heap.size w4 (.slice a1 lo.length c1) lo) := HO3.out.kept hgr (by
  cases hx : (Value.slice a1 lo.length c1).ownBlock with
  | none => exact Or.inl rfl
  | some x => exact Or.inr (by simp [Value.ownBlock]))
 have z7 := N4.cell 7 rfl
 have y7 := N4.frozen 7
 have HB4 : Hid (∀ g, (Value.slice a4 ss.length c4).ownBlock = some g → w3.heap.size ≤ g ∧ g < w4.heap.size) := fun g hg => hO4.lt g hg
 have N5 : BoxA (w4.setCell ⟨w1.heap.size, 7, none⟩ (.slice a4 ss.length c4)) w1.heap.size 25 #[.string nm, .string rs, .string lf, .string rt, .slice a1 lo.length c1, .slice none 0 0, .slice none 0 0, .slice a4 ss.length c4, .bool false] := boxA_put N4 7 _
 have F5 := boxF_set (R := w1.heap.size) (k := 7) F4 (by omega) (.slice a4 ss.length c4)
 have g5 : Below w.heap.size w (w4.setCell ⟨w1.heap.size, 7, none⟩ (.slice a4 ss.length c4)) := Below.setCell g4 (by show _ ≤ w1.heap.size; omega) _
 have HO5 : Hid (OwS w0.heap.size (w4.setCell ⟨w1.heap.size, 7, none⟩ (.slice a4 ss.length c4)) (.slice a1 lo.length c1) lo) := own_set HO4.out (fun g hg => by have := (HBL.out g hg).2; show g ≠ w1.heap.size; omega)
 have HQ5 : Hid (OwS w3.heap.size (w4.setCell ⟨w1.heap.size, 7, none⟩ (.slice a4 ss.length c4)) (.slice a4 ss.length c4) ss) := own_set hO4 (fun g hg => by have := (HB4.out g hg).1; show g ≠ w1.heap.size; omega)
 have s5 : w4.heap.size = (w4.setCell ⟨w1.heap.size, 7, none⟩ (.slice a4 ss.length c4)).heap.size := by simp [World.setCell]
 generalize hW5 : w4.setCell ⟨w1.heap.size, 7, none⟩ (.slice a4 ss.length c4) = w5 at *
 have HGo : Hid (∀ r, goF ne (ss.drop 1) 0 (Hd.mk nm rs lf rt lo).all [] [] = r → o = match r with | .inl n => .inl n | .inr (ls, ats) => .inr (Hd.mk nm rs lf rt lo, ls, ats)) := by
  intro r hr
  rw [HG.out, hr]
 have HCB : Hid (∀ {W : World}, Below w.heap.size w W → ∀ j, j < ss.length → W.cell? ⟨g, og + j, none⟩ = some (.string (ss.getD j noT))) := fun hb j hj => (hb.cell (p := ⟨g, og + j, none⟩) (by show g < _; omega)).trans (HCL.out j hj)
 have s5' : w4.heap.size ≤ w5.heap.size := by omega
 clear N3 F3 g3 HO3 hgr hO4 N4 F4 g4 HO4 HG s5
 go_wp2
 clear hW5 z7 y7
 go_loopw [7] (fun iv wr => ∃ (i k : Nat) (ls : List ByteArray) (ats : List Int) (a2 a3 : Option Addr) (c2 c3 : Nat), Hid (i = k + 1) ∧ iv = .int .i64 i ∧ i ≤ ss.length ∧ BoxA wr w1.heap.size 25 (fnV nm rs lf rt (.slice a1 lo.length c1) (.slice a2 ls.length c2) (.slice a3 ats.length c3) (.slice a4 ss.length c4) false) ∧ OwS w5.heap.size wr (.slice a2 ls.length c2) ls ∧ OwI w5.heap.size wr (.slice a3 ats.length c3) ats ∧ KL w5.heap.size w1.heap.size w1.heap.size w5 wr ∧ Hid (goF ne (ss.drop 1) 0 (Hd.mk nm rs lf rt lo).all [] [] = goF ne ((ss.drop 1).drop k) k ((Hd.mk nm rs lf rt lo).all ++ ls) ls ats) ∧ Hid (ls.length ≤ i ∧ ats.length ≤ i)) (fun iv _ => ss.length - (intOf iv).toNat)
 case atStart => exact ⟨1, 0, [], [], none, none, 0, 0, rfl, rfl, by omega, N5, World.ownsRow_nil _ _ _ _, World.ownsRow_nil _ _ _ _, ⟨rfl, rfl, rfl, Nat.le_refl _, fun _ _ _ _ => rfl⟩, by rw [List.append_nil]; rfl, ⟨Nat.zero_le _, Nat.zero_le _⟩⟩
 case round =>
  obtain ⟨i, k, ls, ats, a2, a3, c2, c3, HIK, rfl, hil, Nr, oL, oA, kr, HGr, HLr⟩ := hrel
  have sr := kr.size
  have gr : Below w.heap.size w wr := g5.trans (kr.below sr (by omega) (by omega) (by omega))
  have Fr5 : BoxA wr w.heap.size 25 fn0 := kr.box F5 (by omega) (by omega) (by omega)
  have HLOC : Hid (OwS w0.heap.size wr (.slice a1 lo.length c1) lo) := kr.row HO5.out (fun g hg => by have := HBL.out g hg; omega)
  have HQ : Hid (OwS w3.heap.size wr (.slice a4 ss.length c4) ss) := kr.row HQ5.out (fun g hg => by have := HB4.out g hg; omega)
  by_cases hlt : i < ss.length
  case neg =>
   have HFIN : Hid (o = .inr (Hd.mk nm rs lf rt lo, ls, ats)) := by
    have e := HGr.out
    rw [show (ss.drop 1).drop k = [] from List.drop_of_length_le (by rw [List.length_drop]; have := HIK.out; omega)] at e
    exact HGo.out (.inr (ls, ats)) e
   have HoL : Hid (OwS w5.heap.size wr (.slice a2 ls.length c2) ls) := oL
   have HoA : Hid (OwI w5.heap.size wr (.slice a3 ats.length c3) ats) := oA
   have hli : ¬ (i : Int) < (ss.length : Int) := by omega
   clear HGr HGo HLr HIK oL oA
   obtain ⟨r0, r1, r2, r3, r4, r5, r6, r7, r8⟩ := cells9 Nr
   obtain ⟨z0, z1, z2, z3, z4, z5, z6, z7, z8⟩ := cells9 Fr5
   obtain ⟨y0, y1, y2, y3, y4, y5, y6, y7, y8⟩ := frozen9 Fr5
   have Z := fn_set9 Fr5 (.string nm) (.string rs) (.string lf) (.string rt) (.slice a1 lo.length c1) (.slice a2 ls.length c2) (.slice a3 ats.length c3) (.slice a4 ss.length c4) (.bool false)
   have kz := below_set9 (R := w.heap.size) gr (by omega) (.string nm) (.string rs) (.string lf) (.string rt) (.slice a1 lo.length c1) (.slice a2 ls.length c2) (.slice a3 ats.length c3) (.slice a4 ss.length c4) (.bool false)
   generalize hWwz : (((((((((wr.setCell ⟨w.heap.size, 0, none⟩ (.string nm)).setCell ⟨w.heap.size, 1, none⟩ (.string rs)).setCell ⟨w.heap.size, 2, none⟩ (.string lf)).setCell ⟨w.heap.size, 3, none⟩ (.string rt)).setCell ⟨w.heap.size, 4, none⟩ (.slice a1 lo.length c1)).setCell ⟨w.heap.size, 5, none⟩ (.slice a2 ls.length c2)).setCell ⟨w.heap.size, 6, none⟩ (.slice a3 ats.length c3)).setCell ⟨w.heap.size, 7, none⟩ (.slice a4 ss.length c4)).setCell ⟨w.heap.size, 8, none⟩ (.bool false)) = wz at *
   obtain ⟨d0, d1, d2, d3, d4, d5, d6, d7, d8⟩ := cells9 Z
   have QL : Hid (OwS w5.heap.size wz (.slice a2 ls.length c2) ls) := by rw [← hWwz]; exact own_set9 HoL.out (fun g hg => by have := (HoL.out.lt g hg).1; omega) _ _ _ _ _ _ _ _ _
   have QA : Hid (OwI w5.heap.size wz (.slice a3 ats.length c3) ats) := by rw [← hWwz]; exact own_set9 HoA.out (fun g hg => by have := (HoA.out.lt g hg).1; omega) _ _ _ _ _ _ _ _ _
   have QC : Hid (OwS w0.heap.size wz (.slice a1 lo.length c1) lo) := by rw [← hWwz]; exact own_set9 HLOC.out (fun g hg => by have := (HLOC.out.lt g hg).1; omega) _ _ _ _ _ _ _ _ _
   have QS : Hid (OwS w3.heap.size wz (.slice a4 ss.length c4) ss) := by rw [← hWwz]; exact own_set9 HQ.out (fun g hg => by have := (HQ.out.lt g hg).1; omega) _ _ _ _ _ _ _ _ _
   clear HoL HoA HLOC HQ
   go_wp2
   refine bodyPost_ret (v := .tuple #[.agg #[.string nm, .string rs, .string lf, .string rt, .slice a1 lo.length c1, .slice a2 ls.length c2, .slice a3 ats.length c3, .slice a4 ss.length c4, .bool false], .int .i64 0, .int .i64 0]) (by simp [results, Tryz.results6, go_sem, d0, d1, d2, d3, d4, d5, d6, d7, d8]) rfl ?_
   exact ⟨Or.inr ⟨Hd.mk nm rs lf rt lo, ls, ats, a1, c1, _, _, _, _, a4, c4, HFIN.out, rfl, row_monoS QC.out (by omega), row_monoS QL.out (by omega), row_monoS QA.out (by omega), row_monoS QS.out (by omega)⟩, kz⟩
  have qx := HCB.out gr i hlt
  obtain ⟨x, hx⟩ : ∃ x, x = ss.getD i noT := ⟨_, rfl⟩
  rw [← hx] at qx
  have hxs : x.size ≤ 9223372036854775807 := by rw [hx]; exact HSZ.out _ hlt
  have HST : Hid (goF ne ((ss.drop 1).drop k) k ((Hd.mk nm rs lf rt lo).all ++ ls) ls ats = if ¬ (allF ne x).2.1 = 0 then .inl i else if (labF ne x).1 = noT then goF ne ((ss.drop 1).drop i) i ((Hd.mk nm rs lf rt lo).all ++ ls) ls ats else if memT (labF ne x).1 ((Hd.mk nm rs lf rt lo).all ++ ls) = true then .inl i else goF ne ((ss.drop 1).drop i) i (((Hd.mk nm rs lf rt lo).all ++ ls) ++ [(labF ne x).1]) (ls ++ [(labF ne x).1]) (ats ++ [(i : Int)])) := by
   unfold Hid
   have hik := HIK.out
   rw [goF_step (by rw [List.length_drop]; omega), show (ss.drop 1).getD k noT = x by rw [hx, hik]; simp [List.getD_eq_getElem?_getD, Nat.add_comm], hik]
   rfl
  have i5 : (i : Int) < (ss.length : Int) := by omega
  have i6 : i < c := by omega
  have CA := refToks_any hne x hxs (Utf8Tabs.to HTB.out gr (Nat.le_refl _))
  have HCA : Hid (Calls Tryz.prog 20 _ wr _) := CA
  have HX : Hid (x = ss.getD i noT) := hx
  clear hx CA HIK
  go_wp2_with fail
  refine HCA.out.mono ?_
  rintro e wa ⟨hca, ka⟩
  have sa := ka.size
  have Na := Nr.below ka (by omega)
  have Fa := Fr5.below ka (by omega)
  have ga : Below w.heap.size w wa := gr.trans (ka.mono gr.size)
  have kra := kr.trans_below ka sr
  have oLa : OwS w5.heap.size wa (.slice a2 ls.length c2) ls := own_below oL ka (Nat.le_refl _)
  have oAa : OwI w5.heap.size wa (.slice a3 ats.length c3) ats := own_below oA ka (Nat.le_refl _)
  clear Nr Fr5 kr oL oA HLOC HQ HCA qx
  rcases hca with ⟨hok, gt, ct, rfl, _, _, _, _⟩ | ⟨hok, vt, pt, rfl⟩
  case inr =>
   have HFIN : Hid (o = .inl i) := by
    have e := HGr.out
    rw [HST.out, if_pos hok] at e
    exact HGo.out (.inl i) e
   have e5 : ((allF ne x).2.1 != 0) = true := by rw [bne_iff_ne]; exact hok
   generalize (allF ne x).2.1 = er at *
   clear HGr HGo HST HLr hok oLa oAa
   obtain ⟨z0, z1, z2, z3, z4, z5, z6, z7, z8⟩ := cells9 Fa
   obtain ⟨y0, y1, y2, y3, y4, y5, y6, y7, y8⟩ := frozen9 Fa
   obtain ⟨wz, hWwz, Z, kz⟩ := put0 Fa ga (by omega)
   obtain ⟨d0, d1, d2, d3, d4, d5, d6, d7, d8⟩ := cells9 Z
   go_wp2
   refine bodyPost_ret (v := .tuple #[.agg fn0, .int .i64 28, .int .i64 (i : Int)]) (by simp [results, Tryz.results6, go_sem, d0, d1, d2, d3, d4, d5, d6, d7, d8]) rfl ?_
   exact ⟨Or.inl ⟨i, HFIN.out, by first | rfl | simp⟩, kz⟩
  have qa := HCB.out ga i hlt
  rw [← HX.out] at qa
  have CL := refLabel_any hne (w := wa) x hxs (Utf8Tabs.to HTB.out ga (Nat.le_refl _)) hok
  have HCLb : Hid (Calls Tryz.prog 21 _ wa _) := CL
  obtain ⟨lb, hlb⟩ : ∃ lb, lb = (labF ne x).1 := ⟨_, rfl⟩
  rw [← hlb] at HST HCLb
  rw [if_neg (fun h => h hok)] at HST
  clear CL hlb hok
  go_wp2_with fail
  refine HCLb.out.mono ?_
  rintro e wb ⟨bd, rfl, kb⟩
  have sb := kb.size
  have Nb := Na.below kb (by omega)
  have Fb := Fa.below kb (by omega)
  have gb : Below w.heap.size w wb := ga.trans (kb.mono ga.size)
  have krb := kra.trans_below kb (by omega)
  have oLb : OwS w5.heap.size wb (.slice a2 ls.length c2) ls := own_below oLa kb (Nat.le_refl _)
  have oAb : OwI w5.heap.size wb (.slice a3 ats.length c3) ats := own_below oAa kb (Nat.le_refl _)
  clear Na Fa ga kra oLa oAa ka kb HCLb qa
  obtain ⟨b1, p1⟩ := isNo_list lb
  by_cases hno : lb = noT
  case pos =>
   have HG2 : Hid (goF ne (ss.drop 1) 0 (Hd.mk nm rs lf rt lo).all [] [] = goF ne ((ss.drop 1).drop i) i ((Hd.mk nm rs lf rt lo).all ++ ls) ls ats) := by
    unfold Hid
    rw [HGr.out, HST.out, if_pos hno]
   have HL2 : Hid (ls.length ≤ i + 1 ∧ ats.length ≤ i + 1) := by have := HLr.out; unfold Hid; omega
   have p2 := p1.2 hno
   rw [decide_eq_true hno] at b1
   clear HGr HST HLr hno p1
   go_wp2
   go_roundw
   case rel => exact ⟨i + 1, i, ls, ats, a2, a3, c2, c3, rfl, by go_num, by omega, Nb, oLb, oAb, krb, HG2, HL2⟩
   case measure => simp [intOf]; omega
  have p2 : ¬ lb.toList = [] := fun h => hno (p1.1 h)
  rw [decide_eq_false hno] at b1
  rw [if_neg hno] at HST
  have HMA : Hid (lb ∈ (Hd.mk nm rs lf rt lo).all ↔ lb = nm ∨ lb = rs ∨ lb = lf ∨ lb = rt ∨ lb ∈ lo) := mem_all hno
  have HERR : Hid ((lb ∈ (Hd.mk nm rs lf rt lo).all ∨ memT lb ls = true) → o = .inl i) := by
   intro hm
   have e := HGr.out
   rw [HST.out, if_pos (memT_appS.2 (by
    rcases hm with hm | hm
    · exact Or.inl (memT_iff.2 hm)
    · exact Or.inr hm))] at e
   exact HGo.out (.inl i) e
  have HLob : Hid (RdS wb.heap.size wb (.slice a1 lo.length c1) lo) := by
   have := krb.row HO5.out (fun g hg => by have := HBL.out g hg; omega)
   exact RdS.of_row this
  have HLab : Hid (RdS wb.heap.size wb (.slice a2 ls.length c2) ls) := RdS.of_row oLb
  obtain ⟨r0, r1, r2, r3, r4, r5, r6, r7, r8⟩ := cells9 Nb
  have t0 := same_textD lb nm
  have t1 := same_textD lb rs
  have t2 := same_textD lb lf
  have t3 := same_textD lb rt
  clear p1 hno
  by_cases hc0 : lb = nm
  case pos =>
   have hc := hc0
   have HFIN : Hid (o = .inl i) := HERR.out (Or.inl (HMA.out.2 (Or.inl hc)))
   rw [decide_eq_true hc0] at t0
   clear HERR HMA HGr HGo HST HLr hc hc0
   obtain ⟨z0, z1, z2, z3, z4, z5, z6, z7, z8⟩ := cells9 Fb
   obtain ⟨y0, y1, y2, y3, y4, y5, y6, y7, y8⟩ := frozen9 Fb
   obtain ⟨wz, hWwz, Z, kz⟩ := put0 Fb gb (by omega)
   obtain ⟨d0, d1, d2, d3, d4, d5, d6, d7, d8⟩ := cells9 Z
   go_wp2
   refine bodyPost_ret (v := .tuple #[.agg fn0, .int .i64 28, .int .i64 (i : Int)]) (by simp [results, Tryz.results6, go_sem, d0, d1, d2, d3, d4, d5, d6, d7, d8]) rfl ?_
   exact ⟨Or.inl ⟨i, HFIN.out, by first | rfl | simp⟩, kz⟩
  rw [decide_eq_false hc0] at t0
  by_cases hc1 : lb = rs
  case pos =>
   have hc := hc1
   have HFIN : Hid (o = .inl i) := HERR.out (Or.inl (HMA.out.2 (Or.inr (Or.inl hc))))
   rw [decide_eq_true hc1] at t1
   clear HERR HMA HGr HGo HST HLr hc hc1
   obtain ⟨z0, z1, z2, z3, z4, z5, z6, z7, z8⟩ := cells9 Fb
   obtain ⟨y0, y1, y2, y3, y4, y5, y6, y7, y8⟩ := frozen9 Fb
   obtain ⟨wz, hWwz, Z, kz⟩ := put0 Fb gb (by omega)
   obtain ⟨d0, d1, d2, d3, d4, d5, d6, d7, d8⟩ := cells9 Z
   go_wp2
   refine bodyPost_ret (v := .tuple #[.agg fn0, .int .i64 28, .int .i64 (i : Int)]) (by simp [results, Tryz.results6, go_sem, d0, d1, d2, d3, d4, d5, d6, d7, d8]) rfl ?_
   exact ⟨Or.inl ⟨i, HFIN.out, by first | rfl | simp⟩, kz⟩
  rw [decide_eq_false hc1] at t1
  by_cases hc2 : lb = lf
  case pos =>
   have hc := hc2
   have HFIN : Hid (o = .inl i) := HERR.out (Or.inl (HMA.out.2 (Or.inr (Or.inr (Or.inl hc)))))
   rw [decide_eq_true hc2] at t2
   clear HERR HMA HGr HGo HST HLr hc hc2
   obtain ⟨z0, z1, z2, z3, z4, z5, z6, z7, z8⟩ := cells9 Fb
   obtain ⟨y0, y1, y2, y3, y4, y5, y6, y7, y8⟩ := frozen9 Fb
   obtain ⟨wz, hWwz, Z, kz⟩ := put0 Fb gb (by omega)
   obtain ⟨d0, d1, d2, d3, d4, d5, d6, d7, d8⟩ := cells9 Z
   go_wp2
   refine bodyPost_ret (v := .tuple #[.agg fn0, .int .i64 28, .int .i64 (i : Int)]) (by simp [results, Tryz.results6, go_sem, d0, d1, d2, d3, d4, d5, d6, d7, d8]) rfl ?_
   exact ⟨Or.inl ⟨i, HFIN.out, by first | rfl | simp⟩, kz⟩
  rw [decide_eq_false hc2] at t2
  by_cases hc3 : lb = rt
  case pos =>
   have hc := hc3
   have HFIN : Hid (o = .inl i) := HERR.out (Or.inl (HMA.out.2 (Or.inr (Or.inr (Or.inr (Or.inl hc))))))
   rw [decide_eq_true hc3] at t3
   clear HERR HMA HGr HGo HST HLr hc hc3
   obtain ⟨z0, z1, z2, z3, z4, z5, z6, z7, z8⟩ := cells9 Fb
   obtain ⟨y0, y1, y2, y3, y4, y5, y6, y7, y8⟩ := frozen9 Fb
   obtain ⟨wz, hWwz, Z, kz⟩ := put0 Fb gb (by omega)
   obtain ⟨d0, d1, d2, d3, d4, d5, d6, d7, d8⟩ := cells9 Z
   go_wp2
   refine bodyPost_ret (v := .tuple #[.agg fn0, .int .i64 28, .int .i64 (i : Int)]) (by simp [results, Tryz.results6, go_sem, d0, d1, d2, d3, d4, d5, d6, d7, d8]) rfl ?_
   exact ⟨Or.inl ⟨i, HFIN.out, by first | rfl | simp⟩, kz⟩
  rw [decide_eq_false hc3] at t3
  have kH1 := refHas_any lb HLob.out
  have kH2 := refHas_any lb HLab.out
  have HH1 : Hid (Calls Tryz.prog 22 _ wb _) := kH1
  have HH2 : Hid (Calls Tryz.prog 22 _ wb _) := kH2
  clear kH1 kH2
  by_cases hc4 : memT lb lo = true
  case pos =>
   have HFIN : Hid (o = .inl i) := HERR.out (Or.inl (HMA.out.2 (Or.inr (Or.inr (Or.inr (Or.inr (memT_iff.1 hc4)))))))
   clear HERR HMA HGr HGo HST HLr hc0 hc1 hc2 hc3
   go_wp2_with fail
   refine HH1.out.mono ?_
   rintro e wx ⟨rfl, hwx⟩
   obtain rfl := hwx
   rw [hc4]
   clear hc4
   obtain ⟨z0, z1, z2, z3, z4, z5, z6, z7, z8⟩ := cells9 Fb
   obtain ⟨y0, y1, y2, y3, y4, y5, y6, y7, y8⟩ := frozen9 Fb
   obtain ⟨wz, hWwz, Z, kz⟩ := put0 Fb gb (by omega)
   obtain ⟨d0, d1, d2, d3, d4, d5, d6, d7, d8⟩ := cells9 Z
   go_wp2
   refine bodyPost_ret (v := .tuple #[.agg fn0, .int .i64 28, .int .i64 (i : Int)]) (by simp [results, Tryz.results6, go_sem, d0, d1, d2, d3, d4, d5, d6, d7, d8]) rfl ?_
   exact ⟨Or.inl ⟨i, HFIN.out, by first | rfl | simp⟩, kz⟩
  by_cases hc5 : memT lb ls = true
  case pos =>
   have HFIN : Hid (o = .inl i) := HERR.out (Or.inr hc5)
   rw [Bool.not_eq_true] at hc4
   clear HERR HMA HGr HGo HST HLr hc0 hc1 hc2 hc3
   go_wp2_with fail
   refine HH1.out.mono ?_
   rintro e wx ⟨rfl, hwx⟩
   obtain rfl := hwx
   rw [hc4]
   clear hc4
   go_wp2_with fail
   refine HH2.out.mono ?_
   rintro e wx ⟨rfl, hwx⟩
   obtain rfl := hwx
   rw [hc5]
   clear hc5
   obtain ⟨z0, z1, z2, z3, z4, z5, z6, z7, z8⟩ := cells9 Fb
   obtain ⟨y0, y1, y2, y3, y4, y5, y6, y7, y8⟩ := frozen9 Fb
   obtain ⟨wz, hWwz, Z, kz⟩ := put0 Fb gb (by omega)
   obtain ⟨d0, d1, d2, d3, d4, d5, d6, d7, d8⟩ := cells9 Z
   go_wp2
   refine bodyPost_ret (v := .tuple #[.agg fn0, .int .i64 28, .int .i64 (i : Int)]) (by simp [results, Tryz.results6, go_sem, d0, d1, d2, d3, d4, d5, d6, d7, d8]) rfl ?_
   exact ⟨Or.inl ⟨i, HFIN.out, by first | rfl | simp⟩, kz⟩
  have HG2 : Hid (goF ne (ss.drop 1) 0 (Hd.mk nm rs lf rt lo).all [] [] = goF ne ((ss.drop 1).drop i) i (((Hd.mk nm rs lf rt lo).all ++ ls) ++ [lb]) (ls ++ [lb]) (ats ++ [(i : Int)])) := by
   unfold Hid
   rw [HGr.out, HST.out, if_neg (fun hm => by
    rcases memT_appS.1 hm with hm | hm
    · rcases HMA.out.1 (memT_iff.1 hm) with h | h | h | h | h
      · exact hc0 h
      · exact hc1 h
      · exact hc2 h
      · exact hc3 h
      · exact hc4 (memT_iff.2 h)
    · exact hc5 hm)]
  rw [Bool.not_eq_true] at hc4 hc5
  clear HERR HMA HGr HST hc0 hc1 hc2 hc3
  go_wp2_with fail
  refine HH1.out.mono ?_
  rintro e wx ⟨rfl, hwx⟩
  obtain rfl := hwx
  rw [hc4]
  go_wp2_with fail
  refine HH2.out.mono ?_
  rintro e wx ⟨rfl, hwx⟩
  obtain rfl := hwx
  rw [hc5]
  clear hc4 hc5 HH1 HH2 HLob HLab
  have hll : ls.length ≤ 256 ∧ ats.length ≤ 256 := by have := HLr.out; omega
  obtain ⟨hll1, hll2⟩ := hll
  have kq := below_alloc wb (.cells #[.string lb] 9)
  have hN := rdS_new1 wb lb
  have oLq : OwS w5.heap.size (wb.alloc (.cells #[.string lb] 9)) (.slice a2 ls.length c2) ls := oLb.alloc _
  have oAq : OwI w5.heap.size (wb.alloc (.cells #[.string lb] 9)) (.slice a3 ats.length c3) ats := oAb.alloc _
  have Nq := Nb.below kq Nb.lt
  have krq := krb.trans_below kq (by omega)
  have sq : wb.heap.size ≤ (wb.alloc (.cells #[.string lb] 9)).heap.size := kq.size
  go_wp2_with (at_builtin; refine append_strs rfl _ _ rfl rfl rfl (xs := ls) (ys := [lb]) oLq hN (by show (_ + 1) * 16 ≤ _; omega) (by simp; omega) ?_)
  intro v' wd hOd hgr
  obtain ⟨lz, hlz⟩ : ∃ lz, lz = ls ++ [lb] := ⟨_, rfl⟩
  rw [← hlz] at hOd HG2
  have HLZ : Hid (lz = ls ++ [lb]) := hlz
  have hlz2 : lz.length ≤ 257 := by rw [hlz, List.length_append, List.length_singleton]; omega
  clear hlz r0 r1 r2 r3 r4 r5 r6 r7 r8
  obtain ⟨a5, c5, rfl⟩ := row_form2S hOd
  have sd := hgr.size
  have Nd := Nq.grownF hgr (fun e => by have := (oLq.lt _ e).1; omega)
  have krd := krq.grown hgr (fun k hk => (oLq.lt k hk).1)
  have oAd : OwI w5.heap.size wd (.slice a3 ats.length c3) ats := oAq.kept hgr (own_types2 oAq oLq)
  have z5 := Nd.cell 5 rfl
  have y5 := Nd.frozen 5
  have Ne : BoxA (wd.setCell ⟨w1.heap.size, 5, none⟩ (.slice a5 lz.length c5)) w1.heap.size 25 #[.string nm, .string rs, .string lf, .string rt, .slice a1 lo.length c1, .slice a5 lz.length c5, .slice a3 ats.length c3, .slice a4 ss.length c4, .bool false] := boxA_put Nd 5 _
  have kre := krd.set1 (k := 5) (.slice a5 lz.length c5)
  have oLe : OwS w5.heap.size (wd.setCell ⟨w1.heap.size, 5, none⟩ (.slice a5 lz.length c5)) (.slice a5 lz.length c5) lz := own_set hOd (fun g hg => by have := (hOd.lt g hg).1; show g ≠ w1.heap.size; omega)
  have oAe : OwI w5.heap.size (wd.setCell ⟨w1.heap.size, 5, none⟩ (.slice a5 lz.length c5)) (.slice a3 ats.length c3) ats := own_set oAd (fun g hg => by have := (oAd.lt g hg).1; show g ≠ w1.heap.size; omega)
  have se : (wd.setCell ⟨w1.heap.size, 5, none⟩ (.slice a5 lz.length c5)).heap.size = wd.heap.size := by simp [World.setCell]
  generalize hWe : wd.setCell ⟨w1.heap.size, 5, none⟩ (.slice a5 lz.length c5) = we at *
  have se' : wb.heap.size ≤ we.heap.size := by omega
  have ki := below_alloc we (.cells #[.int .i64 i] 3)
  have Ib := boxA_new we #[.int .i64 i] 3
  rw [se] at Ib
  have Ni := Ne.below ki Ne.lt
  have kri := kre.trans_below ki (by omega)
  have oLi : OwS w5.heap.size (we.alloc (.cells #[.int .i64 i] 3)) (.slice a5 lz.length c5) lz := oLe.alloc _
  have oAi : OwI w5.heap.size (we.alloc (.cells #[.int .i64 i] 3)) (.slice a3 ats.length c3) ats := oAe.alloc _
  have z6 := Ne.cell 6 rfl
  clear krd krq Nq oLq oAq hN hgr Nd oAd hOd kq Nb Fb gb krb oLb oAb
  go_wp2_with (at_builtin; refine append_intsB rfl _ _ rfl rfl rfl (xs := ats) oAi Ib (by omega) (by simp; omega) ?_)
  clear hWe
  intro v' wf hOf hgr
  obtain ⟨az, haz⟩ : ∃ az, az = ats ++ [(i : Int)] := ⟨_, rfl⟩
  rw [← haz] at hOf HG2
  have HAZ : Hid (az = ats ++ [(i : Int)]) := haz
  clear haz z5 y5 z6
  obtain ⟨a6, c6, rfl⟩ := row_form2S hOf
  have sf := hgr.size
  have Nf := Ni.grownF hgr (fun e => by have := (oAi.lt _ e).1; omega)
  have krf := kri.grown hgr (fun k hk => (oAi.lt k hk).1)
  have oLf : OwS w5.heap.size wf (.slice a5 lz.length c5) lz := oLi.kept hgr (own_types1 oLi oAi)
  have z6 := Nf.cell 6 rfl
  have y6 := Nf.frozen 6
  have Ng : BoxA (wf.setCell ⟨w1.heap.size, 6, none⟩ (.slice a6 az.length c6)) w1.heap.size 25 #[.string nm, .string rs, .string lf, .string rt, .slice a1 lo.length c1, .slice a5 lz.length c5, .slice a6 az.length c6, .slice a4 ss.length c4, .bool false] := boxA_put Nf 6 _
  have krg := krf.set1 (k := 6) (.slice a6 az.length c6)
  have oLg : OwS w5.heap.size (wf.setCell ⟨w1.heap.size, 6, none⟩ (.slice a6 az.length c6)) (.slice a5 lz.length c5) lz := own_set oLf (fun g hg => by have := (oLf.lt g hg).1; show g ≠ w1.heap.size; omega)
  have oAg : OwI w5.heap.size (wf.setCell ⟨w1.heap.size, 6, none⟩ (.slice a6 az.length c6)) (.slice a6 az.length c6) az := own_set hOf (fun g hg => by have := (hOf.lt g hg).1; show g ≠ w1.heap.size; omega)
  have HG3 : Hid (goF ne (ss.drop 1) 0 (Hd.mk nm rs lf rt lo).all [] [] = goF ne ((ss.drop 1).drop i) i ((Hd.mk nm rs lf rt lo).all ++ lz) lz az) := by
   unfold Hid
   rw [HG2.out, HLZ.out, List.append_assoc]
  have HL2 : Hid (lz.length ≤ i + 1 ∧ az.length ≤ i + 1) := by
   have := HLr.out
   unfold Hid
   rw [HLZ.out, HAZ.out, List.length_append, List.length_append, List.length_singleton, List.length_singleton]
   omega
  clear HG2 HLZ HAZ HLr Nf krf oLf oAi oLi Ni kri Ib ki hOf hgr
  go_wp2
  go_roundw
  case rel => exact ⟨i + 1, i, lz, az, a5, a6, c5, c6, rfl, by go_num, by omega, Ng, oLg, oAg, krg, HG3, HL2⟩
  case measure => simp [intOf]; omega
end Go.Proofs.YtflkclphchafaaaGreatDoor
