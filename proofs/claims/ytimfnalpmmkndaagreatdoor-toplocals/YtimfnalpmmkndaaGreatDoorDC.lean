/- define.Header; isOfTokens. -/
import Derived.Test.YtimfnalpmmkndaaGreatDoorDB
import Derived.Test.YtimfnalpmmkndaaGreatDoorLA
import Derived.Test.YtimfnalpmmkndaaGreatDoorShelf
import Derived.Shelf.Strings.SlTrimAscii
namespace Go.Proofs.YtimfnalpmmkndaaGreatDoor
set_option linter.unusedVariables false
set_option linter.unusedSimpArgs false
open Go.RowKit Go.Shelf

theorem tokR_of {w : World} {base g c : Nat} {toks : List TokG} {T : List Tk} (hrow : w.ownsRow base 151 5 (.slice (some ⟨g, 0, none⟩) toks.length c) toks.length (toks.flatMap TokG.cells)) (hg : g < w.heap.size) (ht : toks.map TokG.core = T) (hE : EndT T) (hl : T.length ≤ 1025) : TokR w.heap.size w g T := by
 have hlen : T.length = toks.length := by rw [← ht, List.length_map]
 have hat : ∀ k (hk : k < toks.length), T.getD k (0, ⟨#[]⟩, 0, 0) = (toks[k]).core := fun k hk => by
  rw [← ht, List.getD_eq_getElem?_getD, List.getElem?_map, List.getElem?_eq_getElem hk]
  rfl
 refine ⟨hg, hE, hl, fun k hk => ?_, fun k hk => ?_⟩
 · have hk' : k < toks.length := by omega
   have := hrow.cellAt (5 * k + 0) (by omega)
   rw [show k * 5 = 5 * k + 0 by omega, this, flat_get hk' 0 (by omega)]
   unfold tkd
   rw [hat k hk']
   rfl
 · have hk' : k < toks.length := by omega
   have := hrow.cellAt (5 * k + 1) (by omega)
   rw [show k * 5 + 1 = 5 * k + 1 by omega, this, flat_get hk' 1 (by omega)]
   unfold ttx
   rw [hat k hk']
   rfl
def HeaderIs (w : World) (o : Option Hd) (s : ByteArray) (e : Ending) (w' : World) : Prop :=
 ((∃ h a c gl, o = some h ∧ e = .returned (.tuple #[.agg (fnV h.nm h.rs h.lf h.rt (.slice a h.ls.length c) (.slice none 0 0) (.slice none 0 0) (.slice (some ⟨gl, 0, none⟩) 1 1) false), .int .i64 0]) ∧ OwS w.heap.size w' (.slice a h.ls.length c) h.ls ∧ BoxA w' gl 9 #[.string s]) ∨
  (o = none ∧ e = .returned (.tuple #[.agg fn0, .int .i64 28]))) ∧ Below w.heap.size w w'
set_option maxRecDepth 100000 in
set_option maxHeartbeats 16000000 in
theorem header_any {w : World} {ne : ByteArray → Int} (hne : TellsErr ne) (s : ByteArray) (hs : s.size ≤ 9223372036854775807) :
    Calls Tryz.prog 51 #[.string s] w (HeaderIs w (headerF ne s) s) := by
 have HL : Hid ((allF ne s).1.length ≤ 1025) := allF_len ne s
 have k0 := below_alloc w (.cells fn0 36)
 have F0 := boxA_new w fn0 36
 generalize hW0 : w.alloc (.cells fn0 36) = w0 at *
 have s0 : w0.heap.size = w.heap.size + 1 := by rw [← hW0]; simp
 go_enter Tryz.func51, Tryz.ntmps51
 go_wp2_with fail
 clear hW0
 refine (all_any hne s hs).mono ?_
 rintro e w1 ⟨v1, base, toks, rfl, hrow, ht, k1⟩
 obtain ⟨av, cv, rfl⟩ := row_form2 hrow
 have s1 := k1.size
 have g1 : Below w.heap.size w w1 := k0.trans (k1.mono (by omega))
 have F1 := F0.below k1 (by omega)
 clear k0 F0 k1
 by_cases her : (allF ne s).2.1 = 0
 case neg =>
  have HN : Hid (headerF ne s = none) := by unfold Hid headerF; rw [if_neg her]
  have e1 : ((allF ne s).2.1 != 0) = true := by rw [bne_iff_ne]; exact her
  clear hrow ht her HL hne
  generalize (allF ne s).2.1 = er at *
  generalize (allF ne s).2.2 = at' at *
  obtain ⟨z0, z1, z2, z3, z4, z5, z6, z7, z8⟩ := cells9 F1
  obtain ⟨y0, y1, y2, y3, y4, y5, y6, y7, y8⟩ := frozen9 F1
  obtain ⟨wz, hWwz, Z, kz⟩ := put0 F1 g1 (by omega)
  obtain ⟨d0, d1, d2, d3, d4, d5, d6, d7, d8⟩ := cells9 Z
  go_wp2
  refine bodyPost_ret (v := .tuple #[.agg fn0, .int .i64 28]) (by simp [results, Tryz.results51, go_sem, d0, d1, d2, d3, d4, d5, d6, d7, d8]) rfl ?_
  exact ⟨Or.inr ⟨HN.out, rfl⟩, kz⟩
 have HN : Hid (headerF ne s = headF (allF ne s).1) := by unfold Hid headerF; rw [if_pos her]
 have hE := allF_end her
 rw [her]
 have hlT : (allF ne s).1.length = toks.length := by rw [← ht, List.length_map]
 have h0 : 0 < toks.length := by have := hE.pos; omega
 obtain ⟨g, rfl, hc1, hc2, hg⟩ := row_ptr hrow h0
 have hT := tokR_of hrow hg ht hE HL.out
 obtain ⟨T, hTT⟩ : ∃ T, T = (allF ne s).1 := ⟨_, rfl⟩
 rw [← hTT] at hT HN hlT
 have C2 := headed_any (w := w1) (c := cv) hT (Nat.le_refl _) (by omega) hc2
 rw [hlT] at C2
 have HC2 : Hid (Calls Tryz.prog 83 _ w1 _) := C2
 clear C2 hT hTT hE ht hrow HL hne her hlT
 generalize (allF ne s).2.2 = at' at *
 go_wp2_with fail
 refine HC2.out.mono ?_
 rintro e w2 ⟨hcase, k2⟩
 have s2 := k2.size
 have g2 : Below w.heap.size w w2 := g1.trans (k2.mono (by omega))
 have F2 := F1.below k2 (by omega)
 clear HC2 F1
 rcases hcase with ⟨h, a, c, hh, rfl, hO⟩ | ⟨hh, nm, rs, lf, rt, a, n, c, rfl⟩
 · have HH : Hid (headerF ne s = some h) := HN.out.trans hh
   have HO : Hid (OwS w1.heap.size w2 (.slice a h.ls.length c) h.ls) := hO
   have HOb : Hid (∀ k, (Value.slice a h.ls.length c).ownBlock = some k → k ≠ w2.heap.size) := fun k hk => by have := (hO.lt k hk).2; omega
   obtain ⟨nm, rs, lf, rt, ls⟩ := h
   simp only at HO HOb ⊢
   clear hh hO HN
   go_upto_region 5 with fail
   have k3 := below_alloc w2 (.cells (fnV nm rs lf rt (.slice a ls.length c) (.slice none 0 0) (.slice none 0 0) (.slice none 0 0) false) 36)
   have N3 := boxA_new w2 (fnV nm rs lf rt (.slice a ls.length c) (.slice none 0 0) (.slice none 0 0) (.slice none 0 0) false) 36
   have HO3 : Hid (OwS w1.heap.size (w2.alloc (.cells (fnV nm rs lf rt (.slice a ls.length c) (.slice none 0 0) (.slice none 0 0) (.slice none 0 0) false) 36)) (.slice a ls.length c) ls) := HO.out.alloc _
   have F3 := F2.below k3 F2.lt
   have g3 : Below w.heap.size w (w2.alloc (.cells (fnV nm rs lf rt (.slice a ls.length c) (.slice none 0 0) (.slice none 0 0) (.slice none 0 0) false) 36)) := g2.trans (k3.mono g2.size)
   have s3 : w2.heap.size < (w2.alloc (.cells (fnV nm rs lf rt (.slice a ls.length c) (.slice none 0 0) (.slice none 0 0) (.slice none 0 0) false) 36)).heap.size := by simp
   generalize hW3 : w2.alloc (.cells (fnV nm rs lf rt (.slice a ls.length c) (.slice none 0 0) (.slice none 0 0) (.slice none 0 0) false) 36) = w3 at *
   clear hW3 k3 F2 HO
   have k4 := below_alloc w3 (.cells #[.string s] 9)
   have S4 := boxA_new w3 #[.string s] 9
   have N4 := N3.below k4 s3
   have F4 := F3.below k4 (by omega)
   have g4 : Below w.heap.size w (w3.alloc (.cells #[.string s] 9)) := g3.trans (k4.mono g3.size)
   have HO4 : Hid (OwS w1.heap.size (w3.alloc (.cells #[.string s] 9)) (.slice a ls.length c) ls) := HO3.out.alloc _
   have HB4 : Hid (∀ k, (Value.slice a ls.length c).ownBlock = some k → k ≠ w2.heap.size) := HOb
   generalize hW4 : w3.alloc (.cells #[.string s] 9) = w4 at *
   have z7 := N4.cell 7 rfl
   have y7 := N4.frozen 7
   have N5 : BoxA (w4.setCell ⟨w2.heap.size, 7, none⟩ (.slice (some ⟨w3.heap.size, 0, none⟩) 1 1)) w2.heap.size 36 (fnV nm rs lf rt (.slice a ls.length c) (.slice none 0 0) (.slice none 0 0) (.slice (some ⟨w3.heap.size, 0, none⟩) 1 1) false) := boxA_put N4 7 _
   have F5 : BoxA (w4.setCell ⟨w2.heap.size, 7, none⟩ (.slice (some ⟨w3.heap.size, 0, none⟩) 1 1)) w.heap.size 36 fn0 := by
    have := F4
    unfold BoxA at this ⊢
    rw [← this]
    have hne : ¬ w2.heap.size = w.heap.size := by omega
    simp [World.setCell, Array.getElem?_modify, hne]
   have S5 : BoxA (w4.setCell ⟨w2.heap.size, 7, none⟩ (.slice (some ⟨w3.heap.size, 0, none⟩) 1 1)) w3.heap.size 9 #[.string s] := by
    have := S4
    unfold BoxA at this ⊢
    rw [← this]
    have hne : ¬ w2.heap.size = w3.heap.size := by omega
    simp [World.setCell, Array.getElem?_modify, hne]
   have g5 : Below w.heap.size w (w4.setCell ⟨w2.heap.size, 7, none⟩ (.slice (some ⟨w3.heap.size, 0, none⟩) 1 1)) := Below.setCell g4 (by show _ ≤ w2.heap.size; omega) _
   have HO5 : Hid (OwS w1.heap.size (w4.setCell ⟨w2.heap.size, 7, none⟩ (.slice (some ⟨w3.heap.size, 0, none⟩) 1 1)) (.slice a ls.length c) ls) := ownsRow_setCell_other HO4.out (a := ⟨w2.heap.size, 7, none⟩) (fun e => HB4.out _ e rfl) _
   generalize hW5 : w4.setCell ⟨w2.heap.size, 7, none⟩ (.slice (some ⟨w3.heap.size, 0, none⟩) 1 1) = w5 at *
   clear HO4 HO3 HB4
   obtain ⟨r0, r1, r2, r3, r4, r5, r6, r7, r8⟩ := cells9 N5
   obtain ⟨z0, z1, z2, z3, z4, z5, z6, z7, z8⟩ := cells9 F5
   obtain ⟨y0, y1, y2, y3, y4, y5, y6, y7, y8⟩ := frozen9 F5
   have Z := fn_set9 F5 (.string nm) (.string rs) (.string lf) (.string rt) (.slice a ls.length c) (.slice none 0 0) (.slice none 0 0) (.slice (some ⟨w3.heap.size, 0, none⟩) 1 1) (.bool false)
   have kz := below_set9 (R := w.heap.size) g5 (by omega) (.string nm) (.string rs) (.string lf) (.string rt) (.slice a ls.length c) (.slice none 0 0) (.slice none 0 0) (.slice (some ⟨w3.heap.size, 0, none⟩) 1 1) (.bool false)
   generalize hWwz : (((((((((w5.setCell ⟨w.heap.size, 0, none⟩ (.string nm)).setCell ⟨w.heap.size, 1, none⟩ (.string rs)).setCell ⟨w.heap.size, 2, none⟩ (.string lf)).setCell ⟨w.heap.size, 3, none⟩ (.string rt)).setCell ⟨w.heap.size, 4, none⟩ (.slice a ls.length c)).setCell ⟨w.heap.size, 5, none⟩ (.slice none 0 0)).setCell ⟨w.heap.size, 6, none⟩ (.slice none 0 0)).setCell ⟨w.heap.size, 7, none⟩ (.slice (some ⟨w3.heap.size, 0, none⟩) 1 1)).setCell ⟨w.heap.size, 8, none⟩ (.bool false)) = wz at *
   obtain ⟨d0, d1, d2, d3, d4, d5, d6, d7, d8⟩ := cells9 Z
   have S6 : BoxA wz w3.heap.size 9 #[.string s] := by
    rw [← hWwz]
    have := S5
    unfold BoxA at this ⊢
    rw [← this]
    exact other_set9 (by omega) _ _ _ _ _ _ _ _ _
   have HO6 : Hid (OwS w1.heap.size wz (.slice a ls.length c) ls) := by
    rw [← hWwz]
    exact owS_set9 HO5.out (by omega) _ _ _ _ _ _ _ _ _
   clear HO5
   go_wp2
   refine bodyPost_ret (v := .tuple #[.agg (fnV nm rs lf rt (.slice a ls.length c) (.slice none 0 0) (.slice none 0 0) (.slice (some ⟨w3.heap.size, 0, none⟩) 1 1) false), .int .i64 0]) (by simp [results, Tryz.results51, go_sem, d0, d1, d2, d3, d4, d5, d6, d7, d8]) rfl ?_
   exact ⟨Or.inl ⟨_, a, c, w3.heap.size, HH.out, rfl, row_monoS HO6.out (by omega), S6⟩, kz⟩
 · have HH : Hid (headerF ne s = none) := HN.out.trans hh
   clear hh HN
   go_upto_region 5 with fail
   have k3 := below_alloc w2 (.cells (fnV nm rs lf rt (.slice a n c) (.slice none 0 0) (.slice none 0 0) (.slice none 0 0) false) 36)
   have F3 := F2.below k3 F2.lt
   have g3 : Below w.heap.size w (w2.alloc (.cells (fnV nm rs lf rt (.slice a n c) (.slice none 0 0) (.slice none 0 0) (.slice none 0 0) false) 36)) := g2.trans (k3.mono g2.size)
   generalize hW3 : w2.alloc (.cells (fnV nm rs lf rt (.slice a n c) (.slice none 0 0) (.slice none 0 0) (.slice none 0 0) false) 36) = w3 at *
   clear hW3 k3 F2
   obtain ⟨z0, z1, z2, z3, z4, z5, z6, z7, z8⟩ := cells9 F3
   obtain ⟨y0, y1, y2, y3, y4, y5, y6, y7, y8⟩ := frozen9 F3
   obtain ⟨wz, hWwz, Z, kz⟩ := put0 F3 g3 (by omega)
   obtain ⟨d0, d1, d2, d3, d4, d5, d6, d7, d8⟩ := cells9 Z
   go_wp2
   refine bodyPost_ret (v := .tuple #[.agg fn0, .int .i64 28]) (by simp [results, Tryz.results51, go_sem, d0, d1, d2, d3, d4, d5, d6, d7, d8]) rfl ?_
   exact ⟨Or.inr ⟨HH.out, rfl⟩, kz⟩
end Go.Proofs.YtimfnalpmmkndaaGreatDoor

/- define.labelled, isOfTokens. -/
namespace Go.Proofs.YtimfnalpmmkndaaGreatDoor
set_option linter.unusedVariables false
set_option linter.unusedSimpArgs false
open Go.RowKit Go.Shelf

def trimW (s : ByteArray) : ByteArray := ⟨(Lib.trimS s.data.toList [32, 9]).toArray⟩
def colEnd (s : ByteArray) : Nat := (Lib.indexByte s.data.toList 58 + 1).toNat
theorem indexByte_in (c : UInt8) : ∀ l : List UInt8, -1 ≤ Lib.indexByte l c ∧ Lib.indexByte l c < l.length
 | [] => by simp [Lib.indexByte]
 | b :: l => by
  have ih := indexByte_in c l
  rw [Lib.indexByte]
  by_cases h : (b == c) = true
  · rw [if_pos h, List.length_cons]; omega
  · rw [if_neg h, List.length_cons]
    by_cases h2 : (Lib.indexByte l c == -1) = true
    · rw [if_pos h2]; omega
    · rw [if_neg h2]; omega
theorem colEnd_is (s : ByteArray) : Lib.indexByte s.data.toList 58 + 1 = (colEnd s : Int) ∧ colEnd s ≤ s.size := by
 have h := indexByte_in 58 s.data.toList
 have hl : s.data.toList.length = s.size := by rw [Array.length_toList]; rfl
 unfold colEnd
 omega
theorem allF_some {ne : ByteArray → Int} {s : ByteArray} (h : 0 < (allF ne s).1.length) : (allF ne s).2.1 = 0 := by
 unfold allF at h ⊢
 by_cases h1 : 1024 < s.size
 · rw [if_pos h1] at h; simp at h
 · rw [if_neg h1] at h ⊢
   by_cases h2 : ¬ (scanR s s.size 0 []).2.1 = 0
   · rw [if_pos h2] at h; simp at h
   · rw [if_neg h2] at h ⊢
     by_cases h3 : (lastEr (items ne (scanR s s.size 0 []).1)).1 = 0
     · rw [if_pos h3]
     · rw [if_neg h3] at h; simp at h
def labF (ne : ByteArray → Int) (s : ByteArray) : ByteArray × ByteArray :=
 if (allF ne (s.extract 0 (colEnd s))).1.length = 3 ∧ tkd (allF ne (s.extract 0 (colEnd s))).1 0 = 3 ∧ ttx (allF ne (s.extract 0 (colEnd s))).1 1 = colT then (ttx (allF ne (s.extract 0 (colEnd s))).1 0, trimW (s.extract (colEnd s) s.size)) else (noT, trimW s)
theorem trim_any (s : ByteArray) (w : World) (hs : s.size ≤ 9223372036854775807) : Calls Tryz.prog 85 #[.string s, .string ⟨#[32, 9]⟩] w fun e w' => e = .returned (.string (trimW s)) ∧ Below w.heap.size w w' :=
 Any.strings_Trim_laid Tryz.lays160 (by kernel_rfl) s ⟨#[32, 9]⟩ w hs (by decide) (ascii_of_all (by decide))
set_option maxRecDepth 100000 in
set_option maxHeartbeats 16000000 in
theorem isOfTokens_any {w : World} {ne : ByteArray → Int} (hne : TellsErr ne) (s : ByteArray) (hs : s.size ≤ 9223372036854775807) :
    Calls Tryz.prog 55 #[.string s] w fun e w' => e = .returned (.bool (decide ((allF ne s).2.1 = 0))) ∧ Below w.heap.size w w' := by
 obtain ⟨b, hb⟩ : ∃ b, b = decide ((allF ne s).2.1 = 0) := ⟨_, rfl⟩
 have e1 : ((allF ne s).2.1 == 0) = b := by rw [hb]; by_cases h : (allF ne s).2.1 = 0 <;> simp [h]
 rw [← hb]
 clear hb
 go_enter Tryz.func55, Tryz.ntmps55
 go_wp2_with fail
 refine (all_any hne s hs).mono ?_
 rintro e w1 ⟨v1, base, toks, rfl, hrow, ht, k1⟩
 clear hrow ht
 generalize (allF ne s).2.2 = at' at *
 generalize (allF ne s).2.1 = er at *
 go_wp2
 go_ret
 exact ⟨rfl, k1⟩
set_option maxRecDepth 100000 in
set_option maxHeartbeats 16000000 in
theorem labelled_any {w : World} {ne : ByteArray → Int} (hne : TellsErr ne) (s : ByteArray) (hs : s.size ≤ 9223372036854775807) :
    Calls Tryz.prog 54 #[.string s] w fun e w' => e = .returned (.tuple #[.string (labF ne s).1, .string (labF ne s).2]) ∧ Below w.heap.size w w' := by
 obtain ⟨hce, hcl⟩ := colEnd_is s
 have HLF : Hid (labF ne s = if (allF ne (s.extract 0 (colEnd s))).1.length = 3 ∧ tkd (allF ne (s.extract 0 (colEnd s))).1 0 = 3 ∧ ttx (allF ne (s.extract 0 (colEnd s))).1 1 = colT then (ttx (allF ne (s.extract 0 (colEnd s))).1 0, trimW (s.extract (colEnd s) s.size)) else (noT, trimW s)) := rfl
 obtain ⟨L, hL⟩ : ∃ L, L = labF ne s := ⟨_, rfl⟩
 rw [← hL] at HLF ⊢
 clear hL
 generalize colEnd s = ce at *
 go_enter Tryz.func54, Tryz.ntmps54
 go_wp2_with fail
 refine (Tryz.strings_IndexByte s 58 w).mono ?_
 rintro e w1 ⟨rfl, hw⟩
 obtain rfl := hw.symm
 have hce2 : Lib.indexByte s.data.toList (Int.toNat 58).toUInt8 + 1 = (ce : Int) := hce
 generalize Lib.indexByte s.data.toList (Int.toNat 58).toUInt8 = ib at *
 clear hce
 have hcs : (s.extract 0 ce).size ≤ 9223372036854775807 := by rw [ByteArray.size_extract]; omega
 have hds : (s.extract ce s.size).size ≤ 9223372036854775807 := by rw [ByteArray.size_extract]; omega
 have hcl2 : (ce : Int) ≤ (s.size : Int) := by omega
 go_wp2_with fail
 refine (all_any hne _ hcs).mono ?_
 rintro e w1 ⟨v1, base, toks, rfl, hrow, ht, k1⟩
 obtain ⟨av, cv, rfl⟩ := row_form2 hrow
 have s1 := k1.size
 have hlT : (allF ne (s.extract 0 ce)).1.length = toks.length := by rw [← ht, List.length_map]
 have HTl : Hid (toks.length ≤ 1025) := by have := allF_len ne (s.extract 0 ce); unfold Hid; omega
 have HTR : Hid (toks.length = 3 → ∃ g, av = some ⟨g, 0, none⟩ ∧ 3 ≤ cv ∧ cv ≤ 9223372036854775807 ∧ TokR w1.heap.size w1 g (allF ne (s.extract 0 ce)).1 ∧ (allF ne (s.extract 0 ce)).1.length = 3) := by
  intro h3
  have h0 : (allF ne (s.extract 0 ce)).2.1 = 0 := allF_some (by omega)
  obtain ⟨g, rfl, hc1, hc2, hg⟩ := row_ptr hrow (by omega)
  exact ⟨g, rfl, by omega, hc2, tokR_of hrow hg ht (allF_end h0) (by have := allF_len ne (s.extract 0 ce); omega), by omega⟩
 rw [hlT] at HLF
 clear hrow ht hlT
 generalize (allF ne (s.extract 0 ce)).2.1 = er at *
 generalize (allF ne (s.extract 0 ce)).2.2 = at' at *
 generalize (allF ne (s.extract 0 ce)).1 = T at *
 by_cases h3 : toks.length = 3
 case neg =>
  have HL2 : Hid (L = (noT, trimW s)) := by unfold Hid; rw [HLF.out, if_neg (fun h => h3 h.1)]
  have m3 : ((toks.length : Int) == 3) = false := by rw [beq_eq_false_iff_ne]; omega
  clear HLF h3 HTR
  go_wp2_with fail
  refine (trim_any s w1 hs).mono ?_
  rintro e w2 ⟨rfl, k2⟩
  have g2 : Below w.heap.size w w2 := k1.trans (k2.mono s1)
  go_wp2
  go_ret2
  exact ⟨(by rw [HL2.out]; rfl), g2⟩
 obtain ⟨g, rfl, hc1, hc2, hT, hl3⟩ := HTR.out h3
 have q0 := hT.kd 0 (by omega)
 have q1 := hT.tx 0 (by omega)
 have q2 := hT.tx 1 (by omega)
 have hgl := hT.lt
 have m3 : ((toks.length : Int) == 3) = true := by rw [beq_iff_eq]; omega
 have i1 : (1 : Int) < (toks.length : Int) := by omega
 have i2 : (0 : Int) < (toks.length : Int) := by omega
 have hcv : toks.length ≤ cv := by omega
 have n0 : 0 < toks.length := by omega
 obtain ⟨b1, p1⟩ := tx_isD (ttx T 1) colT [58] rfl
 by_cases h4 : tkd T 0 = 3
 case neg =>
  have HL2 : Hid (L = (noT, trimW s)) := by unfold Hid; rw [HLF.out, if_neg (fun h => h4 h.2.1)]
  have e3 : (tkd T 0 == 3) = false := by rw [beq_eq_false_iff_ne]; exact h4
  generalize tkd T 0 = x at *
  clear HLF h3 HTR hT hl3 q1 q2 b1 p1 h4
  go_wp2_with fail
  refine (trim_any s w1 hs).mono ?_
  rintro e w2 ⟨rfl, k2⟩
  have g2 : Below w.heap.size w w2 := k1.trans (k2.mono s1)
  go_wp2
  go_ret2
  exact ⟨(by rw [HL2.out]; rfl), g2⟩
 rw [h4] at q0
 by_cases h5 : ttx T 1 = colT
 case neg =>
  have HL2 : Hid (L = (noT, trimW s)) := by unfold Hid; rw [HLF.out, if_neg (fun h => h5 h.2.2)]
  have p2 : ¬ (ttx T 1).toList = [58] := fun h => h5 (p1.1 h)
  rw [decide_eq_false h5] at b1
  generalize ttx T 1 = x at *
  clear HLF h3 HTR hT hl3 q1 p1 h4 h5
  go_wp2_with fail
  refine (trim_any s w1 hs).mono ?_
  rintro e w2 ⟨rfl, k2⟩
  have g2 : Below w.heap.size w w2 := k1.trans (k2.mono s1)
  go_wp2
  go_ret2
  exact ⟨(by rw [HL2.out]; rfl), g2⟩
 have HL2 : Hid (L = (ttx T 0, trimW (s.extract ce s.size))) := by unfold Hid; rw [HLF.out, if_pos ⟨h3, h4, h5⟩]
 have p2 : (ttx T 1).toList = [58] := p1.2 h5
 rw [decide_eq_true h5] at b1
 generalize ttx T 1 = x at *
 generalize ttx T 0 = y at *
 clear HLF h3 HTR hT hl3 p1 h4 h5
 go_wp2_with fail
 go_region_held3 (fun w' => w'.cell? ⟨g, 1, none⟩ = some (.string y)) (first | (go_keep; done) | exact tw)
  (first | (go_at_call 85; refine (trim_any _ _ hds).mono ?_; rintro e w2 ⟨rfl, k2⟩; have g2 : Below w1.heap.size w1 w2 := below_undrew k2; have tw : w2.cell? ⟨g, 1, none⟩ = some (.string y) := (g2.cell (p := ⟨g, 1, none⟩) hgl).trans q1))
 all_goals
  have g3 : Below w.heap.size w w2 := k1.trans (g2.mono s1)
  go_wp2
  go_ret2
  exact ⟨(by rw [HL2.out]; rfl), g3⟩
end Go.Proofs.YtimfnalpmmkndaaGreatDoor

/- What define.Make tells: the mathematics. -/
namespace Go.Proofs.YtimfnalpmmkndaaGreatDoor
set_option linter.unusedVariables false
set_option linter.unusedSimpArgs false
open Go.RowKit

def goF (ne : ByteArray → Int) : List ByteArray → Nat → List ByteArray → List ByteArray → List Int → Sum Nat (List ByteArray × List Int)
 | [], _, _, ls, ats => .inr (ls, ats)
 | x :: r, i, ks, ls, ats =>
  if ¬ (allF ne x).2.1 = 0 then .inl (i + 1)
  else if (labF ne x).1 = noT then goF ne r (i + 1) ks ls ats
  else if memT (labF ne x).1 ks = true then .inl (i + 1)
  else goF ne r (i + 1) (ks ++ [(labF ne x).1]) (ls ++ [(labF ne x).1]) (ats ++ [((i : Int) + 1)])
def makeF (ne : ByteArray → Int) : List ByteArray → Sum Nat (Hd × List ByteArray × List Int)
 | [] => .inl 0
 | s :: r => if 255 < r.length then .inl 0 else match headerF ne s with
  | none => .inl 0
  | some h => match goF ne r 0 (takeF [] h.all).2 [] [] with
   | .inl n => .inl n
   | .inr (ls, ats) => .inr (h, ls, ats)
theorem goF_step {ne : ByteArray → Int} {rs : List ByteArray} {i : Nat} {ks ls : List ByteArray} {ats : List Int} (hi : i < rs.length) : goF ne (rs.drop i) i ks ls ats =
    if ¬ (allF ne (rs.getD i noT)).2.1 = 0 then .inl (i + 1)
    else if (labF ne (rs.getD i noT)).1 = noT then goF ne (rs.drop (i + 1)) (i + 1) ks ls ats
    else if memT (labF ne (rs.getD i noT)).1 ks = true then .inl (i + 1)
    else goF ne (rs.drop (i + 1)) (i + 1) (ks ++ [(labF ne (rs.getD i noT)).1]) (ls ++ [(labF ne (rs.getD i noT)).1]) (ats ++ [((i : Int) + 1)]) := by
 rw [List.drop_eq_getElem_cons hi, goF, List.getD_eq_getElem?_getD, List.getElem?_eq_getElem hi]
 rfl
end Go.Proofs.YtimfnalpmmkndaaGreatDoor
