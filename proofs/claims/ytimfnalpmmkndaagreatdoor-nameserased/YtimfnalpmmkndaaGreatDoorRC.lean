/- The document's tokens: what glyphref04.All tells, as a row. -/
import Derived.Test.YtimfnalpmmkndaaGreatDoorRT
import Derived.Test.YtimfnalpmmkndaaGreatDoorHX
import Derived.Test.YtimfnalpmmkndaaGreatDoorRB
import Derived.Test.YtimfnalpmmkndaaGreatDoorNF
namespace Go.Proofs.YtimfnalpmmkndaaGreatDoor
set_option linter.unusedVariables false
set_option linter.unusedSimpArgs false
open Go.RowKit Go.Shelf

theorem refItemsF_no (ne : ByteArray → Int) (cs : List Int) : ∀ f i, ∀ x ∈ refItemsF ne cs f i, x.1 = 0 → x.2.1 = ⟨#[]⟩
 | 0, i, x, hx, _ => by rw [refItemsF] at hx; cases hx
 | f + 1, i, x, hx, h0 => by
  rw [refItemsF] at hx
  by_cases h1 : i < cs.length ∧ ¬ cs.getD i 0 = 9053
  · rw [if_pos h1] at hx
    by_cases hb : bl (cs.getD i 0) = true
    · rw [if_pos hb] at hx
      exact refItemsF_no ne cs f _ x hx h0
    rw [if_neg hb] at hx
    by_cases h2 : (nextF ne cs i).2.2 = 0
    · rw [if_pos h2] at hx
      rcases List.mem_cons.1 hx with rfl | hx
      · exact absurd h0 (kind_no ne cs i h2)
      · exact refItemsF_no ne cs f _ x hx h0
    · rw [if_neg h2] at hx
      rw [List.mem_singleton.1 hx]
  · rw [if_neg h1] at hx
    rw [List.mem_singleton.1 hx]
theorem noEnd_full {x : Tk} (h : ¬ (noEnd x).1 = 0) : noEnd x = x := by
 unfold noEnd at h ⊢
 by_cases hc : x.1 = 0 ∧ x.2.2.2 = 0
 · rw [if_pos hc] at h; exact absurd rfl h
 · rw [if_neg hc]
theorem noEnd_ink {x : Tk} (h : ¬ x.1 = 0) : noEnd x = x := by
 unfold noEnd
 rw [if_neg (fun hc => h hc.1)]
theorem ref_row {ne : ByteArray → Int} {s : ByteArray} (h : (allF ne s).2.1 = 0) : RowT (allF ne s).1 ∧ (∀ x ∈ (allF ne s).1, ¬ x.1 = 0 → ¬ x.2.1 = noT) ∧ ∃ l p p', (allF ne s).1 = l ++ [(0, ⟨#[]⟩, p, 0)] ∧ (refAllF ne s).1 = l ++ [(0, ⟨#[]⟩, p', 0)] := by
 obtain ⟨h1, h2, h3, h4⟩ := allF_ok h
 have hr : (refAllF ne s).2.1 = 0 := by rw [← (allF_ref ne s).2]; exact h
 obtain ⟨r1, r2, r3, r4⟩ := refAllF_ok hr
 have hm := (allF_ref ne s).1
 have hok : ∀ c ∈ (scanR s s.size 0 []).1, okRune c := scanR_ok s _ 0 [] (fun c hc => by cases hc)
 rw [h3, r3] at hm ⊢
 have hp := passTo_le (cs := (scanR s s.size 0 []).1) (Nat.zero_le _)
 have hE := itemsF_er ne _ _ _ h4
 have hRow : RowT (items ne (scanR s s.size 0 []).1) := rowT_of hok _ _ hp.2 (by omega) hE
 have hFul : ∀ x ∈ items ne (scanR s s.size 0 []).1, ¬ x.1 = 0 → ¬ x.2.1 = noT := fun x hx hk => toks_full hok _ _ hp.2 x hx (hE x hx) hk
 have hRE : ∀ x ∈ refItems ne (scanR s s.size 0 []).1, x.2.2.2 = 0 := refItemsF_er ne _ _ _ r4
 have hRN : ∀ x ∈ refItems ne (scanR s s.size 0 []).1, x.1 = 0 → x.2.1 = ⟨#[]⟩ := refItemsF_no ne _ _ _
 refine ⟨hRow, hFul, ?_⟩
 obtain ⟨l, p, e, hl⟩ := hRow.ends
 rw [e] at hm ⊢
 generalize refItems ne (scanR s s.size 0 []).1 = B at *
 rw [List.map_append, List.map_singleton] at hm
 have hl2 : l.map noEnd = l := by
  have e : l.map noEnd = l.map id := List.map_congr_left (fun x hx => noEnd_ink (hl x hx))
  rw [e, List.map_id]
 rw [hl2] at hm
 have hne : B ≠ [] := fun e => by rw [e] at hm; simp at hm
 obtain ⟨B0, b, rfl⟩ : ∃ B0 b, B = B0 ++ [b] := ⟨B.dropLast, B.getLast hne, (List.dropLast_concat_getLast hne).symm⟩
 rw [List.map_append, List.map_singleton] at hm
 obtain ⟨m1, m2⟩ := List.append_inj' hm rfl
 have hB0 : B0 = l := by
  rw [m1]
  have : ∀ x ∈ B0, noEnd x = x := fun x hx => noEnd_full (hl _ (by rw [m1]; exact List.mem_map.2 ⟨x, hx, rfl⟩))
  have e : B0.map noEnd = B0.map id := List.map_congr_left this
  rw [e, List.map_id]
 have hb0 : b.1 = 0 := by
  have : noEnd b = noEnd (0, ⟨#[]⟩, p, 0) := by simpa using m2.symm
  rcases Classical.em (b.1 = 0) with h' | h'
  · exact h'
  · rw [noEnd_ink h'] at this
    rw [this]
    rfl
 have hbe := hRE b (by simp)
 have hbt := hRN b (by simp) hb0
 refine ⟨l, p, b.2.2.1, rfl, ?_⟩
 rw [hB0]
 congr 2
 obtain ⟨b1, b2, b3, b4⟩ := b
 simp only at hb0 hbe hbt ⊢
 rw [hb0, hbe, hbt]
theorem kd_end (l : List Tk) (p p' : Nat) : tkd (l ++ [(0, ⟨#[]⟩, p, 0)]) = tkd (l ++ [(0, ⟨#[]⟩, p', 0)]) := by
 funext k
 unfold tkd
 rcases Nat.lt_trichotomy k l.length with h | h | h
 · simp only [List.getD_eq_getElem?_getD, List.getElem?_append_left h]
 · subst h
   simp [List.getD_eq_getElem?_getD]
 · simp only [List.getD_eq_getElem?_getD]
   rw [List.getElem?_eq_none (by simp; omega), List.getElem?_eq_none (by simp; omega)]
theorem tx_end (l : List Tk) (p p' : Nat) : ttx (l ++ [(0, ⟨#[]⟩, p, 0)]) = ttx (l ++ [(0, ⟨#[]⟩, p', 0)]) := by
 funext k
 unfold ttx
 rcases Nat.lt_trichotomy k l.length with h | h | h
 · simp only [List.getD_eq_getElem?_getD, List.getElem?_append_left h]
 · subst h
   simp [List.getD_eq_getElem?_getD]
 · simp only [List.getD_eq_getElem?_getD]
   rw [List.getElem?_eq_none (by simp; omega), List.getElem?_eq_none (by simp; omega)]
theorem namF_same {T T' : List Tk} (h1 : tkd T = tkd T') (h2 : ttx T = ttx T') : ∀ f k, namF T f k = namF T' f k
 | 0, _ => rfl
 | f + 1, k => by rw [namF, namF, h1, h2, namF_same h1 h2 f]
theorem locF_same {T T' : List Tk} (h1 : tkd T = tkd T') (h2 : ttx T = ttx T') : ∀ f k, locF T f k = locF T' f k
 | 0, _ => rfl
 | f + 1, k => by rw [locF, locF, h1, h2, locF_same h1 h2 f]
theorem headF_same {T T' : List Tk} (h1 : tkd T = tkd T') (h2 : ttx T = ttx T') (h3 : T.length = T'.length) : headF T = headF T' := by
 have e1 : resK T = resK T' := by unfold resK; rw [h1, h2]
 have e2 : resT T = resT T' := by unfold resT; rw [h1, h2]
 have e3 : namesOfF T = namesOfF T' := by unfold namesOfF; rw [h3, e1, namF_same h1 h2]
 have e4 : localsOfF T = localsOfF T' := by unfold localsOfF; rw [h3, e1, e3, locF_same h1 h2]
 have e5 : endK T = endK T' := by unfold endK; rw [e1, e3, e4]
 unfold headF
 rw [e2, e3, e4, e5, h1]
theorem dlabF_same {T T' : List Tk} (h1 : tkd T = tkd T') (h2 : ttx T = ttx T') (h3 : T.length = T'.length) : dlabF T = dlabF T' := by
 unfold dlabF
 rw [h1, h2, h3]
theorem rowT_end {l : List Tk} {p p' : Nat} (h : RowT (l ++ [(0, ⟨#[]⟩, p, 0)])) : RowT (l ++ [(0, ⟨#[]⟩, p', 0)]) := by
 obtain ⟨⟨l2, p2, e, hl⟩, ha, hs⟩ := h
 obtain ⟨rfl, _⟩ := List.append_inj' e rfl
 refine ⟨⟨l, p', rfl, hl⟩, fun x hx hxa => ?_, fun x hx hxa => ?_⟩
 · rcases List.mem_append.1 hx with hx | hx
   · exact ha x (by simp [hx]) hxa
   · rw [List.mem_singleton.1 hx] at hxa
     exact absurd hxa (show ¬ ((⟨#[]⟩ : ByteArray) = _) by decide)
 · rcases List.mem_append.1 hx with hx | hx
   · exact hs x (by simp [hx]) hxa
   · rw [List.mem_singleton.1 hx] at hxa
     exact absurd hxa (show ¬ ((⟨#[]⟩ : ByteArray) = _) by decide)
theorem ref_facts {ne : ByteArray → Int} {s : ByteArray} (h : (allF ne s).2.1 = 0) : RowT (refAllF ne s).1 ∧ (∀ x ∈ (refAllF ne s).1, ¬ x.1 = 0 → ¬ x.2.1 = noT) ∧ headF (refAllF ne s).1 = headF (allF ne s).1 ∧ dlabF (refAllF ne s).1 = dlabF (allF ne s).1 := by
 obtain ⟨h1, h2, l, p, p', e1, e2⟩ := ref_row h
 rw [e1] at h1 h2 ⊢
 rw [e2]
 refine ⟨rowT_end h1, fun x hx hk => ?_, headF_same (kd_end l p' p) (tx_end l p' p) (by simp), dlabF_same (kd_end l p' p) (tx_end l p' p) (by simp)⟩
 rcases List.mem_append.1 hx with hx | hx
 · exact h2 x (by simp [hx]) hk
 · rw [List.mem_singleton.1 hx] at hk
   exact absurd rfl hk
theorem ref_few (ne : ByteArray → Int) (s : ByteArray) : (refAllF ne s).1.length ≤ 1025 := by
 have h := congrArg List.length (allF_ref ne s).1
 rw [List.length_map, List.length_map] at h
 rw [← h]
 exact allF_len ne s
theorem tokRR_of {w : World} {base g c : Nat} {toks : List TokG} {T : List Tk} (hrow : w.ownsRow base 71 5 (.slice (some ⟨g, 0, none⟩) toks.length c) toks.length (toks.flatMap TokG.cellsR)) (hg : g < w.heap.size) (ht : toks.map TokG.core = T) (hR : RowT T) (hF : ∀ x ∈ T, ¬ x.1 = 0 → ¬ x.2.1 = noT) (hl : T.length ≤ 1025) : TokRR w.heap.size w g T := by
 have hlen : T.length = toks.length := by rw [← ht, List.length_map]
 have hat : ∀ k (hk : k < toks.length), T.getD k (0, ⟨#[]⟩, 0, 0) = (toks[k]).core := fun k hk => by
  rw [← ht, List.getD_eq_getElem?_getD, List.getElem?_map, List.getElem?_eq_getElem hk]
  rfl
 refine ⟨hg, hR, hF, hl, fun k hk => ?_, fun k hk => ?_, fun k hk => ?_⟩
 · have hk' : k < toks.length := by omega
   have := hrow.cellAt (5 * k + 0) (by omega)
   rw [show k * 5 = 5 * k + 0 by omega, this, flat_getR hk' 0 (by omega)]
   unfold tkd
   rw [hat k hk']
   rfl
 · have hk' : k < toks.length := by omega
   have := hrow.cellAt (5 * k + 1) (by omega)
   rw [show k * 5 + 1 = 5 * k + 1 by omega, this, flat_getR hk' 1 (by omega)]
   unfold ttx
   rw [hat k hk']
   rfl
 · have hk' : k < toks.length := by omega
   have := hrow.cellAt (5 * k + 2) (by omega)
   rw [show k * 5 + 2 = 5 * k + 2 by omega, this, flat_getR hk' 2 (by omega)]
   unfold tpl
   rw [hat k hk']
   rfl
theorem refToks_any {w : World} {ne : ByteArray → Int} (hne : TellsErr ne) (s : ByteArray) (hs : s.size ≤ 9223372036854775807) (hT : Lib.Utf8Tabs 0 1 w) :
    Calls Tryz.prog 32 #[.string s] w (ToksIs w (allF ne s).2.1 (refAllF ne s).1) := by
 refine (refAll_any hne s hs hT).mono ?_
 rintro e w' ⟨v, toks, rfl, hrow, ht, hb⟩
 have e2 := (allF_ref ne s).2
 refine ⟨?_, hb⟩
 by_cases h0 : (allF ne s).2.1 = 0
 · left
   obtain ⟨f1, f2, _, _⟩ := ref_facts h0
   have hpos := f1.endT.pos
   have hlen : (refAllF ne s).1.length = toks.length := by rw [← ht, List.length_map]
   obtain ⟨av, cv, rfl⟩ := row_form2 hrow
   obtain ⟨g, rfl, hc1, hc2, hg⟩ := row_ptr hrow (by omega)
   have hat : (refAllF ne s).2.2 = 0 := by
    have hr : (refAllF ne s).2.1 = 0 := by rw [← e2]; exact h0
    unfold refAllF at hr ⊢
    by_cases a1 : 1024 < s.size
    · rw [if_pos a1]
    · rw [if_neg a1] at hr ⊢
      by_cases a2 : ¬ (scanR s s.size 0 []).2.1 = 0
      · rw [if_pos a2] at hr; exact absurd hr a2
      · rw [if_neg a2] at hr ⊢
        by_cases a3 : (lastEr (refItems ne (scanR s s.size 0 []).1)).1 = 0
        · rw [if_pos a3]
        · rw [if_neg a3] at hr; exact absurd hr a3
   have hgb : w.heap.size ≤ g := by
    obtain ⟨_, ⟨hv, _⟩ | ⟨g', cap, cur, hv, hg', _⟩⟩ := hrow
    · cases hv
    · cases hv; exact hg'
   refine ⟨h0, g, _, ?_, by rw [hlen]; exact hc1, hc2, hgb, tokRR_of hrow hg ht f1 f2 (ref_few ne s)⟩
   rw [hat, ← e2, h0, hlen]
   rfl
 · right
   refine ⟨h0, v, (((refAllF ne s).2.2 : Nat) : Int), ?_⟩
   rw [← e2]
end Go.Proofs.YtimfnalpmmkndaaGreatDoor

/- The document's IsName tells the same as names.IsName. -/
namespace Go.Proofs.YtimfnalpmmkndaaGreatDoor
set_option linter.unusedVariables false
set_option linter.unusedSimpArgs false
open Go.RowKit

attribute [local go_sem] Oper.semAt_some

theorem dname_ref {ne : ByteArray → Int} {s : ByteArray} (h : (allF ne s).2.1 = 0) : dnameF (refAllF ne s).1 s ↔ dnameF (allF ne s).1 s := by
 obtain ⟨_, _, l, p, p', h1, h2⟩ := ref_row h
 unfold dnameF
 rw [h1, h2, kd_end l p p', tx_end l p p']
 simp
theorem nmGo_ref (ne : ByteArray → Int) (s : ByteArray) : nmGo s s.size 0 0 = true ↔ (allF ne s).2.1 = 0 ∧ dnameF (refAllF ne s).1 s := by
 rw [name_doc ne s]
 constructor
 · rintro ⟨h1, h2⟩; exact ⟨h1, (dname_ref h1).2 h2⟩
 · rintro ⟨h1, h2⟩; exact ⟨h1, (dname_ref h1).1 h2⟩
set_option maxRecDepth 100000 in
set_option maxHeartbeats 6400000 in
theorem refIsName_any {w : World} {ne : ByteArray → Int} (hne : TellsErr ne) (s : ByteArray) (hs : s.size ≤ 9223372036854775807) (hT : Lib.Utf8Tabs 0 1 w) :
    Calls Tryz.prog 10 #[.string s] w fun e w' => e = .returned (.bool (nameF s)) ∧ Below w.heap.size w w' := by
 obtain ⟨b1, p1⟩ := tx_isD s alT [226, 141, 186] rfl
 obtain ⟨b2, p2⟩ := tx_isD s omT [226, 141, 181] rfl
 obtain ⟨N, hN⟩ : ∃ N, N = nameF s := ⟨_, rfl⟩
 rw [← hN]
 by_cases h1 : s = alT
 · have HV : Hid (N = true) := by unfold Hid; rw [hN]; unfold nameF; rw [decide_eq_true h1]; rfl
   have q1 := p1.2 h1
   rw [decide_eq_true h1] at b1
   clear p1 p2 b2 h1 hN
   go_enter Tryz.func10, Tryz.ntmps10
   go_wp2
   go_ret
   exact ⟨by rw [HV.out]; rfl, Below.refl _ _⟩
 have q1 : ¬ s.toList = [226, 141, 186] := fun h => h1 (p1.1 h)
 by_cases h2 : s = omT
 · have HV : Hid (N = true) := by unfold Hid; rw [hN]; unfold nameF; rw [decide_eq_true h2, Bool.or_true]; rfl
   have q2 := p2.2 h2
   rw [decide_eq_true h2] at b2
   rw [decide_eq_false h1] at b1
   clear p1 p2 h1 h2 hN
   go_enter Tryz.func10, Tryz.ntmps10
   go_wp2
   go_ret
   exact ⟨by rw [HV.out]; rfl, Below.refl _ _⟩
 have q2 : ¬ s.toList = [226, 141, 181] := fun h => h2 (p2.1 h)
 have HV : Hid (N = nmGo s s.size 0 0) := by unfold Hid; rw [hN]; unfold nameF; rw [decide_eq_false h1, decide_eq_false h2]; rfl
 rw [decide_eq_false h1] at b1
 rw [decide_eq_false h2] at b2
 have HD : Hid (nmGo s s.size 0 0 = true ↔ (allF ne s).2.1 = 0 ∧ dnameF (refAllF ne s).1 s) := nmGo_ref ne s
 clear p1 p2 h1 h2 hN
 go_enter Tryz.func10, Tryz.ntmps10
 go_wp2_with fail
 refine (refToks_any hne s hs hT).mono ?_
 rintro e w2 ⟨h, hb⟩
 clear b1 b2 q1 q2
 have HB : Hid (Below w.heap.size w w2) := hb
 clear hb
 generalize (refAllF ne s).1 = T at *
 generalize (allF ne s).2.1 = er at *
 have HNO : Hid ((¬ er = 0 ∨ ¬ dnameF T s) → N = false) := fun h => by
  rw [HV.out]
  cases hx : nmGo s s.size 0 0 with
  | false => rfl
  | true =>
   obtain ⟨h1, h2⟩ := HD.out.1 hx
   rcases h with h | h
   · exact absurd h1 h
   · exact absurd h2 h
 have HYES : Hid (er = 0 → dnameF T s → N = true) := fun h1 h2 => by rw [HV.out]; exact HD.out.2 ⟨h1, h2⟩
 clear HD HV
 rcases h with ⟨h0, g, c, rfl, hc1, hc2, hg, hR⟩ | ⟨h0, v, p, rfl⟩
 · have HR : Hid (TokRR w2.heap.size w2 g T) := hR
   subst h0
   clear hR
   by_cases hl : T.length = 2
   · have k0 := HR.out.kd 0 (by omega)
     have t0 := HR.out.tx 0 (by omega)
     have i1 : (0 : Int) < (T.length : Int) := by omega
     have i2 : ((T.length : Int) == 2) = true := by rw [beq_iff_eq]; omega
     have HL : Hid (T.length = 2) := hl
     clear hl
     by_cases hk : tkd T 0 = 3
     · have hk2 : (tkd T 0 == 3) = true := by rw [beq_iff_eq]; exact hk
       have tt : ((ttx T 0).toList == s.toList) = decide (ttx T 0 = s) := by rw [ByteArray.toList_eq s]; exact (tx_isD _ s _ rfl).1
       have HE : Hid (N = decide (ttx T 0 = s)) := by
        by_cases hx : ttx T 0 = s
        · rw [decide_eq_true hx]; exact HYES.out rfl ⟨HL.out, hk, hx⟩
        · rw [decide_eq_false hx]; exact HNO.out (Or.inr (fun h => hx h.2.2))
       have HKK : Hid (tkd T 0 = 3) := hk
       clear hk
       generalize tkd T 0 = K at *
       generalize ttx T 0 = X at *
       clear HYES HNO
       go_wp2
       go_ret
       exact ⟨by rw [HE.out]; rfl, HB.out⟩
     · have hk2 : (tkd T 0 == 3) = false := by rw [beq_eq_false_iff_ne]; exact hk
       have HE : Hid (N = false) := HNO.out (Or.inr (fun h => hk h.2.1))
       generalize tkd T 0 = K at *
       clear HYES HNO
       go_wp2
       go_ret
       exact ⟨by rw [HE.out]; rfl, HB.out⟩
   · have i2 : ((T.length : Int) == 2) = false := by rw [beq_eq_false_iff_ne]; omega
     have HE : Hid (N = false) := HNO.out (Or.inr (fun h => hl h.1))
     have hl2 : ¬ (T.length : Int) = 2 := by omega
     clear HYES HNO hl
     go_wp2
     go_ret
     exact ⟨by rw [HE.out]; rfl, HB.out⟩
 · have i2 : (er == 0) = false := by rw [beq_eq_false_iff_ne]; exact h0
   have HE : Hid (N = false) := HNO.out (Or.inl h0)
   clear HYES HNO
   go_wp2
   go_ret
   exact ⟨by rw [HE.out]; rfl, HB.out⟩
end Go.Proofs.YtimfnalpmmkndaaGreatDoor
