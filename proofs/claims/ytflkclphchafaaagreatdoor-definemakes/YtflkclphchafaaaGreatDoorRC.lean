/- glyphref12.has: is a text in a row? -/
import Derived.Test.YtflkclphchafaaaGreatDoorSB
import Derived.Test.YtflkclphchafaaaGreatDoorDA
import Derived.Test.YtflkclphchafaaaGreatDoorHX
import Derived.Test.YtflkclphchafaaaGreatDoorDB
import Derived.Test.YtflkclphchafaaaGreatDoorDC
import Derived.Test.YtflkclphchafaaaGreatDoorRB
namespace Go.Proofs.YtflkclphchafaaaGreatDoor
set_option linter.unusedVariables false
set_option linter.unusedSimpArgs false
open Go.RowKit

theorem same_textD (x y : ByteArray) : (x.toList == y.toList) = decide (x = y) := by
 by_cases h : x = y
 · rw [decide_eq_true h, h]; simp
 · rw [decide_eq_false h, beq_eq_false_iff_ne]
   exact fun e => h (ByteArray.ext (Array.toList_inj.mp (by rw [← ByteArray.toList_eq, ← ByteArray.toList_eq]; exact e)))
theorem memT_take {s : ByteArray} {ss : List ByteArray} {i : Nat} (hi : i < ss.length) (h : ∀ x ∈ ss.take i, ¬ x = s) (hx : ¬ ss.getD i noT = s) : ∀ x ∈ ss.take (i + 1), ¬ x = s := by
 intro x hx2
 rw [List.take_add_one, List.getElem?_eq_getElem hi, List.mem_append] at hx2
 rcases hx2 with hx2 | hx2
 · exact h x hx2
 · rw [List.getD_eq_getElem?_getD, List.getElem?_eq_getElem hi] at hx
   simp at hx2
   rw [hx2]
   exact hx
set_option maxRecDepth 100000 in
set_option maxHeartbeats 2000000 in
theorem refHas_any {B : Nat} {w : World} {a : Option Addr} {c : Nat} {ss : List ByteArray} (s : ByteArray) (h : RdS B w (.slice a ss.length c) ss) :
    Calls Tryz.prog 22 #[.slice a ss.length c, .string s] w fun e w' => e = .returned (.bool (memT s ss)) ∧ w = w' := by
 have HR : Hid (RdS B w (.slice a ss.length c) ss) := h
 obtain ⟨hc1, hc2⟩ := h.cap
 clear h
 go_enter Tryz.func22, Tryz.ntmps22
 go_wp2
 go_loopw [5] (fun iv wr => ∃ i : Nat, i ≤ ss.length ∧ iv = .int .i64 i ∧ Hid (∀ x ∈ ss.take i, ¬ x = s) ∧ wr = w) (fun iv _ => ss.length - (intOf iv).toNat)
 case atStart => exact ⟨0, Nat.zero_le _, rfl, (fun x hx => by simp at hx), rfl⟩
 case round =>
  obtain ⟨i, hi, rfl, HI, hw⟩ := hrel
  obtain rfl := hw.symm
  by_cases hlt : i < ss.length
  · obtain ⟨g, o, rfl, hg, hc⟩ := HR.out.ptr (by omega)
    have q := hc i hlt
    have hst := same_textD (ss.getD i noT) s
    have HN := @memT_take s ss i hlt HI.out
    have HM : Hid (ss.getD i noT = s → memT s ss = true) := fun e => memT_iff.2 (by rw [← e, List.getD_eq_getElem?_getD, List.getElem?_eq_getElem hlt]; exact List.getElem_mem hlt)
    clear hc HI
    by_cases hx : ss.getD i noT = s
    · rw [decide_eq_true hx] at hst
      have HT : Hid (memT s ss = true) := HM.out hx
      generalize ss.getD i noT = p at *
      clear hx HN HM
      go_wp2
      go_ret
      exact ⟨by rw [HT.out]; rfl, rfl⟩
    · rw [decide_eq_false hx] at hst
      have HI2 : Hid (∀ x ∈ ss.take (i + 1), ¬ x = s) := HN hx
      generalize ss.getD i noT = p at *
      clear hx HN HM
      go_wp2
      go_roundw
      case rel => exact ⟨i + 1, by omega, by go_num, HI2, (by first | trivial | rfl)⟩
      case measure => simp [intOf]; omega
  · have HF : Hid (memT s ss = false) := memT_no (fun hm => HI.out s (by rw [List.take_of_length_le (by omega)]; exact hm) rfl)
    go_wp2
    go_ret
    exact ⟨by rw [HF.out]; rfl, rfl⟩
end Go.Proofs.YtflkclphchafaaaGreatDoor

/- The document's header by its tokens: the mathematics. -/
namespace Go.Proofs.YtflkclphchafaaaGreatDoor
set_option linter.unusedVariables false
set_option linter.unusedSimpArgs false
open Go.RowKit

theorem noT_scan : (scanR noT noT.size 0 []).1 = [] := by decide
/-- A token that is not the end has a text. -/
theorem tok_full {ne : ByteArray → Int} {cs : List Int} (hok : ∀ c ∈ cs, okRune c) {i : Nat} (hi : i < cs.length) (h0 : (nextF ne cs i).2.2 = 0) : ¬ cutText cs i (nextF ne cs i).2.1 = noT := by
 intro h
 have hs := scan_back _ (cut_ok hok (i := i) (j := (nextF ne cs i).2.1))
 unfold cutText at h
 rw [h] at hs
 have e : (cs.drop i).take ((nextF ne cs i).2.1 - i) = [] := by rw [← noT_scan, hs]
 have hn := nextF_end ne cs i hi h0
 have := congrArg List.length e
 rw [List.length_take, List.length_drop, List.length_nil] at this
 omega
theorem toks_full {ne : ByteArray → Int} {cs : List Int} (hok : ∀ c ∈ cs, okRune c) : ∀ f i, i ≤ cs.length → ∀ x ∈ itemsF ne cs f i, x.2.2.2 = 0 → ¬ x.1 = 0 → ¬ x.2.1 = noT
 | 0, i, h1, x, hx, _, _ => by simp [itemsF] at hx
 | f + 1, i, h1, x, hx, he, hk => by
  rw [itemsF] at hx
  by_cases hi : i < cs.length
  · rw [if_pos hi] at hx
    by_cases h0 : (nextF ne cs i).2.2 = 0
    · rw [if_pos h0] at hx
      have hn := nextF_end ne cs i hi h0
      have hp := passTo_le (cs := cs) (i := (nextF ne cs i).2.1) hn.2
      rcases List.mem_cons.1 hx with rfl | hx
      · exact tok_full hok hi h0
      · exact toks_full hok f _ hp.2 x hx he hk
    · rw [if_neg h0] at hx
      rw [List.mem_singleton.1 hx] at he
      exact absurd he h0
  · rw [if_neg hi] at hx
    rw [List.mem_singleton.1 hx] at hk
    exact absurd rfl hk
theorem tkd_full {T : List Tk} (hF : ∀ x ∈ T, ¬ x.1 = 0 → ¬ x.2.1 = noT) {k : Nat} (h3 : tkd T k = 3) : full (ttx T k) = true := by
 rcases Nat.lt_or_ge k T.length with hk | hk
 · have e : T.getD k (0, ⟨#[]⟩, 0, 0) = T[k] := by simp [List.getD, hk]
   unfold tkd at h3
   unfold ttx full
   rw [e] at h3 ⊢
   have := hF _ (List.getElem_mem hk) (by rw [h3]; decide)
   rw [decide_eq_false this]
   rfl
 · unfold tkd at h3
   rw [List.getD_eq_getElem?_getD, List.getElem?_eq_none hk] at h3
   simp at h3
theorem namF_full {T : List Tk} (hF : ∀ x ∈ T, ¬ x.1 = 0 → ¬ x.2.1 = noT) : ∀ f k, ∀ x ∈ namF T f k, full x = true
 | 0, k, x, hx => by simp [namF] at hx
 | f + 1, k, x, hx => by
  rw [namF] at hx
  by_cases h : tkd T k = 3
  · rw [if_pos h] at hx
    rcases List.mem_cons.1 hx with rfl | hx
    · exact tkd_full hF h
    · exact namF_full hF f _ x hx
  · rw [if_neg h] at hx; simp at hx
theorem locF_full {T : List Tk} (hF : ∀ x ∈ T, ¬ x.1 = 0 → ¬ x.2.1 = noT) : ∀ f k, ∀ x ∈ locF T f k, full x = true
 | 0, k, x, hx => by simp [locF] at hx
 | f + 1, k, x, hx => by
  rw [locF] at hx
  by_cases h : ttx T k = semT ∧ tkd T (k + 1) = 3
  · rw [if_pos h] at hx
    rcases List.mem_cons.1 hx with rfl | hx
    · exact tkd_full hF h.2
    · exact locF_full hF f _ x hx
  · rw [if_neg h] at hx; simp at hx
/-- What is taken one by one is taken if nothing comes twice. -/
theorem takeF_nodup : ∀ (l ks : List ByteArray), (takeF ks l).1 = true ↔ l.Nodup ∧ ∀ x ∈ l, x ∉ ks
 | [], ks => by simp [takeF]
 | n :: l, ks => by
  rw [takeF]
  by_cases hm : memT n ks = true
  · rw [if_pos hm]
    have := memT_iff.1 hm
    simp
    intro _ _ h
    exact absurd this h
  · rw [if_neg hm, takeF_nodup l (ks ++ [n])]
    have hn : n ∉ ks := fun h => hm (memT_iff.2 h)
    simp only [List.nodup_cons, List.mem_append, List.mem_cons, List.not_mem_nil, or_false]
    constructor
    · rintro ⟨h1, h2⟩
      refine ⟨⟨fun h => (h2 n h) (Or.inr rfl), h1⟩, fun x hx => ?_⟩
      rcases hx with rfl | hx
      · exact hn
      · exact fun h => h2 x hx (Or.inl h)
    · rintro ⟨⟨h1, h2⟩, h3⟩
      refine ⟨h2, fun x hx h => ?_⟩
      rcases h with h | h
      · exact h3 x (Or.inr hx) h
      · rw [h] at hx
        exact h1 hx
/-- All names as the document gathers them. -/
def docAll (ns : List ByteArray) (r : ByteArray) (ls : List ByteArray) : List ByteArray := (ns ++ if r = noT then [] else [r]) ++ ls
theorem filter_full {l : List ByteArray} (h : ∀ x ∈ l, full x = true) : l.filter full = l := List.filter_eq_self.2 h
theorem full_no : full noT = false := by decide
theorem full_iff (r : ByteArray) : full r = !decide (r = noT) := rfl
theorem all_perm {r : ByteArray} {ls ns : List ByteArray} {h : Hd} (hh : hdOf r ls ns = some h) (hn : ∀ x ∈ ns, full x = true) (hl : ∀ x ∈ ls, full x = true) : h.all.Perm (docAll ns r ls) := by
 have fr : [r].filter full = if r = noT then [] else [r] := by
  by_cases e : r = noT
  · rw [if_pos e, e]; rfl
  · rw [if_neg e]; simp [full_iff, e]
 match ns, hh with
 | [n], hh =>
  cases hh
  have e : List.filter full ([r, noT, noT] ++ ls) = ([r].filter full) ++ ls := by
   rw [List.filter_append, filter_full hl]
   congr 1
  show (List.filter full ([r, noT, noT] ++ ls) ++ [n]).Perm _
  rw [e, fr]
  unfold docAll
  generalize (if r = noT then [] else [r]) = R
  exact List.perm_append_comm (l₁ := R ++ ls) (l₂ := [n])
 | [n, a], hh =>
  cases hh
  have ha : full a = true := hn a (by simp)
  have e : List.filter full ([r, noT, a] ++ ls) = ([r].filter full) ++ ([a] ++ ls) := by
   rw [List.filter_append, filter_full hl, ← List.append_assoc]
   congr 1
   by_cases hr : full r = true
   · simp [List.filter_cons, full_no, ha, hr]
   · simp [List.filter_cons, full_no, ha, hr]
  show (List.filter full ([r, noT, a] ++ ls) ++ [n]).Perm _
  rw [e, fr]
  unfold docAll
  generalize (if r = noT then [] else [r]) = R
  refine List.perm_append_comm.trans ?_
  show ([n] ++ (R ++ ([a] ++ ls))).Perm ([n] ++ (([a] ++ R) ++ ls))
  refine List.Perm.append_left [n] ?_
  rw [← List.append_assoc]
  exact List.Perm.append_right ls List.perm_append_comm
 | [l, n, a], hh =>
  cases hh
  have ha : full a = true := hn a (by simp)
  have hb : full l = true := hn l (by simp)
  have e : List.filter full ([r, l, a] ++ ls) = ([r].filter full) ++ ([l, a] ++ ls) := by
   rw [List.filter_append, filter_full hl, ← List.append_assoc]
   congr 1
   by_cases hr : full r = true
   · simp [List.filter_cons, hb, ha, hr]
   · simp [List.filter_cons, hb, ha, hr]
  show (List.filter full ([r, l, a] ++ ls) ++ [n]).Perm _
  rw [e, fr]
  unfold docAll
  generalize (if r = noT then [] else [r]) = R
  refine List.perm_append_comm.trans ?_
  refine List.Perm.trans (l₂ := [n] ++ (([l, a] ++ R) ++ ls)) ?_ (List.Perm.swap l n _)
  refine List.Perm.append_left [n] ?_
  rw [← List.append_assoc]
  exact List.Perm.append_right ls List.perm_append_comm
/-- Nothing twice, as the document looks for it. -/
theorem nodup_take {l : List ByteArray} : l.Nodup ↔ ∀ i, i < l.length → memT (l.getD i noT) (l.take i) = false := by
 unfold List.Nodup
 rw [List.pairwise_iff_getElem]
 constructor
 · intro h i hi
   refine memT_no fun hm => ?_
   rw [List.getD_eq_getElem?_getD, List.getElem?_eq_getElem hi] at hm
   obtain ⟨j, hj, e⟩ := List.mem_iff_getElem.1 hm
   rw [List.length_take] at hj
   rw [List.getElem_take] at e
   exact h j i (by omega) hi (by omega) e
 · intro h i j hi hj hij e
   have h2 := h j hj
   have hm : memT (l.getD j noT) (l.take j) = true := by
    rw [memT_iff, List.getD_eq_getElem?_getD, List.getElem?_eq_getElem hj]
    refine List.mem_iff_getElem.2 ⟨i, by rw [List.length_take]; omega, ?_⟩
    rw [List.getElem_take]
    exact e
   rw [hm] at h2
   cases h2
/-- The header of names, a result and locals, if nothing comes twice. -/
def docF (ns : List ByteArray) (r : ByteArray) (ls : List ByteArray) : Option Hd := match hdOf r ls ns with
 | some h => if (docAll ns r ls).Nodup then some h else none
 | none => none
theorem docF_yes {ns ls : List ByteArray} {r : ByteArray} {h : Hd} (hh : hdOf r ls ns = some h) (hn : (docAll ns r ls).Nodup) : docF ns r ls = some h := by
 unfold docF
 rw [hh]
 simp only [if_pos hn]
theorem docF_no {ns ls : List ByteArray} {r : ByteArray} (hn : ¬ (docAll ns r ls).Nodup) : docF ns r ls = none := by
 unfold docF
 cases hdOf r ls ns with
 | none => rfl
 | some h => simp only [if_neg hn]
/-- The document's header: a header, or none. -/
theorem headF_doc {T : List Tk} (hF : ∀ x ∈ T, ¬ x.1 = 0 → ¬ x.2.1 = noT) : headF T = if ¬ tkd T (endK T) = 0 ∨ 32 < (localsOfF T).length then none else docF (namesOfF T) (resT T) (localsOfF T) := by
 unfold headF
 by_cases h1 : ¬ tkd T (endK T) = 0 ∨ 32 < (localsOfF T).length
 · rw [if_pos h1, if_pos h1]
 · rw [if_neg h1, if_neg h1]
   unfold docF
   cases hh : hdOf (resT T) (localsOfF T) (namesOfF T) with
   | none => rfl
   | some h =>
    unfold pickH
    have hp := all_perm hh (namF_full hF _ _) (locF_full hF _ _)
    have : (takeF [] h.all).1 = true ↔ (docAll (namesOfF T) (resT T) (localsOfF T)).Nodup := by
     rw [takeF_nodup, hp.nodup_iff]
     simp
    by_cases hn : (docAll (namesOfF T) (resT T) (localsOfF T)).Nodup
    · simp only [if_pos hn, if_pos (this.2 hn)]
    · simp only [if_neg hn]
      rw [if_neg (fun h => hn (this.1 h))]
end Go.Proofs.YtflkclphchafaaaGreatDoor

/- The document's tokens in a row. -/
namespace Go.Proofs.YtflkclphchafaaaGreatDoor
set_option linter.unusedVariables false
set_option linter.unusedSimpArgs false
open Go.RowKit

def tpl (T : List Tk) (k : Nat) : Nat := (T.getD k (0, ⟨#[]⟩, 0, 0)).2.2.1
/-- A row of the document's tokens, in block g, from below B. -/
structure TokRR (B : Nat) (w : World) (g : Nat) (T : List Tk) : Prop where
 lt : g < B
 row : RowT T
 ful : ∀ x ∈ T, ¬ x.1 = 0 → ¬ x.2.1 = noT
 few : T.length ≤ 1025
 kd : ∀ k, k < T.length → w.cell? ⟨g, k * 5, none⟩ = some (.int .i64 (tkd T k))
 tx : ∀ k, k < T.length → w.cell? ⟨g, k * 5 + 1, none⟩ = some (.string (ttx T k))
 pl : ∀ k, k < T.length → w.cell? ⟨g, k * 5 + 2, none⟩ = some (.int .i64 (tpl T k))
theorem TokRR.below {B C : Nat} {w w' : World} {g : Nat} {T : List Tk} (h : TokRR B w g T) (k : Below C w w') (hC : B ≤ C) : TokRR B w' g T :=
 ⟨h.lt, h.row, h.ful, h.few, fun j hj => by rw [k.cell (p := ⟨g, j * 5, none⟩) (by have := h.lt; show g < C; omega)]; exact h.kd j hj, fun j hj => by rw [k.cell (p := ⟨g, j * 5 + 1, none⟩) (by have := h.lt; show g < C; omega)]; exact h.tx j hj, fun j hj => by rw [k.cell (p := ⟨g, j * 5 + 2, none⟩) (by have := h.lt; show g < C; omega)]; exact h.pl j hj⟩
theorem TokRR.mono {B C : Nat} {w : World} {g : Nat} {T : List Tk} (h : TokRR B w g T) (hC : B ≤ C) : TokRR C w g T := ⟨by have := h.lt; omega, h.row, h.ful, h.few, h.kd, h.tx, h.pl⟩
/-- What glyphref04.All tells of a text: its tokens, or an error. -/
def ToksIs (w : World) (er : Int) (T : List Tk) (e : Ending) (w' : World) : Prop :=
 ((er = 0 ∧ ∃ g c, e = .returned (.tuple #[.slice (some ⟨g, 0, none⟩) T.length c, .int .i64 0, .int .i64 0]) ∧ T.length ≤ c ∧ c ≤ 9223372036854775807 ∧ w.heap.size ≤ g ∧ TokRR w'.heap.size w' g T) ∨
  (¬ er = 0 ∧ ∃ v p, e = .returned (.tuple #[v, .int .i64 er, .int .i64 p]))) ∧ Below w.heap.size w w'
theorem RowT.three {T : List Tk} (h : RowT T) {k : Nat} (hk : tkd T k = 3) : k < T.length ∧ k + 1 < T.length := h.less (Or.inl (by rw [hk]; decide))
end Go.Proofs.YtflkclphchafaaaGreatDoor

/- Texts appended to a row of one's own: where the new row lies. -/
namespace Go.Proofs.YtflkclphchafaaaGreatDoor
set_option linter.unusedVariables false
set_option linter.unusedSimpArgs false
open Go.RowKit

theorem append_strsB {B base : Nat} {w : World} {ops : Array Oper} {rest : List Oper} {o : Oper} {a : Act} {Q : Exit → Act → World → Prop} {v x' : Value} {xs ys : List ByteArray} (hgd : o.guard = none) (s x : Operand)
    (ho : o.op = .call { callee := .builtin .append, args := #[s, x], argTypes := #[22, 22] }) (hs : a.eval s = v) (hx : a.eval x = x') (hO : OwS base w v xs) (hR : RdS B w x' ys) (h0 : 0 < ys.length) (hl : (xs.length + ys.length) * 16 ≤ 140737488355328) (hb : base ≤ w.heap.size)
    (h : ∀ v' w', OwS base w' v' (xs ++ ys) → w.grownBy w' v.ownBlock → (v'.ownBlock = v.ownBlock ∨ v'.ownBlock = some w.heap.size) → wpList Tryz.prog ops Q rest (a.put o.dst v') w') : wpList Tryz.prog ops Q (o :: rest) a w := by
 refine wpList_plain hgd fun K hK => ?_
 obtain ⟨i0, hi, hz0, hz1, hz2⟩ := info_parts info_strS
 obtain ⟨a1, c1, rfl, h2, h3, h3', h4⟩ := hR
 rcases h4 with h4 | ⟨g, o', rfl, h5, h6⟩
 · subst h4; simp at h0
 obtain ⟨v', w', hr, q2, q3, q4, q5⟩ := run_append_own_at (P := Tryz.prog) w base 22 o.type 9 i0 (.string ⟨#[]⟩) 1 16 Tryz.underlying22 hi hz0 hz1 hz2 rfl (by decide) v xs.length (xs.map Value.string) hO ⟨g, o', none⟩ ys.length c1 (ys.map Value.string) (by rw [List.length_map]; omega) (by
  intro j u hj
  have hjl : j < ys.length := by
   rcases Nat.lt_or_ge j ys.length with h' | h'
   · exact h'
   · rw [List.getElem?_eq_none (by simpa using h')] at hj; cases hj
  rw [getD_mapS hjl] at hj
  cases hj
  have := h6 j hjl
  rw [show (⟨g, o', none⟩ : Addr).add j = ⟨g, o' + j, none⟩ by cases j <;> simp [Addr.add]]
  exact this) (strs_one _) (by unfold maxLen; omega) hl hb
 unfold Oper.wp execOp
 simp only [ho, resolve, invoke, builtin, Sem.run_bind, Sem.run_pure, Result.andThen_ok, List.map_toArray, List.map_cons, List.map_nil, hs, hx, hr]
 refine hK _ _ (h v' w' ?_ q3 q5)
 unfold OwS
 rw [List.length_append, List.map_append]
 exact q2
theorem step_append_strsB {B base : Nat} {ops : Array Oper} {o : Oper} {a : Act} {w : World} {K : Act → World → Prop} {Q : Exit → Act → World → Prop} {E : Prop} {v x' : Value} {xs ys : List ByteArray} (hg : o.guard = none) (s x : Operand)
    (ho : o.op = .call { callee := .builtin .append, args := #[s, x], argTypes := #[22, 22] }) (hs : a.eval s = v) (hx : a.eval x = x') (hO : OwS base w v xs) (hR : RdS B w x' ys) (h0 : 0 < ys.length) (hl : (xs.length + ys.length) * 16 ≤ 140737488355328) (hb : base ≤ w.heap.size)
    (hK : ∀ v' w', OwS base w' v' (xs ++ ys) → w.grownBy w' v.ownBlock → (v'.ownBlock = v.ownBlock ∨ v'.ownBlock = some w.heap.size) → K (a.put o.dst v') w') :
    if Region.wanted o (yielded ops a.tmps) = true then Oper.wp Tryz.prog o a w K Q else E := by
 rw [if_pos (by simp [Region.wanted, hg])]
 obtain ⟨i0, hi, hz0, hz1, hz2⟩ := info_parts info_strS
 obtain ⟨a1, c1, rfl, h2, h3, h3', h4⟩ := hR
 rcases h4 with h4 | ⟨g, o', rfl, h5, h6⟩
 · subst h4; simp at h0
 obtain ⟨v', w', hr, h2, h3, h4, h5⟩ := run_append_own_at (P := Tryz.prog) w base 22 o.type 9 i0 (.string ⟨#[]⟩) 1 16 Tryz.underlying22 hi hz0 hz1 hz2 rfl (by decide) v xs.length (xs.map Value.string) hO ⟨g, o', none⟩ ys.length c1 (ys.map Value.string) (by rw [List.length_map]; omega) (by
  intro j u hj
  have hjl : j < ys.length := by
   rcases Nat.lt_or_ge j ys.length with h' | h'
   · exact h'
   · rw [List.getElem?_eq_none (by simpa using h')] at hj; cases hj
  rw [getD_mapS hjl] at hj
  cases hj
  have := h6 j hjl
  rw [show (⟨g, o', none⟩ : Addr).add j = ⟨g, o' + j, none⟩ by cases j <;> simp [Addr.add]]
  exact this) (strs_one _) (by unfold maxLen; omega) hl hb
 unfold Oper.wp execOp
 simp only [ho, resolve, invoke, builtin, Sem.run_bind, Sem.run_pure, Result.andThen_ok, List.map_toArray, List.map_cons, List.map_nil, hs, hx, hr]
 refine hK v' w' ?_ h3 h5
 unfold OwS
 rw [List.length_append, List.map_append]
 exact h2
end Go.Proofs.YtflkclphchafaaaGreatDoor

/- A line's label by its tokens: the mathematics. -/
namespace Go.Proofs.YtflkclphchafaaaGreatDoor
set_option linter.unusedVariables false
set_option linter.unusedSimpArgs false
open Go.RowKit

theorem enc_is {c : Int} (hc : okRune c) : (Utf8.encode c).data.toList = Lib.encodeRune c := by
 have hr := okRune_le hc
 obtain ⟨n, rfl⟩ : ∃ n : Nat, c = n := ⟨c.toNat, by unfold okRune at hc; omega⟩
 rw [enc_list _ hc]
 unfold Lib.encodeRune
 rw [Int.toNat_natCast] at *
 by_cases a1 : n < 128
 · rw [if_pos a1, Lib.encodeRuneZ_one (by omega) (by omega)]
   simp only [List.map_cons, List.map_nil, Int.toNat_natCast]
 rw [if_neg a1]
 by_cases a2 : n < 2048
 · rw [if_pos a2, Lib.encodeRuneZ_two (by omega) (by omega)]
   simp only [List.map_cons, List.map_nil]
   rw [show (192 + (n : Int) / 64).toNat = 192 + n / 64 by omega, show (128 + (n : Int) % 64).toNat = 128 + n % 64 by omega]
 rw [if_neg a2]
 by_cases a3 : n < 65536
 · rw [if_pos a3, Lib.encodeRuneZ_three (by omega)]
   simp only [List.map_cons, List.map_nil]
   rw [show (224 + (n : Int) / 4096).toNat = 224 + n / 4096 by omega, show (128 + (n : Int) / 64 % 64).toNat = 128 + n / 64 % 64 by omega, show (128 + (n : Int) % 64).toNat = 128 + n % 64 by omega]
 rw [if_neg a3, Lib.encodeRuneZ_four (by omega) (by omega)]
 simp only [List.map_cons, List.map_nil]
 rw [show (240 + (n : Int) / 262144).toNat = 240 + n / 262144 by omega, show (128 + (n : Int) / 4096 % 64).toNat = 128 + n / 4096 % 64 by omega, show (128 + (n : Int) / 64 % 64).toNat = 128 + n / 64 % 64 by omega, show (128 + (n : Int) % 64).toNat = 128 + n % 64 by omega]
theorem scan_bytes (s : ByteArray) : ∀ (f pos : Nat) (acc : List Int), pos ≤ s.size → s.size ≤ pos + f → (scanR s f pos acc).2.1 = 0 → (runesBytes (scanR s f pos acc).1).data.toList = (runesBytes acc).data.toList ++ s.data.toList.drop pos
 | 0, pos, acc, hp, hf, _ => by
  rw [scanR, List.drop_of_length_le (by simp; omega), List.append_nil]
 | f + 1, pos, acc, hp, hf, h => by
  rw [scanR] at h ⊢
  by_cases h1 : pos < s.size
  · rw [if_pos h1] at h ⊢
    by_cases h2 : (Utf8.decode s pos).1 = 65533 ∧ (Utf8.decode s pos).2 = 1
    · rw [if_pos h2] at h; simp at h
    rw [if_neg h2] at h ⊢
    have hne := drop_ne h1
    have hd := Lib.decodeL_drop s pos
    have hl := Lib.decodeL_le _ hne
    have he := Lib.encode_decode _ hne (by rw [hd]; exact h2)
    rw [hd] at hl he
    rw [List.length_drop] at hl
    have hsz : s.data.toList.length = s.size := by simp
    have hr : okRune ((Utf8.decode s pos).1 : Int) := by
     have := scanR_ok s 1 pos [] (fun c h => by cases h) ((Utf8.decode s pos).1 : Int) (by rw [scanR, if_pos h1, if_neg h2, scanR]; simp)
     exact this
    have hpos : 1 ≤ (Utf8.decode s pos).2 := by
     have := (enc_len _ hr).1
     rw [enc_is hr, he, List.length_take] at this
     omega
    have e : (runesBytes [((Utf8.decode s pos).1 : Int)]).data.toList ++ s.data.toList.drop (pos + (Utf8.decode s pos).2) = s.data.toList.drop pos := by
     rw [runesBytes_cons, runesBytes_nil, List.append_nil, enc_is hr, he, ← List.drop_drop]
     exact List.take_append_drop _ _
    rw [scan_bytes s f _ _ (by omega) (by omega) h, runes_app2, List.append_assoc, e]
  · rw [if_neg h1, List.drop_of_length_le (by simp; omega), List.append_nil]
theorem text_is {s : ByteArray} (h : (scanR s s.size 0 []).2.1 = 0) : s.data.toList = (runesBytes (scanR s s.size 0 []).1).data.toList := by
 rw [scan_bytes s s.size 0 [] (Nat.zero_le _) (by omega) h]
 simp [runesBytes_nil]
theorem no_byte {l : List Int} (h : ∀ c ∈ l, okRune c) (h58 : (58 : Int) ∉ l) : (58 : UInt8) ∉ (runesBytes l).data.toList := by
 induction l with
 | nil => rw [runesBytes_nil]; simp
 | cons c l ih =>
  have hc := h c (by simp)
  have hr := okRune_le hc
  have h0 : 0 ≤ c := by unfold okRune at hc; omega
  have hn : ¬ c.toNat = 58 := fun e => h58 (by rw [show (58 : Int) = c by omega]; simp)
  rw [runesBytes_cons, List.mem_append]
  rintro (hm | hm)
  · rw [enc_list c hc] at hm
    have key : ∀ n : Nat, n < 256 → (58 : UInt8) = UInt8.ofNat n → n = 58 := fun n hn e => by
     have := congrArg UInt8.toNat e
     rw [nat_byte n hn] at this
     exact this.symm
    by_cases a1 : c.toNat < 128
    · rw [if_pos a1, List.mem_singleton] at hm
      exact hn (key _ (by omega) hm)
    rw [if_neg a1] at hm
    by_cases a2 : c.toNat < 2048
    · rw [if_pos a2] at hm
      simp only [List.mem_cons, List.not_mem_nil, or_false] at hm
      rcases hm with e | e
      · have := key _ (by omega) e; omega
      · have := key _ (by omega) e; omega
    rw [if_neg a2] at hm
    by_cases a3 : c.toNat < 65536
    · rw [if_pos a3] at hm
      simp only [List.mem_cons, List.not_mem_nil, or_false] at hm
      rcases hm with e | e | e
      · have := key _ (by omega) e; omega
      · have := key _ (by omega) e; omega
      · have := key _ (by omega) e; omega
    rw [if_neg a3] at hm
    simp only [List.mem_cons, List.not_mem_nil, or_false] at hm
    rcases hm with e | e | e | e
    · have := key _ (by omega) e; omega
    · have := key _ (by omega) e; omega
    · have := key _ (by omega) e; omega
    · have := key _ (by omega) e; omega
  · exact ih (fun x hx => h x (by simp [hx])) (fun hx => h58 (by simp [hx])) hm
theorem indexByte_no : ∀ {l : List UInt8}, (58 : UInt8) ∉ l → Lib.indexByte l 58 = -1
 | [], _ => rfl
 | b :: l, h => by
  rw [Lib.indexByte, if_neg (by simp; intro e; exact h (by simp [e])), indexByte_no (fun hx => h (by simp [hx]))]
  rfl
theorem indexByte_at : ∀ {l r : List UInt8}, (58 : UInt8) ∉ l → Lib.indexByte (l ++ 58 :: r) 58 = l.length
 | [], r, _ => by simp [Lib.indexByte]
 | b :: l, r, h => by
  rw [List.cons_append, Lib.indexByte, if_neg (by simp; intro e; exact h (by simp [e])), indexByte_at (fun hx => h (by simp [hx]))]
  rw [if_neg (by simp), List.length_cons]
  omega
theorem bytes_ext {a b : ByteArray} (h : a.data.toList = b.data.toList) : a = b := ByteArray.ext (Array.toList_inj.mp h)
theorem col_is : colT = runesBytes [58] := by decide
theorem okC : ∀ c ∈ ([58] : List Int), okRune c := fun c hc => by rw [List.mem_singleton.1 hc]; unfold okRune; omega
/-- A stretch that is a colon is just that character. -/
theorem cut_col {cs : List Int} (hok : ∀ c ∈ cs, okRune c) {i j : Nat} (h : cutText cs i j = colT) : i < cs.length ∧ cs.getD i 0 = 58 := by
 have hs := scan_back _ (cut_ok hok (i := i) (j := j))
 have hc := scan_back [58] okC
 unfold cutText at h
 rw [h, col_is, hc] at hs
 have e : (cs.drop i).take (j - i) = [58] := (congrArg Prod.fst hs).symm
 have e0 := congrArg (fun l => l.getD 0 0) e
 have el := congrArg List.length e
 rw [List.length_take, List.length_drop, List.length_singleton] at el
 have hi : i < cs.length := by omega
 refine ⟨hi, ?_⟩
 simp only [List.getD_eq_getElem?_getD, List.getElem?_take, List.getElem?_drop] at e0
 rw [if_pos (by omega)] at e0
 rw [List.getD_eq_getElem?_getD]
 simpa using e0
theorem next_col (ne : ByteArray → Int) (cs : List Int) (i : Nat) (h : cs.getD i 0 = 58) : nextF ne cs i = (6, i + 1, 0) := by
 unfold nextF
 rw [h, if_neg (by decide), if_neg (by decide), if_neg (by decide), if_neg (by decide), if_neg (by decide +kernel), if_pos (by decide +kernel)]
theorem run_le {p : Int → Bool} {cs : List Int} {i m : Nat} (hi : i ≤ m) (hm : m < cs.length) (h : p (cs.getD m 0) = false) : runEnd p cs i ≤ m := by
 rcases Nat.lt_or_ge m (runEnd p cs i) with h' | h'
 · rw [runEnd_in2 (by omega) hi h'] at h
   cases h
 · exact h'
theorem pass_run {cs : List Int} {i : Nat} (h : passTo cs i < cs.length) : passTo cs i = runEnd bl cs i := by
 unfold passTo at h ⊢
 by_cases hc : runEnd bl cs i < cs.length ∧ cs.getD (runEnd bl cs i) 0 = 9053
 · rw [if_pos hc] at h; omega
 · rw [if_neg hc]
/-- What the first two tokens are, told by the characters. -/
structure Lab (ne : ByteArray → Int) (cs : List Int) (e0 i1 : Nat) : Prop where
 lt0 : passTo cs 0 < cs.length
 n0 : nextF ne cs (passTo cs 0) = (3, e0, 0)
 p1 : passTo cs e0 = i1
 lt1 : i1 < cs.length
 c1 : cs.getD i1 0 = 58
theorem lab_items {ne : ByteArray → Int} {cs : List Int} {e0 i1 : Nat} (h : Lab ne cs e0 i1) : ∃ g, items ne cs = (3, cutText cs (passTo cs 0) e0, passTo cs 0, 0) :: (6, cutText cs i1 (i1 + 1), i1, 0) :: itemsF ne cs g (passTo cs (i1 + 1)) ∧ cs.length < passTo cs (i1 + 1) + g := by
 obtain ⟨l0, n0, p1, l1, c1⟩ := h
 have n1 := next_col ne cs i1 c1
 have hj := nextF_end ne cs _ l0 (by rw [n0])
 rw [n0] at hj
 have hp := passTo_le (cs := cs) (i := e0) hj.2
 have hq := passTo_le (cs := cs) (i := i1 + 1) (by omega)
 simp only at hj
 obtain ⟨g, hg⟩ : ∃ g, cs.length + 1 = g + 2 := ⟨cs.length - 1, by omega⟩
 refine ⟨g, ?_, by omega⟩
 unfold items
 rw [hg, itemsF, if_pos l0, if_pos (by rw [n0]), n0]
 simp only
 rw [p1, itemsF, if_pos l1, if_pos (by rw [n1]), n1]
theorem items_lab {ne : ByteArray → Int} {cs : List Int} (hok : ∀ c ∈ cs, okRune c) (h0 : tkd (items ne cs) 0 = 3) (h1 : ttx (items ne cs) 1 = colT) : ∃ e0 i1, Lab ne cs e0 i1 := by
 have no0 : ∀ i, tkd [((0 : Int), (⟨#[]⟩ : ByteArray), i, (0 : Int))] 0 = 0 := fun i => rfl
 unfold items at h0 h1
 rw [itemsF] at h0 h1
 by_cases l0 : passTo cs 0 < cs.length
 rotate_left
 · rw [if_neg l0] at h0; cases h0
 rw [if_pos l0] at h0 h1
 by_cases e : (nextF ne cs (passTo cs 0)).2.2 = 0
 rotate_left
 · rw [if_neg e] at h0; cases h0
 rw [if_pos e] at h0 h1
 have n0 := (next_three (ne := ne) (cs := cs) (i := passTo cs 0) h0).2.2
 have hj := nextF_end ne cs _ l0 e
 rw [n0] at h1
 have h1' : ttx (itemsF ne cs cs.length (passTo cs (runEnd inm cs (passTo cs 0)))) 0 = colT := h1
 obtain ⟨g, hg⟩ : ∃ g, cs.length = g + 1 := ⟨cs.length - 1, by omega⟩
 rw [hg, itemsF] at h1'
 have nc : ¬ ((⟨#[]⟩ : ByteArray) = colT) := by decide
 by_cases l1 : passTo cs (runEnd inm cs (passTo cs 0)) < cs.length
 rotate_left
 · rw [if_neg l1] at h1'; exact absurd h1' nc
 rw [if_pos l1] at h1'
 by_cases e1 : (nextF ne cs (passTo cs (runEnd inm cs (passTo cs 0)))).2.2 = 0
 rotate_left
 · rw [if_neg e1] at h1'; exact absurd h1' nc
 rw [if_pos e1] at h1'
 exact ⟨_, _, l0, n0, rfl, l1, (cut_col hok h1').2⟩
theorem lab_first {ne : ByteArray → Int} {cs : List Int} {e0 i1 : Nat} (h : Lab ne cs e0 i1) {m : Nat} (hm : m < i1) : ¬ cs.getD m 0 = 58 := by
 obtain ⟨l0, n0, p1, l1, c1⟩ := h
 intro e
 have t3 := next_three (ne := ne) (cs := cs) (i := passTo cs 0) (by rw [n0])
 have e3 : e0 = runEnd inm cs (passTo cs 0) := by
  have := t3.2.2
  rw [n0] at this
  exact (Prod.ext_iff.1 (Prod.ext_iff.1 this).2).1
 have q1 := pass_run (cs := cs) (i := e0) (by omega)
 have q0 := pass_run l0
 have hi : m < cs.length := by omega
 rcases Nat.lt_or_ge m (passTo cs 0) with a | a
 · have := runEnd_in2 (p := bl) (cs := cs) (i := 0) (by omega) (Nat.zero_le _) (by rw [← q0]; exact a)
   rw [e] at this
   revert this; decide
 rcases Nat.lt_or_ge m e0 with b | b
 · have := runEnd_in2 (p := inm) (cs := cs) (i := passTo cs 0) (by omega) a (by rw [← e3]; exact b)
   rw [e] at this
   revert this; decide
 · have := runEnd_in2 (p := bl) (cs := cs) (i := e0) (by omega) b (by rw [← q1, p1]; exact hm)
   rw [e] at this
   revert this; decide
theorem lab_down {ne : ByteArray → Int} {pre post : List Int} {e0 : Nat} (h : Lab ne (pre ++ 58 :: post) e0 pre.length) : Lab ne (pre ++ [58]) e0 pre.length := by
 have hs : Seg (pre ++ 58 :: post) (pre ++ [58]) 0 := by
  have := win_app [] (pre ++ [58]) post
  simpa using this
 obtain ⟨l0, n0, p1, l1, c1⟩ := h
 have hl : (pre ++ [58]).length = pre.length + 1 := by simp
 have hj := nextF_end ne _ _ l0 (by rw [n0])
 rw [n0] at hj
 simp only at hj
 have hp := passTo_le (cs := pre ++ 58 :: post) (i := e0) hj.2
 have q0 : passTo (pre ++ [58]) 0 = passTo (pre ++ 58 :: post) 0 := hs.pass (Nat.zero_le _) (by omega) (by simp)
 have hn := hs.next (ne := ne) (i := passTo (pre ++ 58 :: post) 0) (by omega) (by rw [Nat.zero_add, n0]) (by rw [Nat.zero_add, n0]; simp only; omega)
 rw [Nat.zero_add, n0] at hn
 refine ⟨by rw [q0]; omega, by rw [q0, hn]; rfl, hs.pass (by omega) (by omega) (by rw [Nat.zero_add, Nat.zero_add]; exact p1), by omega, ?_⟩
 rw [hs.get (by omega), Nat.zero_add]
 exact c1
theorem lab_up {ne : ByteArray → Int} {pre post : List Int} {e0 i1 : Nat} (h : Lab ne (pre ++ [58]) e0 i1) (hno : (58 : Int) ∉ pre) : i1 = pre.length ∧ Lab ne (pre ++ 58 :: post) e0 pre.length := by
 have hs : Seg (pre ++ 58 :: post) (pre ++ [58]) 0 := by
  have := win_app [] (pre ++ [58]) post
  simpa using this
 have hl : (pre ++ [58]).length = pre.length + 1 := by simp
 have hL : pre.length < (pre ++ 58 :: post).length := by simp
 have hc : (pre ++ 58 :: post).getD pre.length 0 = 58 := by simp [List.getD_eq_getElem?_getD]
 obtain ⟨l0, n0, p1, l1, c1⟩ := h
 have t3 := next_three (ne := ne) (cs := pre ++ [58]) (i := passTo (pre ++ [58]) 0) (by rw [n0])
 have e3 : e0 = runEnd inm (pre ++ [58]) (passTo (pre ++ [58]) 0) := by
  have := t3.2.2
  rw [n0] at this
  exact (Prod.ext_iff.1 (Prod.ext_iff.1 this).2).1
 have i1e : i1 = pre.length := by
  rcases Nat.lt_or_ge i1 pre.length with a | a
  · exfalso
    rw [List.getD_eq_getElem?_getD, List.getElem?_append_left a, List.getElem?_eq_getElem a] at c1
    exact hno (by rw [← c1]; exact List.getElem_mem a)
  · omega
 refine ⟨i1e, ?_⟩
 have hj := nextF_end ne _ _ l0 (by rw [n0])
 rw [n0] at hj
 simp only at hj
 have hp := passTo_le (cs := pre ++ [58]) (i := e0) hj.2
 have q0 : passTo (pre ++ 58 :: post) 0 = passTo (pre ++ [58]) 0 := by
  have := hs.pass2 (j := 0) (Nat.zero_le _) l0 rfl
  simpa using this
 have g0 := hs.get (k := passTo (pre ++ [58]) 0) l0
 rw [Nat.zero_add] at g0
 have hr : runEnd inm (pre ++ 58 :: post) (passTo (pre ++ [58]) 0) = e0 := by
  have h1 := run_le (p := inm) (cs := pre ++ 58 :: post) (i := passTo (pre ++ [58]) 0) (m := pre.length) (by omega) hL (by rw [hc]; decide)
  have h2 := hs.run (i := passTo (pre ++ [58]) 0) inm (by omega) (by rw [Nat.zero_add]; omega)
  rw [Nat.zero_add, Nat.zero_add, ← e3] at h2
  exact h2.symm
 refine ⟨by rw [q0]; omega, ?_, ?_, hL, hc⟩
 · rw [q0, next_name ne _ _ (by rw [← g0]; exact t3.1) (by rw [hr, e3]; exact t3.2.1), hr]
 · have := hs.pass2 (j := e0) (by omega) l1 p1
   rw [Nat.zero_add, Nat.zero_add, i1e] at this
   exact this
/-- The document's label: of a line whose first two tokens are a name and a colon. -/
def dlabF (T : List Tk) : ByteArray := if 2 < T.length ∧ tkd T 0 = 3 ∧ ttx T 1 = colT then ttx T 0 else noT
theorem lab_doc {ne : ByteArray → Int} {s : ByteArray} (h : (allF ne s).2.1 = 0) : (labF ne s).1 = dlabF (allF ne s).1 := by
 obtain ⟨h1, h2, h3, h4⟩ := allF_ok h
 have hok : ∀ c ∈ (scanR s s.size 0 []).1, okRune c := scanR_ok s _ 0 [] (fun c hc => by cases hc)
 have hb := text_is h2
 have hend := allF_end h
 rw [h3] at hend ⊢
 generalize (scanR s s.size 0 []).1 = cs at *
 have cond : dlabF (items ne cs) = if tkd (items ne cs) 0 = 3 ∧ ttx (items ne cs) 1 = colT then ttx (items ne cs) 0 else noT := by
  unfold dlabF
  by_cases hc : tkd (items ne cs) 0 = 3 ∧ ttx (items ne cs) 1 = colT
  · have a := hend.next (k := 0) hend.pos (Or.inl (by rw [hc.1]; decide))
    have b := hend.next (k := 1) a (Or.inr (by rw [hc.2]; decide))
    rw [if_pos ⟨b, hc⟩, if_pos hc]
  · rw [if_neg (fun x => hc x.2), if_neg hc]
 rw [cond]
 by_cases hm : (58 : Int) ∈ cs
 rotate_left
 · have hce : colEnd s = 0 := by
    unfold colEnd
    rw [indexByte_no (by rw [hb]; exact no_byte hok hm)]
    rfl
   rw [if_neg (fun hc => by
    obtain ⟨e0, i1, hL⟩ := items_lab hok hc.1 hc.2
    exact hm (by rw [← hL.c1, List.getD_eq_getElem?_getD, List.getElem?_eq_getElem hL.lt1]; exact List.getElem_mem hL.lt1))]
   unfold labF
   rw [hce, if_neg (fun hc => by
    rw [show s.extract 0 0 = (⟨#[]⟩ : ByteArray) from ByteArray.ext (by simp)] at hc
    rw [show (allF ne ⟨#[]⟩).1 = [(0, ⟨#[]⟩, 0, 0)] from by kernel_rfl] at hc
    simp at hc)]
 · obtain ⟨pre, post, rfl, hno⟩ := List.eq_append_cons_of_mem hm
   have okp : ∀ c ∈ pre, okRune c := fun c hc => hok c (by simp [hc])
   have okd : ∀ c ∈ pre ++ [58], okRune c := fun c hc => hok c (by
    rcases List.mem_append.1 hc with hc | hc
    · simp [hc]
    · rw [List.mem_singleton.1 hc]; simp)
   have hbp : s.data.toList = (runesBytes pre).data.toList ++ 58 :: (runesBytes post).data.toList := by
    rw [hb, runes_app2, runesBytes_cons]
    rfl
   have hbd : (runesBytes (pre ++ [58])).data.toList = (runesBytes pre).data.toList ++ [58] := by
    rw [runes_app2]
    rfl
   have hce : colEnd s = (runesBytes pre).data.toList.length + 1 := by
    unfold colEnd
    rw [hbp, indexByte_at (no_byte okp hno)]
    omega
   have hcut : s.extract 0 (colEnd s) = runesBytes (pre ++ [58]) := by
    refine bytes_ext ?_
    have e : (s.extract 0 (colEnd s)).data.toList = s.data.toList.take (colEnd s) := by
     rw [ByteArray.data_extract, Array.toList_extract]
     simp [List.extract_eq_take_drop]
    rw [e, hbd, hbp, hce, show ∀ l r : List UInt8, l ++ 58 :: r = (l ++ [58]) ++ r from fun l r => by simp, List.take_left' (by simp)]
   have hsz : (runesBytes (pre ++ [58])).size ≤ 1024 := by
    have : (runesBytes (pre ++ [58])).size = (runesBytes (pre ++ [58])).data.toList.length := by simp
    have hs2 : s.size = s.data.toList.length := by simp
    rw [hbp, List.length_append, List.length_cons] at hs2
    rw [this, hbd, List.length_append, List.length_singleton]
    omega
   have hall : allF ne (runesBytes (pre ++ [58])) = if (lastEr (items ne (pre ++ [58]))).1 = 0 then (items ne (pre ++ [58]), 0, 0) else ([], lastEr (items ne (pre ++ [58]))) := by
    unfold allF
    rw [if_neg (by omega), scan_back _ okd]
    simp
   have hs : Seg (pre ++ 58 :: post) (pre ++ [58]) 0 := by
    have := win_app [] (pre ++ [58]) post
    simpa using this
   by_cases hc : tkd (items ne (pre ++ 58 :: post)) 0 = 3 ∧ ttx (items ne (pre ++ 58 :: post)) 1 = colT
   · rw [if_pos hc]
     obtain ⟨e0, i1, hL⟩ := items_lab hok hc.1 hc.2
     have i1e : i1 = pre.length := by
      have f1 : ¬ pre.length < i1 := fun hlt => lab_first hL hlt (by simp [List.getD_eq_getElem?_getD])
      rcases Nat.lt_or_ge i1 pre.length with a | a
      · exfalso
        have c1 := hL.c1
        rw [List.getD_eq_getElem?_getD, List.getElem?_append_left a, List.getElem?_eq_getElem a] at c1
        exact hno (by rw [← c1]; exact List.getElem_mem a)
      · omega
     rw [i1e] at hL
     have hD := lab_down hL
     obtain ⟨g, hg, hgl⟩ := lab_items hL
     obtain ⟨g', hg', hgl'⟩ := lab_items hD
     have hl : (pre ++ [58]).length = pre.length + 1 := by simp
     have q : passTo (pre ++ [58]) (pre.length + 1) = (pre ++ [58]).length := by
      have := passTo_le (cs := pre ++ [58]) (i := pre.length + 1) (by omega)
      omega
     obtain ⟨g2, rfl⟩ : ∃ g2, g' = g2 + 1 := ⟨g' - 1, by omega⟩
     rw [q, itemsF, if_neg (by omega)] at hg'
     have hE : (lastEr (items ne (pre ++ [58]))).1 = 0 := by rw [hg']; rfl
     rw [if_pos hE] at hall
     have q0 : passTo (pre ++ [58]) 0 = passTo (pre ++ 58 :: post) 0 := by
      have hp := passTo_le (cs := pre ++ 58 :: post) (i := 0) (Nat.zero_le _)
      have := hs.pass2 (j := 0) (Nat.zero_le _) hD.lt0 rfl
      simpa using this.symm
     have hj := nextF_end ne _ _ hD.lt0 (by rw [hD.n0])
     rw [hD.n0] at hj
     have e1 : (allF ne (s.extract 0 (colEnd s))).1 = items ne (pre ++ [58]) := by rw [hcut, hall]
     unfold labF
     rw [e1, hg', if_pos ⟨rfl, rfl, (by
      show cutText (pre ++ [58]) pre.length (pre.length + 1) = colT
      unfold cutText
      rw [List.drop_left, col_is]
      simp)⟩, hg]
     show cutText (pre ++ [58]) _ e0 = cutText (pre ++ 58 :: post) _ e0
     rw [hs.cut hj.2, q0]
     simp
   · rw [if_neg hc]
     unfold labF
     rw [if_neg ?_]
     rw [hcut, hall]
     rintro ⟨b1, b2, b3⟩
     by_cases hE : (lastEr (items ne (pre ++ [58]))).1 = 0
     rotate_left
     · rw [if_neg hE] at b1; simp at b1
     rw [if_pos hE] at b2 b3
     obtain ⟨e0, i1, hL⟩ := items_lab okd b2 b3
     obtain ⟨_, hU⟩ := lab_up (post := post) hL hno
     obtain ⟨g, hg, hgl⟩ := lab_items hU
     refine hc ?_
     rw [hg]
     refine ⟨rfl, ?_⟩
     show cutText (pre ++ 58 :: post) pre.length (pre.length + 1) = colT
     unfold cutText
     rw [List.drop_left, col_is]
     simp
end Go.Proofs.YtflkclphchafaaaGreatDoor

/- The document's tokens: what glyphref04.All tells, as a row. -/
namespace Go.Proofs.YtflkclphchafaaaGreatDoor
set_option linter.unusedVariables false
set_option linter.unusedSimpArgs false
open Go.RowKit Go.Shelf

theorem refItemsF_no (ne : ByteArray → Int) (cs : List Int) : ∀ f i, ∀ x ∈ refItemsF ne cs f i, x.1 = 0 → x.2.1 = ⟨#[]⟩
 | 0, i, x, hx, _ => by rw [refItemsF] at hx; cases hx
 | f + 1, i, x, hx, h0 => by
  rw [refItemsF] at hx
  by_cases h1 : i < cs.length ∧ ¬ cs.getD i 0 = 9053
  · rw [if_pos h1] at hx
    by_cases hb : bl (cs.getD i 0) = true
    · rw [if_pos hb] at hx
      exact refItemsF_no ne cs f _ x hx h0
    rw [if_neg hb] at hx
    by_cases h2 : (nextF ne cs i).2.2 = 0
    · rw [if_pos h2] at hx
      rcases List.mem_cons.1 hx with rfl | hx
      · exact absurd h0 (kind_no ne cs i h2)
      · exact refItemsF_no ne cs f _ x hx h0
    · rw [if_neg h2] at hx
      rw [List.mem_singleton.1 hx]
  · rw [if_neg h1] at hx
    rw [List.mem_singleton.1 hx]
theorem noEnd_full {x : Tk} (h : ¬ (noEnd x).1 = 0) : noEnd x = x := by
 unfold noEnd at h ⊢
 by_cases hc : x.1 = 0 ∧ x.2.2.2 = 0
 · rw [if_pos hc] at h; exact absurd rfl h
 · rw [if_neg hc]
theorem noEnd_ink {x : Tk} (h : ¬ x.1 = 0) : noEnd x = x := by
 unfold noEnd
 rw [if_neg (fun hc => h hc.1)]
/-- The document's tokens are the program's, but for the place of the end. -/
theorem ref_row {ne : ByteArray → Int} {s : ByteArray} (h : (allF ne s).2.1 = 0) : RowT (allF ne s).1 ∧ (∀ x ∈ (allF ne s).1, ¬ x.1 = 0 → ¬ x.2.1 = noT) ∧ ∃ l p p', (allF ne s).1 = l ++ [(0, ⟨#[]⟩, p, 0)] ∧ (refAllF ne s).1 = l ++ [(0, ⟨#[]⟩, p', 0)] := by
 obtain ⟨h1, h2, h3, h4⟩ := allF_ok h
 have hr : (refAllF ne s).2.1 = 0 := by rw [← (allF_ref ne s).2]; exact h
 obtain ⟨r1, r2, r3, r4⟩ := refAllF_ok hr
 have hm := (allF_ref ne s).1
 have hok : ∀ c ∈ (scanR s s.size 0 []).1, okRune c := scanR_ok s _ 0 [] (fun c hc => by cases hc)
 rw [h3, r3] at hm ⊢
 have hp := passTo_le (cs := (scanR s s.size 0 []).1) (Nat.zero_le _)
 have hE := itemsF_er ne _ _ _ h4
 have hRow : RowT (items ne (scanR s s.size 0 []).1) := rowT_of hok _ _ hp.2 (by omega) hE
 have hFul : ∀ x ∈ items ne (scanR s s.size 0 []).1, ¬ x.1 = 0 → ¬ x.2.1 = noT := fun x hx hk => toks_full hok _ _ hp.2 x hx (hE x hx) hk
 have hRE : ∀ x ∈ refItems ne (scanR s s.size 0 []).1, x.2.2.2 = 0 := refItemsF_er ne _ _ _ r4
 have hRN : ∀ x ∈ refItems ne (scanR s s.size 0 []).1, x.1 = 0 → x.2.1 = ⟨#[]⟩ := refItemsF_no ne _ _ _
 refine ⟨hRow, hFul, ?_⟩
 obtain ⟨l, p, e, hl⟩ := hRow.ends
 rw [e] at hm ⊢
 generalize refItems ne (scanR s s.size 0 []).1 = B at *
 rw [List.map_append, List.map_singleton] at hm
 have hl2 : l.map noEnd = l := by
  have e : l.map noEnd = l.map id := List.map_congr_left (fun x hx => noEnd_ink (hl x hx))
  rw [e, List.map_id]
 rw [hl2] at hm
 have hne : B ≠ [] := fun e => by rw [e] at hm; simp at hm
 obtain ⟨B0, b, rfl⟩ : ∃ B0 b, B = B0 ++ [b] := ⟨B.dropLast, B.getLast hne, (List.dropLast_concat_getLast hne).symm⟩
 rw [List.map_append, List.map_singleton] at hm
 obtain ⟨m1, m2⟩ := List.append_inj' hm rfl
 have hB0 : B0 = l := by
  rw [m1]
  have : ∀ x ∈ B0, noEnd x = x := fun x hx => noEnd_full (hl _ (by rw [m1]; exact List.mem_map.2 ⟨x, hx, rfl⟩))
  have e : B0.map noEnd = B0.map id := List.map_congr_left this
  rw [e, List.map_id]
 have hb0 : b.1 = 0 := by
  have : noEnd b = noEnd (0, ⟨#[]⟩, p, 0) := by simpa using m2.symm
  rcases Classical.em (b.1 = 0) with h' | h'
  · exact h'
  · rw [noEnd_ink h'] at this
    rw [this]
    rfl
 have hbe := hRE b (by simp)
 have hbt := hRN b (by simp) hb0
 refine ⟨l, p, b.2.2.1, rfl, ?_⟩
 rw [hB0]
 congr 2
 obtain ⟨b1, b2, b3, b4⟩ := b
 simp only at hb0 hbe hbt ⊢
 rw [hb0, hbe, hbt]
theorem kd_end (l : List Tk) (p p' : Nat) : tkd (l ++ [(0, ⟨#[]⟩, p, 0)]) = tkd (l ++ [(0, ⟨#[]⟩, p', 0)]) := by
 funext k
 unfold tkd
 rcases Nat.lt_trichotomy k l.length with h | h | h
 · simp only [List.getD_eq_getElem?_getD, List.getElem?_append_left h]
 · subst h
   simp [List.getD_eq_getElem?_getD]
 · simp only [List.getD_eq_getElem?_getD]
   rw [List.getElem?_eq_none (by simp; omega), List.getElem?_eq_none (by simp; omega)]
theorem tx_end (l : List Tk) (p p' : Nat) : ttx (l ++ [(0, ⟨#[]⟩, p, 0)]) = ttx (l ++ [(0, ⟨#[]⟩, p', 0)]) := by
 funext k
 unfold ttx
 rcases Nat.lt_trichotomy k l.length with h | h | h
 · simp only [List.getD_eq_getElem?_getD, List.getElem?_append_left h]
 · subst h
   simp [List.getD_eq_getElem?_getD]
 · simp only [List.getD_eq_getElem?_getD]
   rw [List.getElem?_eq_none (by simp; omega), List.getElem?_eq_none (by simp; omega)]
theorem namF_same {T T' : List Tk} (h1 : tkd T = tkd T') (h2 : ttx T = ttx T') : ∀ f k, namF T f k = namF T' f k
 | 0, _ => rfl
 | f + 1, k => by rw [namF, namF, h1, h2, namF_same h1 h2 f]
theorem locF_same {T T' : List Tk} (h1 : tkd T = tkd T') (h2 : ttx T = ttx T') : ∀ f k, locF T f k = locF T' f k
 | 0, _ => rfl
 | f + 1, k => by rw [locF, locF, h1, h2, locF_same h1 h2 f]
theorem headF_same {T T' : List Tk} (h1 : tkd T = tkd T') (h2 : ttx T = ttx T') (h3 : T.length = T'.length) : headF T = headF T' := by
 have e1 : resK T = resK T' := by unfold resK; rw [h1, h2]
 have e2 : resT T = resT T' := by unfold resT; rw [h1, h2]
 have e3 : namesOfF T = namesOfF T' := by unfold namesOfF; rw [h3, e1, namF_same h1 h2]
 have e4 : localsOfF T = localsOfF T' := by unfold localsOfF; rw [h3, e1, e3, locF_same h1 h2]
 have e5 : endK T = endK T' := by unfold endK; rw [e1, e3, e4]
 unfold headF
 rw [e2, e3, e4, e5, h1]
theorem dlabF_same {T T' : List Tk} (h1 : tkd T = tkd T') (h2 : ttx T = ttx T') (h3 : T.length = T'.length) : dlabF T = dlabF T' := by
 unfold dlabF
 rw [h1, h2, h3]
theorem rowT_end {l : List Tk} {p p' : Nat} (h : RowT (l ++ [(0, ⟨#[]⟩, p, 0)])) : RowT (l ++ [(0, ⟨#[]⟩, p', 0)]) := by
 obtain ⟨⟨l2, p2, e, hl⟩, ha, hs⟩ := h
 obtain ⟨rfl, _⟩ := List.append_inj' e rfl
 refine ⟨⟨l, p', rfl, hl⟩, fun x hx hxa => ?_, fun x hx hxa => ?_⟩
 · rcases List.mem_append.1 hx with hx | hx
   · exact ha x (by simp [hx]) hxa
   · rw [List.mem_singleton.1 hx] at hxa
     exact absurd hxa (show ¬ ((⟨#[]⟩ : ByteArray) = _) by decide)
 · rcases List.mem_append.1 hx with hx | hx
   · exact hs x (by simp [hx]) hxa
   · rw [List.mem_singleton.1 hx] at hxa
     exact absurd hxa (show ¬ ((⟨#[]⟩ : ByteArray) = _) by decide)
/-- What is told of the document's tokens where there is no error. -/
theorem ref_facts {ne : ByteArray → Int} {s : ByteArray} (h : (allF ne s).2.1 = 0) : RowT (refAllF ne s).1 ∧ (∀ x ∈ (refAllF ne s).1, ¬ x.1 = 0 → ¬ x.2.1 = noT) ∧ headF (refAllF ne s).1 = headF (allF ne s).1 ∧ dlabF (refAllF ne s).1 = dlabF (allF ne s).1 := by
 obtain ⟨h1, h2, l, p, p', e1, e2⟩ := ref_row h
 rw [e1] at h1 h2 ⊢
 rw [e2]
 refine ⟨rowT_end h1, fun x hx hk => ?_, headF_same (kd_end l p' p) (tx_end l p' p) (by simp), dlabF_same (kd_end l p' p) (tx_end l p' p) (by simp)⟩
 rcases List.mem_append.1 hx with hx | hx
 · exact h2 x (by simp [hx]) hk
 · rw [List.mem_singleton.1 hx] at hk
   exact absurd rfl hk
theorem ref_few (ne : ByteArray → Int) (s : ByteArray) : (refAllF ne s).1.length ≤ 1025 := by
 have h := congrArg List.length (allF_ref ne s).1
 rw [List.length_map, List.length_map] at h
 rw [← h]
 exact allF_len ne s
theorem tokRR_of {w : World} {base g c : Nat} {toks : List TokG} {T : List Tk} (hrow : w.ownsRow base 73 5 (.slice (some ⟨g, 0, none⟩) toks.length c) toks.length (toks.flatMap TokG.cellsR)) (hg : g < w.heap.size) (ht : toks.map TokG.core = T) (hR : RowT T) (hF : ∀ x ∈ T, ¬ x.1 = 0 → ¬ x.2.1 = noT) (hl : T.length ≤ 1025) : TokRR w.heap.size w g T := by
 have hlen : T.length = toks.length := by rw [← ht, List.length_map]
 have hat : ∀ k (hk : k < toks.length), T.getD k (0, ⟨#[]⟩, 0, 0) = (toks[k]).core := fun k hk => by
  rw [← ht, List.getD_eq_getElem?_getD, List.getElem?_map, List.getElem?_eq_getElem hk]
  rfl
 refine ⟨hg, hR, hF, hl, fun k hk => ?_, fun k hk => ?_, fun k hk => ?_⟩
 · have hk' : k < toks.length := by omega
   have := hrow.cellAt (5 * k + 0) (by omega)
   rw [show k * 5 = 5 * k + 0 by omega, this, flat_getR hk' 0 (by omega)]
   unfold tkd
   rw [hat k hk']
   rfl
 · have hk' : k < toks.length := by omega
   have := hrow.cellAt (5 * k + 1) (by omega)
   rw [show k * 5 + 1 = 5 * k + 1 by omega, this, flat_getR hk' 1 (by omega)]
   unfold ttx
   rw [hat k hk']
   rfl
 · have hk' : k < toks.length := by omega
   have := hrow.cellAt (5 * k + 2) (by omega)
   rw [show k * 5 + 2 = 5 * k + 2 by omega, this, flat_getR hk' 2 (by omega)]
   unfold tpl
   rw [hat k hk']
   rfl
theorem refToks_any {w : World} {ne : ByteArray → Int} (hne : TellsErr ne) (s : ByteArray) (hs : s.size ≤ 9223372036854775807) (hT : Lib.Utf8Tabs 0 1 w) :
    Calls Tryz.prog 20 #[.string s] w (ToksIs w (allF ne s).2.1 (refAllF ne s).1) := by
 refine (refAll_any hne s hs hT).mono ?_
 rintro e w' ⟨v, toks, rfl, hrow, ht, hb⟩
 have e2 := (allF_ref ne s).2
 refine ⟨?_, hb⟩
 by_cases h0 : (allF ne s).2.1 = 0
 · left
   obtain ⟨f1, f2, _, _⟩ := ref_facts h0
   have hpos := f1.endT.pos
   have hlen : (refAllF ne s).1.length = toks.length := by rw [← ht, List.length_map]
   obtain ⟨av, cv, rfl⟩ := row_form2 hrow
   obtain ⟨g, rfl, hc1, hc2, hg⟩ := row_ptr hrow (by omega)
   have hat : (refAllF ne s).2.2 = 0 := by
    have hr : (refAllF ne s).2.1 = 0 := by rw [← e2]; exact h0
    unfold refAllF at hr ⊢
    by_cases a1 : 1024 < s.size
    · rw [if_pos a1]
    · rw [if_neg a1] at hr ⊢
      by_cases a2 : ¬ (scanR s s.size 0 []).2.1 = 0
      · rw [if_pos a2] at hr; exact absurd hr a2
      · rw [if_neg a2] at hr ⊢
        by_cases a3 : (lastEr (refItems ne (scanR s s.size 0 []).1)).1 = 0
        · rw [if_pos a3]
        · rw [if_neg a3] at hr; exact absurd hr a3
   have hgb : w.heap.size ≤ g := by
    obtain ⟨_, ⟨hv, _⟩ | ⟨g', cap, cur, hv, hg', _⟩⟩ := hrow
    · cases hv
    · cases hv; exact hg'
   refine ⟨h0, g, _, ?_, by rw [hlen]; exact hc1, hc2, hgb, tokRR_of hrow hg ht f1 f2 (ref_few ne s)⟩
   rw [hat, ← e2, h0, hlen]
   rfl
 · right
   refine ⟨h0, v, (((refAllF ne s).2.2 : Nat) : Int), ?_⟩
   rw [← e2]
/-- Where the second token stands. -/
theorem ref_place {ne : ByteArray → Int} {s : ByteArray} (h : (allF ne s).2.1 = 0) {k : Nat} (hk : ¬ tkd (refAllF ne s).1 k = 0) : tpl (refAllF ne s).1 k < (scanR s s.size 0 []).1.length := by
 have hr : (refAllF ne s).2.1 = 0 := by rw [← (allF_ref ne s).2]; exact h
 obtain ⟨r1, r2, r3, r4⟩ := refAllF_ok hr
 have hok : ∀ c ∈ (scanR s s.size 0 []).1, okRune c := scanR_ok s _ 0 [] (fun c hc => by cases hc)
 have hlen : (scanR s s.size 0 []).1.length ≤ 1024 := by
  have hb := congrArg List.length (text_is r2)
  have : (scanR s s.size 0 []).1.length ≤ (runesBytes (scanR s s.size 0 []).1).data.toList.length := by
   generalize (scanR s s.size 0 []).1 = cs at *
   clear r3 r4 hb hk
   induction cs with
   | nil => simp
   | cons c l ih =>
    rw [runesBytes_cons, List.length_append, List.length_cons]
    have := (enc_len c (hok c (by simp))).1
    have := ih (fun x hx => hok x (by simp [hx]))
    omega
  have hs2 : s.data.toList.length = s.size := by simp
  omega
 have hg := (refItems_good ne _ hok hlen _ 0 (Nat.zero_le _) (refItemsF_er ne _ _ _ r4)).1
 unfold tkd at hk
 unfold tpl
 rcases Nat.lt_or_ge k (refAllF ne s).1.length with hk' | hk'
 · have e : (refAllF ne s).1.getD k (0, ⟨#[]⟩, 0, 0) = (refAllF ne s).1[k] := by simp [List.getD, hk']
   rw [e] at hk ⊢
   have hm := List.getElem_mem hk'
   generalize (refAllF ne s).1[k] = x at *
   rw [r3] at hm
   exact (hg x hm).2.2 hk
 · rw [List.getD_eq_getElem?_getD, List.getElem?_eq_none hk'] at hk
   simp at hk
end Go.Proofs.YtflkclphchafaaaGreatDoor
