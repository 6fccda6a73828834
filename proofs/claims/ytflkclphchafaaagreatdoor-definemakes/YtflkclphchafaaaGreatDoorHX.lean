/- A row of names and signs written anew is read as the same row: the mathematics. -/
import Derived.Test.YtflkclphchafaaaGreatDoorDA
import Derived.Test.YtflkclphchafaaaGreatDoorLX
namespace Go.Proofs.YtflkclphchafaaaGreatDoor
set_option linter.unusedVariables false
set_option linter.unusedSimpArgs false
open Go.RowKit

/-- Characters in bytes. -/
def nb (l : List Int) : Nat := (runesBytes l).data.toList.length
/-- A row of tokens as it is written: a blank between two names. -/
def laid : Bool → List (Int × ByteArray) → List UInt8
 | _, [] => []
 | b, (k, x) :: r => (if b = true ∧ k = 3 then [32] else []) ++ (x.data.toList ++ laid (decide (k = 3)) r)
theorem next_three {ne : ByteArray → Int} {cs : List Int} {i : Nat} (h : (nextF ne cs i).1 = 3) : bn (cs.getD i 0) = true ∧ runEnd inm cs i - i ≤ 32 ∧ (nextF ne cs i) = (3, runEnd inm cs i, 0) := by
 unfold nextF at h ⊢
 by_cases h1 : cs.getD i 0 = 175 ∨ dg (cs.getD i 0) = true
 · rw [if_pos h1] at h; simp at h
 rw [if_neg h1] at h ⊢
 by_cases h2 : cs.getD i 0 = 39
 · rw [if_pos h2] at h
   split at h <;> simp at h
 rw [if_neg h2] at h ⊢
 by_cases h3 : bn (cs.getD i 0) = true
 · rw [if_pos h3] at h ⊢
   by_cases h4 : runEnd inm cs i - i ≤ 32
   · rw [if_pos h4]
     exact ⟨h3, h4, rfl⟩
   · rw [if_neg h4] at h; simp at h
 rw [if_neg h3] at h
 by_cases h5 : cs.getD i 0 = 9109
 · rw [if_pos h5] at h; simp at h
 rw [if_neg h5] at h
 by_cases h6 : cs.getD i 0 ∈ decs prims prims.size 0
 · rw [if_pos h6] at h; simp at h
 rw [if_neg h6] at h
 by_cases h7 : cs.getD i 0 ∈ decs sgns sgns.size 0
 · rw [if_pos h7] at h; simp at h
 rw [if_neg h7] at h; simp at h
theorem bn_no {c : Int} (h : bn c = true) : ¬ (c = 175 ∨ dg c = true) ∧ ¬ c = 39 ∧ bl c = false ∧ ¬ c = 9053 := by
 simp [bn, lt, dg, bl] at h ⊢
 omega
theorem next_name (ne : ByteArray → Int) (cs : List Int) (i : Nat) (h : bn (cs.getD i 0) = true) (h2 : runEnd inm cs i - i ≤ 32) : nextF ne cs i = (3, runEnd inm cs i, 0) := by
 obtain ⟨a, b, _⟩ := bn_no h
 unfold nextF
 rw [if_neg a, if_neg b, if_pos h, if_pos h2]
theorem next_arw (ne : ByteArray → Int) (cs : List Int) (i : Nat) (h : cs.getD i 0 = 8592) : nextF ne cs i = (6, i + 1, 0) := by
 unfold nextF
 rw [h, if_neg (by decide), if_neg (by decide), if_neg (by decide), if_neg (by decide), if_neg (by decide +kernel), if_pos (by decide +kernel)]
theorem next_sem (ne : ByteArray → Int) (cs : List Int) (i : Nat) (h : cs.getD i 0 = 59) : nextF ne cs i = (6, i + 1, 0) := by
 unfold nextF
 rw [h, if_neg (by decide), if_neg (by decide), if_neg (by decide), if_neg (by decide), if_neg (by decide +kernel), if_pos (by decide +kernel)]
end Go.Proofs.YtflkclphchafaaaGreatDoor

/- What a header says, written anew, is the same header: the mathematics. -/
namespace Go.Proofs.YtflkclphchafaaaGreatDoor
set_option linter.unusedVariables false
set_option linter.unusedSimpArgs false
open Go.RowKit

theorem arw_scan : (scanR arwT arwT.size 0 []).1 = [8592] := by decide +kernel
theorem sem_scan : (scanR semT semT.size 0 []).1 = [59] := by decide +kernel
theorem cut_ok {cs : List Int} (hok : ∀ c ∈ cs, okRune c) {i j : Nat} : ∀ c ∈ (cs.drop i).take (j - i), okRune c := fun c hc => hok c (List.mem_of_mem_drop (List.mem_of_mem_take hc))
theorem cut_first {cs : List Int} {i j : Nat} {c : Int} (h : (cs.drop i).take (j - i) = [c]) : cs.getD i 0 = c := by
 cases hd : cs.drop i with
 | nil => rw [hd] at h; simp at h
 | cons a l =>
  rw [hd] at h
  have hi : i < cs.length := by
   have := congrArg List.length hd
   rw [List.length_drop, List.length_cons] at this
   omega
  rw [List.drop_eq_getElem_cons hi] at hd
  cases hn : j - i with
  | zero => rw [hn] at h; simp at h
  | succ n =>
   rw [hn, List.take_succ_cons] at h
   have e1 := (List.cons.inj h).1
   have e2 := (List.cons.inj hd).1
   rw [← e1, ← e2]
   simp [List.getD, hi]
theorem cut_arw {ne : ByteArray → Int} {cs : List Int} (hok : ∀ c ∈ cs, okRune c) {i j : Nat} (h : cutText cs i j = arwT) : (nextF ne cs i).1 = 6 ∧ (cs.drop i).take (j - i) = [8592] := by
 have hs := scan_back _ (cut_ok hok (i := i) (j := j))
 unfold cutText at h
 rw [h] at hs
 have e : (cs.drop i).take (j - i) = [8592] := by rw [← arw_scan, hs]
 exact ⟨by rw [next_arw ne cs i (cut_first e)], e⟩
theorem cut_sem {ne : ByteArray → Int} {cs : List Int} (hok : ∀ c ∈ cs, okRune c) {i j : Nat} (h : cutText cs i j = semT) : (nextF ne cs i).1 = 6 ∧ (cs.drop i).take (j - i) = [59] := by
 have hs := scan_back _ (cut_ok hok (i := i) (j := j))
 unfold cutText at h
 rw [h] at hs
 have e : (cs.drop i).take (j - i) = [59] := by rw [← sem_scan, hs]
 exact ⟨by rw [next_sem ne cs i (cut_first e)], e⟩
/-- A row of tokens as all gives it: ends with the end, no end before, signs are signs. -/
structure RowT (T : List Tk) : Prop where
 ends : ∃ l p, T = l ++ [(0, ⟨#[]⟩, p, 0)] ∧ ∀ x ∈ l, ¬ x.1 = 0
 arw : ∀ x ∈ T, x.2.1 = arwT → x.1 = 6
 sem : ∀ x ∈ T, x.2.1 = semT → x.1 = 6
theorem rowT_of {ne : ByteArray → Int} {cs : List Int} (hok : ∀ c ∈ cs, okRune c) : ∀ f i, i ≤ cs.length → cs.length < i + f → (∀ x ∈ itemsF ne cs f i, x.2.2.2 = 0) → RowT (itemsF ne cs f i)
 | 0, i, h1, h2, _ => by omega
 | f + 1, i, h1, h2, he => by
  rw [itemsF] at he ⊢
  by_cases hi : i < cs.length
  · rw [if_pos hi] at he ⊢
    by_cases h0 : (nextF ne cs i).2.2 = 0
    · rw [if_pos h0] at he ⊢
      have hn := nextF_end ne cs i hi h0
      have hp := passTo_le (cs := cs) (i := (nextF ne cs i).2.1) hn.2
      obtain ⟨⟨l, p, e, hl⟩, ha, hs⟩ := rowT_of hok f _ hp.2 (by omega) (fun x hx => he x (List.mem_cons_of_mem _ hx))
      refine ⟨⟨_ :: l, p, by rw [e]; rfl, fun x hx => ?_⟩, fun x hx hx2 => ?_, fun x hx hx2 => ?_⟩
      · rcases List.mem_cons.1 hx with rfl | hx
        · exact kind_no ne cs i h0
        · exact hl x hx
      · rcases List.mem_cons.1 hx with rfl | hx
        · exact (cut_arw hok hx2).1
        · exact ha x hx hx2
      · rcases List.mem_cons.1 hx with rfl | hx
        · exact (cut_sem hok hx2).1
        · exact hs x hx hx2
    · rw [if_neg h0] at he
      exact absurd (he _ (List.mem_singleton.2 rfl)) h0
  · rw [if_neg hi]
    refine ⟨⟨[], i, rfl, by simp⟩, fun x hx hx2 => ?_, fun x hx hx2 => ?_⟩
    · rw [List.mem_singleton.1 hx] at hx2
      exact absurd (show noT = arwT from hx2) (by decide)
    · rw [List.mem_singleton.1 hx] at hx2
      exact absurd (show noT = semT from hx2) (by decide)
theorem RowT.endT {T : List Tk} (h : RowT T) : EndT T := by
 obtain ⟨l, p, e, _⟩ := h.ends
 exact ⟨l, p, e⟩
theorem tk_at {T : List Tk} {k : Nat} (h : k < T.length) : T[k].1 = tkd T k ∧ T[k].2.1 = ttx T k := by
 unfold tkd ttx
 simp [List.getD, h]
theorem tkd_far {T : List Tk} {k : Nat} (h : T.length ≤ k) : tkd T k = 0 ∧ ttx T k = noT := by
 unfold tkd ttx
 rw [List.getD_eq_getElem?_getD, List.getElem?_eq_none h]
 exact ⟨rfl, rfl⟩
theorem drop_kt {T : List Tk} {k : Nat} (h : k < T.length) : (T.drop k).map kt = (tkd T k, ttx T k) :: (T.drop (k + 1)).map kt := by
 rw [List.drop_eq_getElem_cons h, List.map_cons]
 unfold kt
 rw [(tk_at h).1, (tk_at h).2]
theorem RowT.less {T : List Tk} (h : RowT T) {k : Nat} (hk : ¬ tkd T k = 0 ∨ ¬ ttx T k = noT) : k < T.length ∧ k + 1 < T.length := by
 have h1 : k < T.length := by
  rcases Nat.lt_or_ge k T.length with g | g
  · exact g
  · have := tkd_far g
    rcases hk with hk | hk
    · exact absurd this.1 hk
    · exact absurd this.2 hk
 exact ⟨h1, h.endT.next h1 hk⟩
theorem RowT.six {T : List Tk} (h : RowT T) {k : Nat} (hk : ttx T k = arwT ∨ ttx T k = semT) : tkd T k = 6 := by
 have hl := (h.less (k := k) (Or.inr (by rcases hk with e | e <;> rw [e] <;> decide))).1
 have ha := tk_at hl
 rw [← ha.1]
 rcases hk with e | e
 · exact h.arw _ (List.getElem_mem hl) (by rw [ha.2, e])
 · exact h.sem _ (List.getElem_mem hl) (by rw [ha.2, e])
theorem RowT.names {T : List Tk} (h : RowT T) : ∀ f k, k < T.length → (T.drop k).map kt = (namF T f k).map (fun x => (3, x)) ++ (T.drop (k + (namF T f k).length)).map kt ∧ k + (namF T f k).length < T.length
 | 0, k, hk => by simp [namF, hk]
 | f + 1, k, hk => by
  rw [namF]
  by_cases h3 : tkd T k = 3
  · rw [if_pos h3]
    have hl := h.less (k := k) (Or.inl (by omega))
    obtain ⟨a, b⟩ := h.names f (k + 1) hl.2
    rw [drop_kt hk, a, h3, List.length_cons, show k + ((namF T f (k + 1)).length + 1) = k + 1 + (namF T f (k + 1)).length by omega]
    exact ⟨rfl, b⟩
  · rw [if_neg h3]
    exact ⟨by simp, by simpa using hk⟩
end Go.Proofs.YtflkclphchafaaaGreatDoor
