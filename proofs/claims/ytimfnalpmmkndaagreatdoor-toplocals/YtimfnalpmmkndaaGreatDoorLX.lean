/- A row of characters within a longer one: the tokens there are the same. -/
import Derived.Test.YtimfnalpmmkndaaGreatDoorLC
namespace Go.Proofs.YtimfnalpmmkndaaGreatDoor
set_option linter.unusedVariables false
set_option linter.unusedSimpArgs false
open Go.RowKit

theorem runEnd_in2 {p : Int → Bool} {cs : List Int} {i : Nat} (hi : i ≤ cs.length) {m : Nat} (h1 : i ≤ m) (h2 : m < runEnd p cs i) : p (cs.getD m 0) = true := by
 have hle := runEnd_le p cs i hi
 unfold runEnd at h2
 have hm : m - i < ((cs.drop i).takeWhile p).length := by omega
 have h3 : p ((cs.drop i).takeWhile p)[m - i] = true := List.all_eq_true.1 List.all_takeWhile _ (List.getElem_mem hm)
 have hml : m < cs.length := by
  have h5 := (List.takeWhile_sublist p (l := cs.drop i)).length_le
  rw [List.length_drop] at h5
  omega
 have h4 : ((cs.drop i).takeWhile p)[m - i] = cs.getD m 0 := by
  have e1 := (List.takeWhile_prefix p (l := cs.drop i)).getElem hm
  have e2 : cs.getD m 0 = cs[m] := by rw [List.getD_eq_getElem?_getD, List.getElem?_eq_getElem hml]; rfl
  rw [e1, List.getElem_drop, e2]
  simp only [show i + (m - i) = m by omega]
 rw [h4] at h3
 exact h3
theorem runEnd_step2 {p : Int → Bool} {cs : List Int} {i : Nat} (hi : i < cs.length) (h : p (cs.getD i 0) = true) : runEnd p cs i = runEnd p cs (i + 1) := by
 have e : cs.getD i 0 = cs[i] := by simp [List.getD, hi]
 rw [e] at h
 unfold runEnd
 rw [List.drop_eq_getElem_cons hi, List.takeWhile_cons, if_pos h, List.length_cons]
 omega
theorem runEnd_stop2 {p : Int → Bool} {cs : List Int} {i : Nat} (hi : i < cs.length) (h : p (cs.getD i 0) = false) : runEnd p cs i = i := by
 have e : cs.getD i 0 = cs[i] := by simp [List.getD, hi]
 rw [e] at h
 unfold runEnd
 rw [List.drop_eq_getElem_cons hi, List.takeWhile_cons, if_neg (by rw [h]; simp)]
 simp
theorem runEnd_out {p : Int → Bool} {cs : List Int} : ∀ (n i : Nat), cs.length - i ≤ n → i ≤ cs.length → runEnd p cs i < cs.length → p (cs.getD (runEnd p cs i) 0) = false
 | 0, i, hn, hi, h => by
  have := runEnd_le p cs i hi
  omega
 | n + 1, i, hn, hi, h => by
  by_cases hil : i < cs.length
  · by_cases hp : p (cs.getD i 0) = true
    · rw [runEnd_step2 hil hp] at h ⊢
      exact runEnd_out n (i + 1) (by omega) (by omega) h
    · have hp' : p (cs.getD i 0) = false := by simpa using hp
      rw [runEnd_stop2 hil hp']
      exact hp'
  · have := runEnd_le p cs i hi
    omega
/-- ds stands in cs from a on. -/
structure Seg (cs ds : List Int) (a : Nat) : Prop where
 le : a + ds.length ≤ cs.length
 eq : (cs.drop a).take ds.length = ds
theorem Seg.get {cs ds : List Int} {a k : Nat} (h : Seg cs ds a) (hk : k < ds.length) : ds.getD k 0 = cs.getD (a + k) 0 := by
 have e := congrArg (fun l => l.getD k 0) h.eq
 simp only [List.getD_eq_getElem?_getD, List.getElem?_take, List.getElem?_drop, if_pos hk] at e
 rw [List.getD_eq_getElem?_getD, List.getD_eq_getElem?_getD]
 exact e.symm
theorem Seg.cut {cs ds : List Int} {a i j : Nat} (h : Seg cs ds a) (hj : j ≤ ds.length) : cutText ds i j = cutText cs (a + i) (a + j) := by
 have e : (ds.drop i).take (j - i) = (cs.drop (a + i)).take (a + j - (a + i)) := by
  have h1 : ds.drop i = ((cs.drop a).take ds.length).drop i := by rw [h.eq]
  rw [h1, List.drop_take, List.take_take, List.drop_drop, show min (j - i) (ds.length - i) = j - i by omega, show a + j - (a + i) = j - i by omega]
 unfold cutText
 rw [e]
theorem Seg.run {cs ds : List Int} {a i : Nat} (h : Seg cs ds a) (p : Int → Bool) (hi : i ≤ ds.length) (hr : runEnd p cs (a + i) ≤ a + ds.length) : a + runEnd p ds i = runEnd p cs (a + i) := by
 have hle := h.le
 have h1 := runEnd_le p cs (a + i) (by omega)
 have h2 : runEnd p ds i = runEnd p cs (a + i) - a := by
  refine runEnd_is (by omega) (by omega) (fun k k1 k2 => ?_) ?_
  · rw [h.get (by omega)]
    exact runEnd_in2 (i := a + i) (by omega) (by omega) (by omega)
  · by_cases e : runEnd p cs (a + i) - a = ds.length
    · exact Or.inl e
    · right
      rw [h.get (by omega), show a + (runEnd p cs (a + i) - a) = runEnd p cs (a + i) by omega]
      exact runEnd_out _ _ (Nat.le_refl _) (by omega) (by omega)
 omega
theorem Seg.far {cs ds : List Int} {a i : Nat} (h : Seg cs ds a) (p : Int → Bool) (hi : i ≤ ds.length) (hb : a + ds.length = cs.length ∨ p (cs.getD (a + ds.length) 0) = false) : runEnd p cs (a + i) ≤ a + ds.length := by
 have hle := h.le
 have h1 := runEnd_le p cs (a + i) (by omega)
 rcases hb with hb | hb
 · omega
 · refine Nat.not_lt.1 (fun hlt => ?_)
   have := runEnd_in2 (p := p) (cs := cs) (i := a + i) (by omega) (m := a + ds.length) (by omega) hlt
   rw [hb] at this
   cases this
theorem Seg.q {cs ds : List Int} {a : Nat} (h : Seg cs ds a) : ∀ (f i g : Nat) (acc t : List Int) (e : Nat), qscan cs f (a + i) acc = some (t, e) → e ≤ a + ds.length → ds.length ≤ i + g → qscan ds g i acc = some (t, e - a)
 | 0, i, g, acc, t, e, hq, _, _ => by simp [qscan] at hq
 | f + 1, i, g, acc, t, e, hq, he, hg => by
  have hle := h.le
  have hend := qscan_end cs _ _ _ _ hq
  simp only at hend
  obtain ⟨g, rfl⟩ : ∃ k, g = k + 1 := ⟨g - 1, by omega⟩
  rw [qscan, if_pos (by omega)] at hq
  rw [qscan, if_pos (by omega), h.get (by omega)]
  by_cases h2 : cs.getD (a + i) 0 = 39
  · rw [if_pos h2] at hq ⊢
    by_cases h3 : a + i + 1 = cs.length ∨ ¬ cs.getD (a + i + 1) 0 = 39
    · rw [if_pos h3] at hq
      cases hq
      rw [if_pos, show a + i + 1 - a = i + 1 by omega]
      by_cases h4 : i + 1 = ds.length
      · exact Or.inl h4
      · right
        rw [h.get (by omega), show a + (i + 1) = a + i + 1 by omega]
        rcases h3 with h3 | h3
        · omega
        · exact h3
    · rw [if_neg h3] at hq
      have hend2 := qscan_end cs _ _ _ _ hq
      simp only at hend2
      rw [if_neg]
      · exact Seg.q h f (i + 2) g _ t e (by rw [show a + (i + 2) = a + i + 2 by omega]; exact hq) he (by omega)
      · rintro (h4 | h4)
        · omega
        · rw [h.get (by omega), show a + (i + 1) = a + i + 1 by omega] at h4
          exact h3 (Or.inr h4)
  · rw [if_neg h2] at hq ⊢
    exact Seg.q h f (i + 1) g _ t e (by rw [show a + (i + 1) = a + i + 1 by omega]; exact hq) he (by omega)
theorem Seg.q2 {cs ds : List Int} {a : Nat} (h : Seg cs ds a) (hb : a + ds.length = cs.length ∨ ¬ cs.getD (a + ds.length) 0 = 39) : ∀ (f i g : Nat) (acc t : List Int) (e : Nat), qscan ds f i acc = some (t, e) → cs.length ≤ a + i + g → qscan cs g (a + i) acc = some (t, a + e)
 | 0, i, g, acc, t, e, hq, _ => by simp [qscan] at hq
 | f + 1, i, g, acc, t, e, hq, hg => by
  have hle := h.le
  have hend := qscan_end ds _ _ _ _ hq
  simp only at hend
  obtain ⟨g, rfl⟩ : ∃ k, g = k + 1 := ⟨g - 1, by omega⟩
  rw [qscan, if_pos (by omega), h.get (by omega)] at hq
  rw [qscan, if_pos (by omega)]
  by_cases h2 : cs.getD (a + i) 0 = 39
  · rw [if_pos h2] at hq ⊢
    by_cases h3 : i + 1 = ds.length ∨ ¬ ds.getD (i + 1) 0 = 39
    · rw [if_pos h3] at hq
      cases hq
      rw [if_pos, show a + i + 1 = a + (i + 1) by omega]
      rcases h3 with h3 | h3
      · rcases hb with hb | hb
        · left; omega
        · right
          rw [show a + i + 1 = a + ds.length by omega]
          exact hb
      · by_cases h4 : i + 1 = ds.length
        · rcases hb with hb | hb
          · left; omega
          · right
            rw [show a + i + 1 = a + ds.length by omega]
            exact hb
        · right
          rw [h.get (by omega)] at h3
          rw [show a + i + 1 = a + (i + 1) by omega]
          exact h3
    · rw [if_neg h3] at hq
      have hend2 := qscan_end ds _ _ _ _ hq
      simp only at hend2
      rw [if_neg]
      · have := Seg.q2 h hb f (i + 2) g _ t e hq (by omega)
        rw [show a + (i + 2) = a + i + 2 by omega] at this
        exact this
      · rintro (h4 | h4)
        · omega
        · rw [show a + i + 1 = a + (i + 1) by omega, ← h.get (by omega)] at h4
          exact h3 (Or.inr h4)
  · rw [if_neg h2] at hq ⊢
    have := Seg.q2 h hb f (i + 1) g _ t e hq (by omega)
    rw [show a + (i + 1) = a + i + 1 by omega] at this
    exact this
theorem Seg.next {ne : ByteArray → Int} {cs ds : List Int} {a i : Nat} (h : Seg cs ds a) (hi : i < ds.length) (h0 : (nextF ne cs (a + i)).2.2 = 0) (he : (nextF ne cs (a + i)).2.1 ≤ a + ds.length) : nextF ne ds i = ((nextF ne cs (a + i)).1, (nextF ne cs (a + i)).2.1 - a, 0) := by
 have hle := h.le
 have hg := h.get hi
 unfold nextF at h0 he ⊢
 rw [hg]
 by_cases h1 : cs.getD (a + i) 0 = 175 ∨ dg (cs.getD (a + i) 0) = true
 · rw [if_pos h1] at h0 he ⊢
   rw [if_pos h1]
   simp only at h0 he ⊢
   have hr := h.run (i := i + 1) inn (by omega) (by rw [show a + (i + 1) = a + i + 1 by omega]; exact he)
   rw [show a + (i + 1) = a + i + 1 by omega] at hr
   have hl := runEnd_le inn ds (i + 1) (by omega)
   rw [h.cut hl.2, hr, h0, show runEnd inn ds (i + 1) = runEnd inn cs (a + i + 1) - a by omega]
 rw [if_neg h1] at h0 he ⊢
 rw [if_neg h1]
 by_cases h2 : cs.getD (a + i) 0 = 39
 · rw [if_pos h2] at h0 he ⊢
   rw [if_pos h2]
   cases hq : qscan cs cs.length (a + i + 1) [] with
   | none => rw [hq] at h0; simp at h0
   | some p =>
    rw [hq] at he
    simp only at he
    rw [h.q _ (i + 1) ds.length [] p.1 p.2 (by rw [show a + (i + 1) = a + i + 1 by omega]; exact hq) he (by omega)]
 rw [if_neg h2] at h0 he ⊢
 rw [if_neg h2]
 by_cases h3 : bn (cs.getD (a + i) 0) = true
 · rw [if_pos h3] at h0 he ⊢
   rw [if_pos h3]
   by_cases h4 : runEnd inm cs (a + i) - (a + i) ≤ 32
   · rw [if_pos h4] at h0 he ⊢
     simp only at he
     have hr := h.run inm (Nat.le_of_lt hi) he
     rw [if_pos (by omega), show runEnd inm ds i = runEnd inm cs (a + i) - a by omega]
   · rw [if_neg h4] at h0; simp at h0
 rw [if_neg h3] at h0 he ⊢
 rw [if_neg h3]
 by_cases h4 : cs.getD (a + i) 0 = 9109
 · rw [if_pos h4] at h0 he ⊢
   rw [if_pos h4]
   simp only at he ⊢
   have hr := h.run (i := i + 1) lt (by omega) (by rw [show a + (i + 1) = a + i + 1 by omega]; exact he)
   rw [show a + (i + 1) = a + i + 1 by omega] at hr
   rw [show runEnd lt ds (i + 1) = runEnd lt cs (a + i + 1) - a by omega]
 rw [if_neg h4] at h0 he ⊢
 rw [if_neg h4]
 by_cases h5 : cs.getD (a + i) 0 ∈ decs prims prims.size 0
 · rw [if_pos h5, if_pos h5]
   simp only
   rw [show a + i + 1 - a = i + 1 by omega]
 rw [if_neg h5] at h0 he ⊢
 rw [if_neg h5]
 by_cases h6 : cs.getD (a + i) 0 ∈ decs sgns sgns.size 0
 · rw [if_pos h6, if_pos h6]
   simp only
   rw [show a + i + 1 - a = i + 1 by omega]
 rw [if_neg h6] at h0; simp at h0
/-- What stands behind: nothing, or a diamond. -/
def Bound (cs ds : List Int) (a : Nat) : Prop := a + ds.length = cs.length ∨ cs.getD (a + ds.length) 0 = 8900
theorem Bound.no {cs ds : List Int} {a : Nat} (h : Bound cs ds a) {p : Int → Bool} (hp : p 8900 = false) : a + ds.length = cs.length ∨ p (cs.getD (a + ds.length) 0) = false := by
 rcases h with h | h
 · exact Or.inl h
 · right; rw [h]; exact hp
theorem Seg.next2 {ne : ByteArray → Int} {cs ds : List Int} {a i : Nat} (h : Seg cs ds a) (hb : Bound cs ds a) (hi : i < ds.length) (h0 : (nextF ne ds i).2.2 = 0) : nextF ne cs (a + i) = ((nextF ne ds i).1, a + (nextF ne ds i).2.1, 0) := by
 have hle := h.le
 have hg := h.get hi
 unfold nextF at h0 ⊢
 rw [hg] at h0 ⊢
 by_cases h1 : cs.getD (a + i) 0 = 175 ∨ dg (cs.getD (a + i) 0) = true
 · rw [if_pos h1] at h0 ⊢
   rw [if_pos h1]
   simp only at h0 ⊢
   have hr := h.run (i := i + 1) inn (by omega) (h.far (i := i + 1) inn (by omega) (hb.no (by decide)))
   rw [show a + (i + 1) = a + i + 1 by omega] at hr
   have hl := runEnd_le inn ds (i + 1) (by omega)
   rw [h.cut hl.2, hr] at h0
   rw [h0, hr]
 rw [if_neg h1] at h0 ⊢
 rw [if_neg h1]
 by_cases h2 : cs.getD (a + i) 0 = 39
 · rw [if_pos h2] at h0 ⊢
   rw [if_pos h2]
   cases hq : qscan ds ds.length (i + 1) [] with
   | none => rw [hq] at h0; simp at h0
   | some p =>
    have := h.q2 (by rcases hb with hb | hb; exact Or.inl hb; right; rw [hb]; decide) _ (i + 1) cs.length [] p.1 p.2 hq (by omega)
    rw [show a + (i + 1) = a + i + 1 by omega] at this
    rw [this]
 rw [if_neg h2] at h0 ⊢
 rw [if_neg h2]
 by_cases h3 : bn (cs.getD (a + i) 0) = true
 · rw [if_pos h3] at h0 ⊢
   rw [if_pos h3]
   have hr := h.run inm (Nat.le_of_lt hi) (h.far inm (Nat.le_of_lt hi) (hb.no (by decide)))
   by_cases h4 : runEnd inm ds i - i ≤ 32
   · rw [if_pos h4, if_pos (by omega), hr]
   · rw [if_neg h4] at h0; simp at h0
 rw [if_neg h3] at h0 ⊢
 rw [if_neg h3]
 by_cases h4 : cs.getD (a + i) 0 = 9109
 · rw [if_pos h4, if_pos h4]
   simp only
   have hr := h.run (i := i + 1) lt (by omega) (h.far (i := i + 1) lt (by omega) (hb.no (by decide)))
   rw [show a + (i + 1) = a + i + 1 by omega] at hr
   rw [hr]
 rw [if_neg h4] at h0 ⊢
 rw [if_neg h4]
 by_cases h5 : cs.getD (a + i) 0 ∈ decs prims prims.size 0
 · rw [if_pos h5, if_pos h5]
   simp only
   rw [show a + i + 1 = a + (i + 1) by omega]
 rw [if_neg h5] at h0 ⊢
 rw [if_neg h5]
 by_cases h6 : cs.getD (a + i) 0 ∈ decs sgns sgns.size 0
 · rw [if_pos h6, if_pos h6]
   simp only
   rw [show a + i + 1 = a + (i + 1) by omega]
 rw [if_neg h6] at h0; simp at h0
theorem Seg.pass {cs ds : List Int} {a j k : Nat} (h : Seg cs ds a) (hj : j ≤ ds.length) (hk : k < ds.length) (hp : passTo cs (a + j) = a + k) : passTo ds j = k := by
 have hle := h.le
 unfold passTo at hp
 by_cases hx : runEnd bl cs (a + j) < cs.length ∧ cs.getD (runEnd bl cs (a + j)) 0 = 9053
 · rw [if_pos hx] at hp; omega
 rw [if_neg hx] at hp
 have hr := h.run bl hj (by omega)
 have e : runEnd bl ds j = k := by omega
 unfold passTo
 rw [e, if_neg]
 rintro ⟨_, h2⟩
 rw [h.get hk, ← hp] at h2
 exact hx ⟨by omega, h2⟩
theorem Seg.pass2 {cs ds : List Int} {a j k : Nat} (h : Seg cs ds a) (hj : j ≤ ds.length) (hk : k < ds.length) (hp : passTo ds j = k) : passTo cs (a + j) = a + k := by
 have hle := h.le
 unfold passTo at hp
 by_cases hx : runEnd bl ds j < ds.length ∧ ds.getD (runEnd bl ds j) 0 = 9053
 · rw [if_pos hx] at hp; omega
 rw [if_neg hx] at hp
 have hjk := runEnd_le bl ds j hj
 have e : runEnd bl cs (a + j) = a + k := by
  refine runEnd_is (by omega) (by omega) (fun m m1 m2 => ?_) (Or.inr ?_)
  · have := runEnd_in2 (p := bl) (cs := ds) (i := j) hj (m := m - a) (by omega) (by omega)
    rw [h.get (by omega), show a + (m - a) = m by omega] at this
    exact this
  · have := runEnd_out (p := bl) (cs := ds) _ j (Nat.le_refl _) hj (by omega)
    rw [hp, h.get hk] at this
    exact this
 unfold passTo
 rw [e, if_neg]
 rintro ⟨_, h2⟩
 rw [← h.get hk, ← hp] at h2
 exact hx ⟨by omega, h2⟩
theorem pass_stop {cs : List Int} {i : Nat} (hi : i < cs.length) (hb : bl (cs.getD i 0) = false) (h9 : ¬ cs.getD i 0 = 9053) : passTo cs i = i := by
 unfold passTo
 rw [runEnd_stop2 hi hb, if_neg (fun h => h9 h.2)]
end Go.Proofs.YtimfnalpmmkndaaGreatDoor

/- Tokens that stand one behind the other, and what diamonds cut. -/
namespace Go.Proofs.YtimfnalpmmkndaaGreatDoor
set_option linter.unusedVariables false
set_option linter.unusedSimpArgs false
open Go.RowKit

/-- Tokens from i on, the last one up to b. -/
def Chain (ne : ByteArray → Int) (cs : List Int) : Nat → List (Int × ByteArray × Nat × Int) → Nat → Prop
 | _, [], _ => False
 | i, t :: r, b => i < cs.length ∧ bl (cs.getD i 0) = false ∧ (¬ cs.getD i 0 = 9053) ∧ (nextF ne cs i).2.2 = 0 ∧ t = ((nextF ne cs i).1, cutText cs i (nextF ne cs i).2.1, i, 0) ∧ ((r = [] ∧ b = (nextF ne cs i).2.1) ∨ Chain ne cs (passTo cs (nextF ne cs i).2.1) r b)
def kt (t : Int × ByteArray × Nat × Int) : Int × ByteArray := (t.1, t.2.1)
theorem chain_le {ne : ByteArray → Int} {cs : List Int} : ∀ (l : List (Int × ByteArray × Nat × Int)) (i b : Nat), Chain ne cs i l b → i < b ∧ b ≤ cs.length ∧ (nextF ne cs i).2.1 ≤ b
 | [], i, b, h => h.elim
 | t :: r, i, b, ⟨h1, _, _, h4, _, h6⟩ => by
  have hj := nextF_end ne cs i h1 h4
  rcases h6 with ⟨_, rfl⟩ | h6
  · exact ⟨hj.1, hj.2, Nat.le_refl _⟩
  · have := chain_le r _ b h6
    have hp := passTo_le hj.2
    exact ⟨by omega, this.2.1, by omega⟩
theorem chain_end {ne : ByteArray → Int} {cs : List Int} (hok : ∀ c ∈ cs, okRune c) : ∀ (l : List (Int × ByteArray × Nat × Int)) (i b : Nat), Chain ne cs i l b → ∀ h : l ≠ [], tokEnd (l.getLast h) = b
 | [], i, b, h, _ => h.elim
 | t :: r, i, b, ⟨h1, _, _, h4, h5, h6⟩, hne => by
  have hj := nextF_end ne cs i h1 h4
  rcases h6 with ⟨rfl, rfl⟩ | h6
  · rw [List.getLast_singleton, h5]
    unfold tokEnd
    simp only
    rw [cut_len2 hok hj.2]
    omega
  · have hr : r ≠ [] := fun e => by rw [e] at h6; exact h6
    rw [List.getLast_cons hr]
    exact chain_end hok r _ b h6 hr
theorem chain_stretch {ne : ByteArray → Int} {cs : List Int} (hok : ∀ c ∈ cs, okRune c) {l : List (Int × ByteArray × Nat × Int)} {i b : Nat} (h : Chain ne cs i l b) : stretchF cs l = cutText cs i b := by
 cases l with
 | nil => exact h.elim
 | cons t r =>
  have he := chain_end hok _ _ _ h (by simp)
  obtain ⟨_, _, _, _, h5, _⟩ := h
  unfold stretchF
  simp only
  rw [he, h5]
theorem chain_win2 {ne : ByteArray → Int} {cs ds : List Int} {a : Nat} (h : Seg cs ds a) (hB : Bound cs ds a) : ∀ (l : List (Int × ByteArray × Nat × Int)) (i b : Nat), Chain ne ds i l b → ∃ l', Chain ne cs (a + i) l' (a + b) ∧ l'.map kt = l.map kt
 | [], i, b, hc => hc.elim
 | t :: r, i, b, hc => by
  have hle := h.le
  obtain ⟨hi, h2, h3, h4, h5, h6⟩ := hc
  have hn := h.next2 (ne := ne) hB hi h4
  have hj := nextF_end ne ds i hi h4
  have hg := h.get hi
  generalize hE : (nextF ne ds i).2.1 = E at *
  have ht : ((nextF ne cs (a + i)).1, cutText cs (a + i) (nextF ne cs (a + i)).2.1) = kt t := by
   rw [h5, hn]
   unfold kt
   simp only
   rw [h.cut (by omega)]
  rcases h6 with ⟨rfl, rfl⟩ | h6
  · refine ⟨[((nextF ne cs (a + i)).1, cutText cs (a + i) (nextF ne cs (a + i)).2.1, a + i, 0)], ⟨by omega, by rw [← hg]; exact h2, by rw [← hg]; exact h3, by rw [hn], rfl, Or.inl ⟨rfl, by rw [hn]⟩⟩, ?_⟩
    simp only [List.map_cons, List.map_nil]
    rw [← ht]; rfl
  · have hl2 := chain_le _ _ _ h6
    have hp := passTo_le hj.2
    obtain ⟨r', c', m'⟩ := chain_win2 h hB r _ b h6
    have hps := h.pass2 (j := E) (k := passTo ds E) hj.2 (by omega) rfl
    refine ⟨((nextF ne cs (a + i)).1, cutText cs (a + i) (nextF ne cs (a + i)).2.1, a + i, 0) :: r', ⟨by omega, by rw [← hg]; exact h2, by rw [← hg]; exact h3, by rw [hn], rfl, Or.inr ?_⟩, ?_⟩
    · rw [hn]
      simp only
      rw [hps]
      exact c'
    · simp only [List.map_cons]
      rw [m', ← ht]; rfl
theorem items_chain {ne : ByteArray → Int} {cs : List Int} : ∀ (l : List (Int × ByteArray × Nat × Int)) (i b f : Nat), Chain ne cs i l b → cs.length < i + f → ∃ g, cs.length < passTo cs b + g ∧ itemsF ne cs f i = l ++ itemsF ne cs g (passTo cs b)
 | [], i, b, f, hc, _ => hc.elim
 | t :: r, i, b, f, ⟨h1, h2, h3, h4, h5, h6⟩, hf => by
  obtain ⟨f, rfl⟩ : ∃ k, f = k + 1 := ⟨f - 1, by omega⟩
  have hj := nextF_end ne cs i h1 h4
  have hp := passTo_le hj.2
  rw [itemsF, if_pos h1, if_pos h4, ← h5]
  rcases h6 with ⟨rfl, rfl⟩ | h6
  · exact ⟨f, by omega, rfl⟩
  · obtain ⟨g, g1, g2⟩ := items_chain r _ b f h6 (by omega)
    exact ⟨g, g1, by rw [g2]; rfl⟩
theorem chain_er {ne : ByteArray → Int} {cs : List Int} : ∀ (l : List (Int × ByteArray × Nat × Int)) (i b : Nat), Chain ne cs i l b → ∀ x ∈ l, x.2.2.2 = 0
 | [], i, b, hc, _, _ => hc.elim
 | t :: r, i, b, ⟨h1, h2, h3, h4, h5, h6⟩, x, hx => by
  rcases List.mem_cons.1 hx with rfl | hx
  · rw [h5]
  · rcases h6 with ⟨rfl, _⟩ | h6
    · cases hx
    · exact chain_er r _ b h6 x hx
/-- How many braces stand open behind some tokens, if no diamond outside of braces is among them. -/
def ops : Nat → List (Int × ByteArray) → Option Nat
 | op, [] => some op
 | op, t :: r => if t.1 = 0 ∨ t.2 = diaT ∧ op = 0 then none else if t.2 = opT then ops (op + 1) r else if t.2 = clT ∧ 0 < op then ops (op - 1) r else ops op r
theorem spl_ops (cs : List Int) : ∀ (l : List (Int × ByteArray × Nat × Int)) (op k : Nat) (cur rest : List (Int × ByteArray × Nat × Int)), ops op (l.map kt) = some k → spl cs (l ++ rest) cur op = spl cs rest (cur ++ l) k
 | [], op, k, cur, rest, h => by
  rw [List.map_nil, ops] at h
  cases h
  simp
 | t :: r, op, k, cur, rest, h => by
  rw [List.map_cons, ops] at h
  rw [List.cons_append, spl]
  unfold kt at h
  simp only at h
  by_cases h1 : t.1 = 0 ∨ t.2.1 = diaT ∧ op = 0
  · rw [if_pos h1] at h; cases h
  rw [if_neg h1] at h ⊢
  by_cases h2 : t.2.1 = opT
  · rw [if_pos h2] at h ⊢
    rw [spl_ops cs r _ k _ rest h, List.append_assoc]; rfl
  rw [if_neg h2] at h ⊢
  by_cases h3 : t.2.1 = clT ∧ 0 < op
  · rw [if_pos h3] at h ⊢
    rw [spl_ops cs r _ k _ rest h, List.append_assoc]; rfl
  rw [if_neg h3] at h ⊢
  rw [spl_ops cs r _ k _ rest h, List.append_assoc]; rfl
/-- A text that is one part by itself; so many braces stand open behind it. -/
def Unit1 (ne : ByteArray → Int) (T : ByteArray) (op : Nat) : Prop :=
 ∃ ds l, T = runesBytes ds ∧ (∀ c ∈ ds, okRune c) ∧ ops 0 (l.map kt) = some op ∧ ((ds = [] ∧ l = []) ∨ Chain ne ds 0 l ds.length)
def Units (ne : ByteArray → Int) : List ByteArray → Prop
 | [] => False
 | [T] => ∃ op, Unit1 ne T op
 | T :: U :: r => Unit1 ne T 0 ∧ Units ne (U :: r)
theorem Units.one {ne : ByteArray → Int} : ∀ (L : List ByteArray), Units ne L → ∀ T ∈ L, ∃ op, Unit1 ne T op
 | [], h, _, _ => h.elim
 | [U], h, T, hT => by rw [List.mem_singleton.1 hT]; exact h
 | U :: V :: r, h, T, hT => by
  rcases List.mem_cons.1 hT with rfl | hT
  · exact ⟨0, h.1⟩
  · exact Units.one (V :: r) h.2 T hT
theorem Units.ne {ne : ByteArray → Int} {L : List ByteArray} (h : Units ne L) : 0 < L.length := by
 cases L with
 | nil => exact h.elim
 | cons _ _ => simp
theorem Units.cons {ne : ByteArray → Int} {T : ByteArray} {L : List ByteArray} (h : Unit1 ne T 0) (hL : Units ne L) : Units ne (T :: L) := by
 cases L with
 | nil => exact hL.elim
 | cons U r => exact ⟨h, hL⟩
end Go.Proofs.YtimfnalpmmkndaaGreatDoor

/- A part is cut no more; parts that are joined with diamonds are cut the same again. -/
namespace Go.Proofs.YtimfnalpmmkndaaGreatDoor
set_option linter.unusedVariables false
set_option linter.unusedSimpArgs false
open Go.RowKit

theorem runes_app2 (a b : List Int) : (runesBytes (a ++ b)).data.toList = (runesBytes a).data.toList ++ (runesBytes b).data.toList := by
 induction a with
 | nil => rfl
 | cons c a ih => rw [List.cons_append, runesBytes_cons, runesBytes_cons, ih, List.append_assoc]
/-- The tokens of a chain that goes to the end, and the end. -/
theorem items_whole {ne : ByteArray → Int} {cs : List Int} {l : List (Int × ByteArray × Nat × Int)} {i f : Nat} (hc : Chain ne cs i l cs.length) (hf : cs.length < i + f) : itemsF ne cs f i = l ++ [(0, ⟨#[]⟩, cs.length, 0)] := by
 obtain ⟨g, g1, g2⟩ := items_chain l i _ f hc hf
 rw [passTo_end] at g1 g2
 obtain ⟨g, rfl⟩ : ∃ k, g = k + 1 := ⟨g - 1, by omega⟩
 rw [g2, itemsF, if_neg (by omega)]
theorem chain_pass {ne : ByteArray → Int} {cs : List Int} {l : List (Int × ByteArray × Nat × Int)} {i b : Nat} (hc : Chain ne cs i l b) : passTo cs i = i := by
 cases l with
 | nil => exact hc.elim
 | cons t r =>
  obtain ⟨h1, h2, h3, _⟩ := hc
  exact pass_stop h1 h2 h3
theorem spl_end (cs : List Int) (k op : Nat) (cur : List (Int × ByteArray × Nat × Int)) : spl cs [(0, ⟨#[]⟩, k, 0)] cur op = [stretchF cs cur] := by
 simp [spl]
theorem cut_whole (ds : List Int) : cutText ds 0 ds.length = runesBytes ds := by
 unfold cutText
 rw [List.drop_zero, Nat.sub_zero, List.take_length]
/-- Characters of parts, with diamonds between. -/
theorem next_dia2 (ne : ByteArray → Int) (cs : List Int) (i : Nat) (h : cs.getD i 0 = 8900) : nextF ne cs i = (6, i + 1, 0) := by
 unfold nextF
 rw [h, if_neg (by decide), if_neg (by decide), if_neg (by decide), if_neg (by decide), if_neg (by decide +kernel), if_pos (by decide +kernel)]
theorem dia_is2 : diaT = runesBytes [8900] := by decide +kernel
theorem dia_cut {cs : List Int} {i : Nat} (hi : i < cs.length) (h : cs.getD i 0 = 8900) : cutText cs i (i + 1) = diaT := by
 unfold cutText
 have e : cs.getD i 0 = cs[i] := by simp [List.getD, hi]
 rw [show i + 1 - i = 1 by omega, List.drop_eq_getElem_cons hi, List.take_succ_cons, List.take_zero, ← e, h, dia_is2]
theorem win_app (pre ds post : List Int) : Seg (pre ++ (ds ++ post)) ds pre.length := by
 refine ⟨by simp, ?_⟩
 rw [List.drop_left, List.take_left]
def joinT : List ByteArray → List UInt8
 | [] => []
 | [T] => T.data.toList
 | T :: U :: r => T.data.toList ++ (diaT.data.toList ++ joinT (U :: r))
theorem joined {ne : ByteArray → Int} : ∀ (L : List ByteArray), Units ne L → ∃ E : List Int, (runesBytes E).data.toList = joinT L ∧ (∀ c ∈ E, okRune c) ∧ ∀ (pre : List Int) (f : Nat), (∀ c ∈ pre, okRune c) → (pre ++ E).length < passTo (pre ++ E) pre.length + f →
    spl (pre ++ E) (itemsF ne (pre ++ E) f (passTo (pre ++ E) pre.length)) [] 0 = L ∧ ∀ x ∈ itemsF ne (pre ++ E) f (passTo (pre ++ E) pre.length), x.2.2.2 = 0
 | [], h => h.elim
 | [T], h => by
  obtain ⟨op, ds, l, rfl, hok, ho, hc⟩ := h
  refine ⟨ds, rfl, hok, fun pre f hpre hf => ?_⟩
  have hW := win_app pre ds []
  rw [List.append_nil] at hW
  have hlen : (pre ++ ds).length = pre.length + ds.length := List.length_append
  rcases hc with ⟨rfl, rfl⟩ | hc
  · have hp : passTo (pre ++ []) pre.length = (pre ++ []).length := by
     have := passTo_end (pre ++ [])
     rw [List.append_nil] at this ⊢
     exact this
    rw [hp] at hf ⊢
    obtain ⟨f, rfl⟩ : ∃ k, f = k + 1 := ⟨f - 1, by omega⟩
    rw [itemsF, if_neg (by omega), spl_end]
    exact ⟨rfl, fun x hx => by rw [List.mem_singleton.1 hx]⟩
  · obtain ⟨l', c', m'⟩ := chain_win2 hW (Or.inl hlen.symm) l 0 _ hc
    rw [Nat.add_zero, ← hlen] at c'
    rw [chain_pass c'] at hf ⊢
    have hok2 : ∀ c ∈ pre ++ ds, okRune c := fun c hc => by
     rcases List.mem_append.1 hc with h | h
     · exact hpre c h
     · exact hok c h
    rw [items_whole c' hf, spl_ops _ l' 0 op [] _ (by rw [m']; exact ho), spl_end, List.nil_append, chain_stretch hok2 c']
    have hcut := hW.cut (i := 0) (Nat.le_refl _)
    rw [Nat.add_zero, ← hlen, cut_whole] at hcut
    rw [← hcut]
    refine ⟨rfl, fun x hx => ?_⟩
    rcases List.mem_append.1 hx with hx | hx
    · exact chain_er _ _ _ c' x hx
    · rw [List.mem_singleton.1 hx]
 | T :: U :: r, h => by
  obtain ⟨hT, hr⟩ := h
  obtain ⟨E, hE1, hE2, hE3⟩ := joined (U :: r) hr
  obtain ⟨ds, l, rfl, hok, ho, hc⟩ := hT
  have hdia : okRune 8900 := by unfold okRune; omega
  refine ⟨ds ++ (8900 :: E), ?_, ?_, fun pre f hpre hf => ?_⟩
  · rw [runes_app2, show (8900 :: E : List Int) = [8900] ++ E from rfl, runes_app2, ← dia_is2, hE1]
    rfl
  · intro c hc
    rcases List.mem_append.1 hc with h | h
    · exact hok c h
    · rcases List.mem_cons.1 h with rfl | h
      · exact hdia
      · exact hE2 c h
  · have hW := win_app pre ds (8900 :: E)
    obtain ⟨cs, hcs⟩ : ∃ cs, pre ++ (ds ++ 8900 :: E) = cs := ⟨_, rfl⟩
    have hcs2 : (pre ++ (ds ++ [8900])) ++ E = cs := by rw [← hcs]; simp
    rw [hcs] at hW hf ⊢
    have hlen : cs.length = pre.length + (ds.length + (E.length + 1)) := by rw [← hcs]; simp
    have hd : cs.getD (pre.length + ds.length) 0 = 8900 := by
     rw [← hcs, ← List.append_assoc, List.getD_eq_getElem?_getD, List.getElem?_append_right (by simp)]
     simp
    have hdl : pre.length + ds.length < cs.length := by omega
    have hpd : passTo cs (pre.length + ds.length) = pre.length + ds.length := pass_stop hdl (by rw [hd]; decide) (by rw [hd]; decide)
    have hok2 : ∀ c ∈ cs, okRune c := fun c hc => by
     rw [← hcs] at hc
     rcases List.mem_append.1 hc with h | h
     · exact hpre c h
     · rcases List.mem_append.1 h with h | h
       · exact hok c h
       · rcases List.mem_cons.1 h with rfl | h
         · exact hdia
         · exact hE2 c h
    have hpre2 : ∀ c ∈ pre ++ (ds ++ [8900]), okRune c := fun c hc => hok2 c (by rw [← hcs2]; exact List.mem_append_left _ hc)
    have hpl2 : (pre ++ (ds ++ [8900])).length = pre.length + ds.length + 1 := by simp; omega
    -- from the diamond on
    have hdn := next_dia2 ne cs _ hd
    have hrest : ∀ g, cs.length < pre.length + ds.length + g → ∃ R, itemsF ne cs g (pre.length + ds.length) = (6, diaT, pre.length + ds.length, 0) :: R ∧ spl cs R [] 0 = U :: r ∧ ∀ x ∈ R, x.2.2.2 = 0 := fun g hg => by
     obtain ⟨g, rfl⟩ : ∃ k, g = k + 1 := ⟨g - 1, by omega⟩
     have hp1 := passTo_le (cs := cs) (i := pre.length + ds.length + 1) (by omega)
     have := hE3 (pre ++ (ds ++ [8900])) g hpre2 (by rw [hcs2, hpl2]; omega)
     rw [hcs2, hpl2] at this
     refine ⟨_, ?_, this.1, this.2⟩
     rw [itemsF, if_pos hdl, hdn]
     simp only [if_true]
     rw [dia_cut hdl hd]
    have hcutW := hW.cut (i := 0) (Nat.le_refl _)
    rw [Nat.add_zero, cut_whole] at hcutW
    have hsd : ∀ (R cur : List (Int × ByteArray × Nat × Int)), spl cs ((6, diaT, pre.length + ds.length, 0) :: R) cur 0 = stretchF cs cur :: spl cs R [] 0 := fun R cur => by
     rw [spl, if_pos (Or.inr ⟨rfl, rfl⟩)]
    rcases hc with ⟨rfl, rfl⟩ | hc
    · rw [List.length_nil, Nat.add_zero] at *
      rw [hpd] at hf ⊢
      obtain ⟨R, R1, R2, R3⟩ := hrest f hf
      rw [R1, hsd, R2]
      refine ⟨rfl, fun x hx => ?_⟩
      rcases List.mem_cons.1 hx with rfl | hx
      · rfl
      · exact R3 x hx
    · obtain ⟨l', c', m'⟩ := chain_win2 hW (Or.inr hd) l 0 _ hc
      rw [Nat.add_zero] at c'
      rw [chain_pass c'] at hf ⊢
      obtain ⟨g, g1, g2⟩ := items_chain l' _ _ f c' hf
      rw [hpd] at g1 g2
      obtain ⟨R, R1, R2, R3⟩ := hrest g g1
      rw [g2, R1, spl_ops _ l' 0 0 [] _ (by rw [m']; exact ho), hsd, R2, List.nil_append, chain_stretch hok2 c', ← hcutW]
      refine ⟨rfl, fun x hx => ?_⟩
      rcases List.mem_append.1 hx with hx | hx
      · exact chain_er _ _ _ c' x hx
      · rcases List.mem_cons.1 hx with rfl | hx
        · rfl
        · exact R3 x hx
end Go.Proofs.YtimfnalpmmkndaaGreatDoor
