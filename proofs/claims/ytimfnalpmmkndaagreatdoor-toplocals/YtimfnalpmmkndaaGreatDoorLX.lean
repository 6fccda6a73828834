/- A row of characters within a longer one: the tokens there are the same. -/
import Derived.Test.YtimfnalpmmkndaaGreatDoorLC
namespace Go.Proofs.YtimfnalpmmkndaaGreatDoor
set_option linter.unusedVariables false
set_option linter.unusedSimpArgs false
open Go.RowKit

theorem runEnd_in2 {p : Int → Bool} {cs : List Int} {i : Nat} (hi : i ≤ cs.length) {m : Nat} (h1 : i ≤ m) (h2 : m < runEnd p cs i) : p (cs.getD m 0) = true := by
 have hle := runEnd_le p cs i hi
 unfold runEnd at h2
 have hm : m - i < ((cs.drop i).takeWhile p).length := by omega
 have h3 : p ((cs.drop i).takeWhile p)[m - i] = true := List.all_eq_true.1 List.all_takeWhile _ (List.getElem_mem hm)
 have hml : m < cs.length := by
  have h5 := (List.takeWhile_sublist p (l := cs.drop i)).length_le
  rw [List.length_drop] at h5
  omega
 have h4 : ((cs.drop i).takeWhile p)[m - i] = cs.getD m 0 := by
  have e1 := (List.takeWhile_prefix p (l := cs.drop i)).getElem hm
  have e2 : cs.getD m 0 = cs[m] := by rw [List.getD_eq_getElem?_getD, List.getElem?_eq_getElem hml]; rfl
  rw [e1, List.getElem_drop, e2]
  simp only [show i + (m - i) = m by omega]
 rw [h4] at h3
 exact h3
theorem runEnd_step2 {p : Int → Bool} {cs : List Int} {i : Nat} (hi : i < cs.length) (h : p (cs.getD i 0) = true) : runEnd p cs i = runEnd p cs (i + 1) := by
 have e : cs.getD i 0 = cs[i] := by simp [List.getD, hi]
 rw [e] at h
 unfold runEnd
 rw [List.drop_eq_getElem_cons hi, List.takeWhile_cons, if_pos h, List.length_cons]
 omega
theorem runEnd_stop2 {p : Int → Bool} {cs : List Int} {i : Nat} (hi : i < cs.length) (h : p (cs.getD i 0) = false) : runEnd p cs i = i := by
 have e : cs.getD i 0 = cs[i] := by simp [List.getD, hi]
 rw [e] at h
 unfold runEnd
 rw [List.drop_eq_getElem_cons hi, List.takeWhile_cons, if_neg (by rw [h]; simp)]
 simp
theorem runEnd_out {p : Int → Bool} {cs : List Int} : ∀ (n i : Nat), cs.length - i ≤ n → i ≤ cs.length → runEnd p cs i < cs.length → p (cs.getD (runEnd p cs i) 0) = false
 | 0, i, hn, hi, h => by
  have := runEnd_le p cs i hi
  omega
 | n + 1, i, hn, hi, h => by
  by_cases hil : i < cs.length
  · by_cases hp : p (cs.getD i 0) = true
    · rw [runEnd_step2 hil hp] at h ⊢
      exact runEnd_out n (i + 1) (by omega) (by omega) h
    · have hp' : p (cs.getD i 0) = false := by simpa using hp
      rw [runEnd_stop2 hil hp']
      exact hp'
  · have := runEnd_le p cs i hi
    omega
structure Seg (cs ds : List Int) (a : Nat) : Prop where
 le : a + ds.length ≤ cs.length
 eq : (cs.drop a).take ds.length = ds
theorem Seg.get {cs ds : List Int} {a k : Nat} (h : Seg cs ds a) (hk : k < ds.length) : ds.getD k 0 = cs.getD (a + k) 0 := by
 have e := congrArg (fun l => l.getD k 0) h.eq
 simp only [List.getD_eq_getElem?_getD, List.getElem?_take, List.getElem?_drop, if_pos hk] at e
 rw [List.getD_eq_getElem?_getD, List.getD_eq_getElem?_getD]
 exact e.symm
theorem Seg.cut {cs ds : List Int} {a i j : Nat} (h : Seg cs ds a) (hj : j ≤ ds.length) : cutText ds i j = cutText cs (a + i) (a + j) := by
 have e : (ds.drop i).take (j - i) = (cs.drop (a + i)).take (a + j - (a + i)) := by
  have h1 : ds.drop i = ((cs.drop a).take ds.length).drop i := by rw [h.eq]
  rw [h1, List.drop_take, List.take_take, List.drop_drop, show min (j - i) (ds.length - i) = j - i by omega, show a + j - (a + i) = j - i by omega]
 unfold cutText
 rw [e]
theorem Seg.run {cs ds : List Int} {a i : Nat} (h : Seg cs ds a) (p : Int → Bool) (hi : i ≤ ds.length) (hr : runEnd p cs (a + i) ≤ a + ds.length) : a + runEnd p ds i = runEnd p cs (a + i) := by
 have hle := h.le
 have h1 := runEnd_le p cs (a + i) (by omega)
 have h2 : runEnd p ds i = runEnd p cs (a + i) - a := by
  refine runEnd_is (by omega) (by omega) (fun k k1 k2 => ?_) ?_
  · rw [h.get (by omega)]
    exact runEnd_in2 (i := a + i) (by omega) (by omega) (by omega)
  · by_cases e : runEnd p cs (a + i) - a = ds.length
    · exact Or.inl e
    · right
      rw [h.get (by omega), show a + (runEnd p cs (a + i) - a) = runEnd p cs (a + i) by omega]
      exact runEnd_out _ _ (Nat.le_refl _) (by omega) (by omega)
 omega
theorem Seg.q {cs ds : List Int} {a : Nat} (h : Seg cs ds a) : ∀ (f i g : Nat) (acc t : List Int) (e : Nat), qscan cs f (a + i) acc = some (t, e) → e ≤ a + ds.length → ds.length ≤ i + g → qscan ds g i acc = some (t, e - a)
 | 0, i, g, acc, t, e, hq, _, _ => by simp [qscan] at hq
 | f + 1, i, g, acc, t, e, hq, he, hg => by
  have hle := h.le
  have hend := qscan_end cs _ _ _ _ hq
  simp only at hend
  obtain ⟨g, rfl⟩ : ∃ k, g = k + 1 := ⟨g - 1, by omega⟩
  rw [qscan, if_pos (by omega)] at hq
  rw [qscan, if_pos (by omega), h.get (by omega)]
  by_cases h2 : cs.getD (a + i) 0 = 39
  · rw [if_pos h2] at hq ⊢
    by_cases h3 : a + i + 1 = cs.length ∨ ¬ cs.getD (a + i + 1) 0 = 39
    · rw [if_pos h3] at hq
      cases hq
      rw [if_pos, show a + i + 1 - a = i + 1 by omega]
      by_cases h4 : i + 1 = ds.length
      · exact Or.inl h4
      · right
        rw [h.get (by omega), show a + (i + 1) = a + i + 1 by omega]
        rcases h3 with h3 | h3
        · omega
        · exact h3
    · rw [if_neg h3] at hq
      have hend2 := qscan_end cs _ _ _ _ hq
      simp only at hend2
      rw [if_neg]
      · exact Seg.q h f (i + 2) g _ t e (by rw [show a + (i + 2) = a + i + 2 by omega]; exact hq) he (by omega)
      · rintro (h4 | h4)
        · omega
        · rw [h.get (by omega), show a + (i + 1) = a + i + 1 by omega] at h4
          exact h3 (Or.inr h4)
  · rw [if_neg h2] at hq ⊢
    exact Seg.q h f (i + 1) g _ t e (by rw [show a + (i + 1) = a + i + 1 by omega]; exact hq) he (by omega)
theorem Seg.next {ne : ByteArray → Int} {cs ds : List Int} {a i : Nat} (h : Seg cs ds a) (hi : i < ds.length) (h0 : (nextF ne cs (a + i)).2.2 = 0) (he : (nextF ne cs (a + i)).2.1 ≤ a + ds.length) : nextF ne ds i = ((nextF ne cs (a + i)).1, (nextF ne cs (a + i)).2.1 - a, 0) := by
 have hle := h.le
 have hg := h.get hi
 unfold nextF at h0 he ⊢
 rw [hg]
 by_cases h1 : cs.getD (a + i) 0 = 175 ∨ dg (cs.getD (a + i) 0) = true
 · rw [if_pos h1] at h0 he ⊢
   rw [if_pos h1]
   simp only at h0 he ⊢
   have hr := h.run (i := i + 1) inn (by omega) (by rw [show a + (i + 1) = a + i + 1 by omega]; exact he)
   rw [show a + (i + 1) = a + i + 1 by omega] at hr
   have hl := runEnd_le inn ds (i + 1) (by omega)
   rw [h.cut hl.2, hr, h0, show runEnd inn ds (i + 1) = runEnd inn cs (a + i + 1) - a by omega]
 rw [if_neg h1] at h0 he ⊢
 rw [if_neg h1]
 by_cases h2 : cs.getD (a + i) 0 = 39
 · rw [if_pos h2] at h0 he ⊢
   rw [if_pos h2]
   cases hq : qscan cs cs.length (a + i + 1) [] with
   | none => rw [hq] at h0; simp at h0
   | some p =>
    rw [hq] at he
    simp only at he
    rw [h.q _ (i + 1) ds.length [] p.1 p.2 (by rw [show a + (i + 1) = a + i + 1 by omega]; exact hq) he (by omega)]
 rw [if_neg h2] at h0 he ⊢
 rw [if_neg h2]
 by_cases h3 : bn (cs.getD (a + i) 0) = true
 · rw [if_pos h3] at h0 he ⊢
   rw [if_pos h3]
   by_cases h4 : runEnd inm cs (a + i) - (a + i) ≤ 32
   · rw [if_pos h4] at h0 he ⊢
     simp only at he
     have hr := h.run inm (Nat.le_of_lt hi) he
     rw [if_pos (by omega), show runEnd inm ds i = runEnd inm cs (a + i) - a by omega]
   · rw [if_neg h4] at h0; simp at h0
 rw [if_neg h3] at h0 he ⊢
 rw [if_neg h3]
 by_cases h4 : cs.getD (a + i) 0 = 9109
 · rw [if_pos h4] at h0 he ⊢
   rw [if_pos h4]
   simp only at he ⊢
   have hr := h.run (i := i + 1) lt (by omega) (by rw [show a + (i + 1) = a + i + 1 by omega]; exact he)
   rw [show a + (i + 1) = a + i + 1 by omega] at hr
   rw [show runEnd lt ds (i + 1) = runEnd lt cs (a + i + 1) - a by omega]
 rw [if_neg h4] at h0 he ⊢
 rw [if_neg h4]
 by_cases h5 : cs.getD (a + i) 0 ∈ decs prims prims.size 0
 · rw [if_pos h5, if_pos h5]
   simp only
   rw [show a + i + 1 - a = i + 1 by omega]
 rw [if_neg h5] at h0 he ⊢
 rw [if_neg h5]
 by_cases h6 : cs.getD (a + i) 0 ∈ decs sgns sgns.size 0
 · rw [if_pos h6, if_pos h6]
   simp only
   rw [show a + i + 1 - a = i + 1 by omega]
 rw [if_neg h6] at h0; simp at h0
theorem Seg.pass {cs ds : List Int} {a j k : Nat} (h : Seg cs ds a) (hj : j ≤ ds.length) (hk : k < ds.length) (hp : passTo cs (a + j) = a + k) : passTo ds j = k := by
 have hle := h.le
 unfold passTo at hp
 by_cases hx : runEnd bl cs (a + j) < cs.length ∧ cs.getD (runEnd bl cs (a + j)) 0 = 9053
 · rw [if_pos hx] at hp; omega
 rw [if_neg hx] at hp
 have hr := h.run bl hj (by omega)
 have e : runEnd bl ds j = k := by omega
 unfold passTo
 rw [e, if_neg]
 rintro ⟨_, h2⟩
 rw [h.get hk, ← hp] at h2
 exact hx ⟨by omega, h2⟩
theorem Seg.pass2 {cs ds : List Int} {a j k : Nat} (h : Seg cs ds a) (hj : j ≤ ds.length) (hk : k < ds.length) (hp : passTo ds j = k) : passTo cs (a + j) = a + k := by
 have hle := h.le
 unfold passTo at hp
 by_cases hx : runEnd bl ds j < ds.length ∧ ds.getD (runEnd bl ds j) 0 = 9053
 · rw [if_pos hx] at hp; omega
 rw [if_neg hx] at hp
 have hjk := runEnd_le bl ds j hj
 have e : runEnd bl cs (a + j) = a + k := by
  refine runEnd_is (by omega) (by omega) (fun m m1 m2 => ?_) (Or.inr ?_)
  · have := runEnd_in2 (p := bl) (cs := ds) (i := j) hj (m := m - a) (by omega) (by omega)
    rw [h.get (by omega), show a + (m - a) = m by omega] at this
    exact this
  · have := runEnd_out (p := bl) (cs := ds) _ j (Nat.le_refl _) hj (by omega)
    rw [hp, h.get hk] at this
    exact this
 unfold passTo
 rw [e, if_neg]
 rintro ⟨_, h2⟩
 rw [← h.get hk, ← hp] at h2
 exact hx ⟨by omega, h2⟩
def kt (t : Int × ByteArray × Nat × Int) : Int × ByteArray := (t.1, t.2.1)
def ops : Nat → List (Int × ByteArray) → Option Nat
 | op, [] => some op
 | op, t :: r => if t.1 = 0 ∨ t.2 = diaT ∧ op = 0 then none else if t.2 = opT then ops (op + 1) r else if t.2 = clT ∧ 0 < op then ops (op - 1) r else ops op r
theorem runes_app2 (a b : List Int) : (runesBytes (a ++ b)).data.toList = (runesBytes a).data.toList ++ (runesBytes b).data.toList := by
 induction a with
 | nil => rfl
 | cons c a ih => rw [List.cons_append, runesBytes_cons, runesBytes_cons, ih, List.append_assoc]
theorem win_app (pre ds post : List Int) : Seg (pre ++ (ds ++ post)) ds pre.length := by
 refine ⟨by simp, ?_⟩
 rw [List.drop_left, List.take_left]
end Go.Proofs.YtimfnalpmmkndaaGreatDoor
