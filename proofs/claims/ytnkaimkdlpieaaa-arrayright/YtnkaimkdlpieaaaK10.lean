/- Both ways of measuring an array are the same. -/
import Derived.Test.YtnkaimkdlpieaaaK9
import Derived.Test.YtnkaimkdlpieaaaK8
import Derived.Test.YtnkaimkdlpieaaaK7
import Derived.Test.YtnkaimkdlpieaaaJ4
namespace Go.Proofs.Ytnkaimkdlpieaaa
set_option linter.unusedVariables false
set_option linter.unusedSimpArgs false
open Go.RowKit

open Classical in
/-- An item's measure, without a bound on cells. -/
noncomputable def plI (M : Tr → Option (Int × Int)) (t : Tr) : Option (Int × Int) :=
  if t.k = 1 ∧ RightP t.b t.ns t.ds ∧ t.c = 0 ∧ t.kids.length = 0 then some (0, 0)
  else if t.k = 2 ∧ okR t.c ∧ noneB t = true ∧ t.kids.length = 0 then some (0, 0)
  else if t.k = 3 ∧ t.kids.length = 1 ∧ noneB t = true ∧ t.c = 0 ∧ simpR (t.kids.getD 0 tr0) = false then M (t.kids.getD 0 tr0)
  else none
noncomputable def plL (M : Tr → Option (Int × Int)) : List Tr → Int × Int → Option (Int × Int)
  | [], w => some w
  | t :: r, w => match plI M t with
    | none => none
    | some p => plL M r (max w.1 p.1, w.2 + p.2)
noncomputable def plF : Nat → Tr → Option (Int × Int)
  | 0, _ => none
  | L + 1, t => if (sizeF t.ns).2 = 0 ∧ (t.kids.length : Int) = max (sizeF t.ns).1 1 then
      (match plL (plF L) t.kids (0, (t.kids.length : Int)) with
        | none => none
        | some p => some (if simpR t = true then p.1 else p.1 + 1, p.2)) else none
def upTo (m : Int) (o : Option (Int × Int)) : Option (Int × Int) := match o with
  | none => none
  | some p => if p.2 ≤ m then some p else none
def inP (L : Nat) (o : Option (Int × Int)) : Prop := ∀ p, o = some p → 0 ≤ p.1 ∧ p.1 ≤ L ∧ 1 ≤ p.2
theorem plI_in {L : Nat} {M : Tr → Option (Int × Int)} (hM : ∀ t, inP L (M t)) (t : Tr) : ∀ p, plI M t = some p → 0 ≤ p.1 ∧ p.1 ≤ L ∧ 0 ≤ p.2 := by
  intro p hp
  unfold plI at hp
  split at hp
  · cases hp; simp
  split at hp
  · cases hp; simp
  split at hp
  · have := hM _ p hp; omega
  · cases hp
theorem plL_in {L : Nat} {M : Tr → Option (Int × Int)} (hM : ∀ t, inP L (M t)) : ∀ (l : List Tr) (w p : Int × Int), 0 ≤ w.1 → w.1 ≤ L → plL M l w = some p → 0 ≤ p.1 ∧ p.1 ≤ L ∧ w.2 ≤ p.2 ∧ w.1 ≤ p.1
  | [], w, p, h1, h2, h => by rw [plL] at h; cases h; exact ⟨h1, h2, Int.le_refl _, Int.le_refl _⟩
  | t :: r, w, p, h1, h2, h => by
    rw [plL] at h
    cases hi : plI M t with
    | none => rw [hi] at h; cases h
    | some q =>
      rw [hi] at h
      have hq := plI_in hM t q hi
      have := plL_in hM r _ p (by simp only; omega) (by simp only; omega) h
      simp only at this
      omega
theorem plF_in : ∀ (L : Nat) (t : Tr), inP L (plF L t)
  | 0, t => by intro p hp; rw [plF] at hp; cases hp
  | L + 1, t => by
    intro p hp
    rw [plF] at hp
    by_cases hc : (sizeF t.ns).2 = 0 ∧ (t.kids.length : Int) = max (sizeF t.ns).1 1
    · rw [if_pos hc] at hp
      cases hl : plL (plF L) t.kids (0, (t.kids.length : Int)) with
      | none => rw [hl] at hp; cases hp
      | some q =>
        rw [hl] at hp
        have := plL_in (plF_in L) t.kids _ q (by simp) (by simp) hl
        simp only at hp this
        cases hp
        refine ⟨?_, ?_, ?_⟩
        · simp only; split <;> omega
        · simp only; split <;> (push_cast; omega)
        · simp only; omega
    · rw [if_neg hc] at hp; cases hp
/-- The document's measure: with a bound on cells. -/
theorem refI_pl {M : Tr → Int → Option (Int × Int)} {P : Tr → Option (Int × Int)} {rest : Int} (hr : 0 ≤ rest) (h : ∀ t, M t rest = upTo rest (P t)) (t : Tr) : refI M rest t = upTo rest (plI P t) := by
  unfold refI plI
  split
  · unfold upTo; simp only; rw [if_pos hr]
  split
  · unfold upTo; simp only; rw [if_pos hr]
  split
  · exact h _
  · rfl
theorem refL_pl {L : Nat} {M : Tr → Int → Option (Int × Int)} {P : Tr → Option (Int × Int)} (hP : ∀ t, inP L (P t)) (most : Int) (h : ∀ t r, 0 ≤ r → r ≤ most → M t r = upTo r (P t)) : ∀ (l : List Tr) (w : Int × Int), 0 ≤ w.1 → w.1 ≤ L → 0 ≤ w.2 → w.2 ≤ most → refL M most l w = upTo most (plL P l w)
  | [], w, h1, h2, h3, h4 => by rw [refL, plL]; unfold upTo; simp only; rw [if_pos h4]
  | t :: r, w, h1, h2, h3, h4 => by
    rw [refL, plL, refI_pl (by omega) (fun s => h s _ (by omega) (by omega)) t]
    cases hi : plI P t with
    | none => rfl
    | some q =>
      have hq := plI_in hP t q hi
      unfold upTo
      simp only
      by_cases hc : q.2 ≤ most - w.2
      · rw [if_pos hc]
        simp only
        exact refL_pl hP most h r _ (by simp only; omega) (by simp only; omega) (by simp only; omega) (by simp only; omega)
      · rw [if_neg hc]
        simp only
        cases hl : plL P r (max w.1 q.1, w.2 + q.2) with
        | none => rfl
        | some p =>
          have := plL_in hP r _ p (by simp only; omega) (by simp only; omega) hl
          simp only at this ⊢
          rw [if_neg (by omega)]
theorem refF_pl : ∀ (L : Nat) (t : Tr) (most : Int), 0 ≤ most → refF L t most = upTo most (plF L t)
  | 0, t, most, h => by rw [refF, plF]; rfl
  | L + 1, t, most, h => by
    rw [refF, plF]
    by_cases hc : (sizeF t.ns).2 = 0 ∧ (t.kids.length : Int) = max (sizeF t.ns).1 1
    · rw [if_pos hc]
      by_cases hm : (t.kids.length : Int) ≤ most
      · rw [if_pos ⟨hc.1, hc.2, hm⟩, refL_pl (plF_in L) most (fun s r h0 _ => refF_pl L s r h0) t.kids _ (by simp) (by simp) (by simp only; omega) hm]
        cases plL (plF L) t.kids (0, (t.kids.length : Int)) with
        | none => rfl
        | some p =>
          unfold upTo
          simp only
          by_cases hp : p.2 ≤ most
          · rw [if_pos hp, if_pos hp]
          · rw [if_neg hp, if_neg hp]
      · rw [if_neg (fun h => hm h.2.2)]
        cases hl : plL (plF L) t.kids (0, (t.kids.length : Int)) with
        | none => rfl
        | some p =>
          have := plL_in (plF_in L) t.kids _ p (by simp) (by simp) hl
          unfold upTo
          simp only at this ⊢
          rw [if_neg (by omega)]
    · rw [if_neg (fun h => hc ⟨h.1, h.2.1⟩), if_neg hc]; rfl
/-- An array that looks simple, but whose item is none, is not right. -/
theorem odd_none {P : Tr → Option (Int × Int)} {t : Tr} (h1 : t.kids.length = 1) (h2 : ¬ (t.kids.getD 0 tr0).k = 1) (h3 : ¬ (t.kids.getD 0 tr0).k = 2) (h4 : ¬ (t.kids.getD 0 tr0).k = 3) (w : Int × Int) : plL P t.kids w = none := by
  obtain ⟨x, hx⟩ : ∃ x, t.kids = [x] := List.length_eq_one_iff.1 h1
  rw [hx] at h2 h3 h4 ⊢
  rw [plL]
  simp only [List.getD_cons_zero] at h2 h3 h4
  have : plI P x = none := by unfold plI; rw [if_neg (fun h => h2 h.1), if_neg (fun h => h3 h.1), if_neg (fun h => h4 h.1)]
  rw [this]
theorem simp_same {t : Tr} (h : ¬ (t.kids.length = 1 ∧ ¬ (t.kids.getD 0 tr0).k = 1 ∧ ¬ (t.kids.getD 0 tr0).k = 2 ∧ ¬ (t.kids.getD 0 tr0).k = 3)) : simpB t = simpR t := by
  unfold simpB simpR
  by_cases h1 : t.kids.length = 1
  · have h2 : ¬ (¬ (t.kids.getD 0 tr0).k = 1 ∧ ¬ (t.kids.getD 0 tr0).k = 2 ∧ ¬ (t.kids.getD 0 tr0).k = 3) := fun e => h ⟨h1, e⟩
    congr 1
    by_cases e1 : (t.kids.getD 0 tr0).k = 1
    · rw [e1]; rfl
    · by_cases e2 : (t.kids.getD 0 tr0).k = 2
      · rw [e2]; rfl
      · have e3 : (t.kids.getD 0 tr0).k = 3 := by omega
        rw [e3]; rfl
  · rw [decide_eq_false h1]; simp
theorem measI_pl {M P : Tr → Option (Int × Int)} (h : ∀ t, M t = upTo 16384 (P t)) (hodd : ∀ s, (s.kids.length = 1 ∧ ¬ (s.kids.getD 0 tr0).k = 1 ∧ ¬ (s.kids.getD 0 tr0).k = 2 ∧ ¬ (s.kids.getD 0 tr0).k = 3) → P s = none) (t : Tr) : measI M t = upTo 16384 (plI P t) := by
  by_cases e1 : t.k = 1
  · by_cases hg : RightP t.b t.ns t.ds ∧ t.c = 0 ∧ t.kids.length = 0
    · rw [measI_num e1 hg]; unfold plI; rw [if_pos ⟨e1, hg⟩]; rfl
    · rw [measI_num_no e1 hg]; unfold plI; rw [if_neg (fun h => hg h.2), if_neg (by omega), if_neg (by omega)]; rfl
  by_cases e2 : t.k = 2
  · by_cases hg : okR t.c ∧ noneB t = true ∧ t.kids.length = 0
    · rw [measI_ch e2 hg]; unfold plI; rw [if_neg (by omega), if_pos ⟨e2, hg⟩]; rfl
    · rw [measI_ch_no e2 hg]; unfold plI; rw [if_neg (by omega), if_neg (fun h => hg h.2), if_neg (by omega)]; rfl
  by_cases e3 : t.k = 3
  · by_cases hb : noneB t = true ∧ t.c = 0 ∧ t.kids.length = 1
    · by_cases ho : ((t.kids.getD 0 tr0).kids.length = 1 ∧ ¬ ((t.kids.getD 0 tr0).kids.getD 0 tr0).k = 1 ∧ ¬ ((t.kids.getD 0 tr0).kids.getD 0 tr0).k = 2 ∧ ¬ ((t.kids.getD 0 tr0).kids.getD 0 tr0).k = 3)
      · have hn := hodd _ ho
        have hr : plI P t = none := by
          unfold plI
          rw [if_neg (by omega), if_neg (by omega)]
          split
          · exact hn
          · rfl
        rw [hr]
        by_cases hs : simpB (t.kids.getD 0 tr0) = false
        · rw [measI_box e3 ⟨hb.1, hb.2.1, hb.2.2, hs⟩, h, hn]
        · rw [measI_box_no e3 (fun h => hs h.2.2.2)]; rfl
      · have hss := simp_same ho
        by_cases hs : simpR (t.kids.getD 0 tr0) = false
        · rw [measI_box e3 ⟨hb.1, hb.2.1, hb.2.2, by rw [hss]; exact hs⟩, h]
          unfold plI
          rw [if_neg (by omega), if_neg (by omega), if_pos ⟨e3, hb.2.2, hb.1, hb.2.1, hs⟩]
        · rw [measI_box_no e3 (fun h => hs (by rw [← hss]; exact h.2.2.2))]
          unfold plI
          rw [if_neg (by omega), if_neg (by omega), if_neg (fun h => hs h.2.2.2.2)]
          rfl
    · rw [measI_box_no e3 (fun h => hb ⟨h.1, h.2.1, h.2.2.1⟩)]
      unfold plI
      rw [if_neg (by omega), if_neg (by omega), if_neg (fun h => hb ⟨h.2.2.1, h.2.2.2.1, h.2.1⟩)]
      rfl
  rw [measI_else e1 e2 e3]
  unfold plI
  rw [if_neg (fun h => e1 h.1), if_neg (fun h => e2 h.1), if_neg (fun h => e3 h.1)]
  rfl
theorem measL_pl {L : Nat} {I P : Tr → Option (Int × Int)} (hP : ∀ t, inP L (P t)) (h : ∀ t, I t = upTo 16384 (plI P t)) : ∀ (l : List Tr) (d c : Int), 0 ≤ d → d ≤ L → 0 ≤ c → c ≤ 16384 → measL I l (d + 1, c) = (upTo 16384 (plL P l (d, c))).map (fun p => (p.1 + 1, p.2))
  | [], d, c, h1, h2, h3, h4 => by rw [measL, plL]; unfold upTo; simp only; rw [if_pos h4]; rfl
  | t :: r, d, c, h1, h2, h3, h4 => by
    rw [measL, plL, h t]
    cases hi : plI P t with
    | none => rfl
    | some q =>
      have hq := plI_in hP t q hi
      unfold upTo
      simp only
      by_cases hc : c + q.2 ≤ 16384
      · rw [if_pos (by omega)]
        simp only
        rw [if_neg (by omega), show max (d + 1) (1 + q.1) = max d q.1 + 1 by omega]
        exact measL_pl hP h r _ _ (by omega) (by omega) (by omega) hc
      · have hz : plL P r (max d q.1, c + q.2) = none ∨ ∃ p, plL P r (max d q.1, c + q.2) = some p ∧ ¬ p.2 ≤ 16384 := by
          cases hl : plL P r (max d q.1, c + q.2) with
          | none => exact Or.inl rfl
          | some p =>
            have := plL_in hP r _ p (by simp only; omega) (by simp only; omega) hl
            simp only at this
            exact Or.inr ⟨p, rfl, by omega⟩
        have hR : (match plL P r (max d q.1, c + q.2) with | none => (none : Option (Int × Int)) | some p => if p.2 ≤ 16384 then some p else none) = none := by
          rcases hz with hz | ⟨p, hz, hp⟩
          · rw [hz]
          · rw [hz]; simp only; rw [if_neg hp]
        by_cases hq2 : q.2 ≤ 16384
        · rw [if_pos hq2]
          simp only
          rw [if_pos (by omega)]
          exact (congrArg (Option.map (fun p : Int × Int => (p.1 + 1, p.2))) hR).symm
        · rw [if_neg hq2]
          exact (congrArg (Option.map (fun p : Int × Int => (p.1 + 1, p.2))) hR).symm
theorem plF_odd : ∀ (L : Nat) (s : Tr), (s.kids.length = 1 ∧ ¬ (s.kids.getD 0 tr0).k = 1 ∧ ¬ (s.kids.getD 0 tr0).k = 2 ∧ ¬ (s.kids.getD 0 tr0).k = 3) → plF L s = none
  | 0, s, _ => by rw [plF]
  | L + 1, s, ⟨h1, h2, h3, h4⟩ => by
    rw [plF, odd_none h1 h2 h3 h4]
    split <;> rfl
/-- A simple scalar that is right has no depth. -/
theorem simp_zero {P : Tr → Option (Int × Int)} {t : Tr} {p : Int × Int} (hs : simpR t = true) (c : Int) (h : plL P t.kids (0, c) = some p) : p.1 = 0 := by
  unfold simpR at hs
  simp only [Bool.and_eq_true, decide_eq_true_eq] at hs
  obtain ⟨x, hx⟩ : ∃ x, t.kids = [x] := List.length_eq_one_iff.1 hs.1.2
  rw [hx] at h hs
  simp only [List.getD_cons_zero] at hs
  rw [plL] at h
  cases hi : plI P x with
  | none => rw [hi] at h; cases h
  | some q =>
    rw [hi] at h
    simp only [plL] at h
    cases h
    unfold plI at hi
    split at hi
    · cases hi; simp
    split at hi
    · cases hi; simp
    split at hi
    · rename_i h3; exact absurd h3.1 hs.2
    · cases hi
theorem measF_pl : ∀ (L : Nat) (t : Tr), measF L t = upTo 16384 (plF L t)
  | 0, t => by rw [measF, plF]; rfl
  | L + 1, t => by
    by_cases hc : (sizeF t.ns).2 = 0 ∧ (t.kids.length : Int) = max (sizeF t.ns).1 1
    · have hs := sizeF_in t.ns
      rw [measF_succ hc, plF, if_pos hc]
      have hm := measL_pl (L := L) (plF_in L) (measI_pl (measF_pl L) (plF_odd L)) t.kids 0 (t.kids.length : Int) (by omega) (by omega) (by omega) (by omega)
      rw [Int.zero_add] at hm
      rw [hm]
      cases hl : plL (plF L) t.kids (0, (t.kids.length : Int)) with
      | none => rfl
      | some p =>
        unfold upTo finM
        simp only
        by_cases hp : p.2 ≤ 16384
        · rw [if_pos hp, if_pos hp]
          simp only [Option.map_some]
          by_cases ho : (t.kids.length = 1 ∧ ¬ (t.kids.getD 0 tr0).k = 1 ∧ ¬ (t.kids.getD 0 tr0).k = 2 ∧ ¬ (t.kids.getD 0 tr0).k = 3)
          · rw [odd_none ho.1 ho.2.1 ho.2.2.1 ho.2.2.2] at hl; cases hl
          · rw [simp_same ho]
            by_cases hs2 : simpR t = true
            · rw [if_pos hs2, if_pos hs2, simp_zero hs2 _ hl]
            · rw [if_neg hs2, if_neg hs2]
        · rw [if_neg hp, if_neg hp]; rfl
    · rw [measF, if_neg hc, plF, if_neg hc]; rfl
end Go.Proofs.Ytnkaimkdlpieaaa

/- Sixteen levels, or seventeen and a depth of sixteen at most: the same arrays are right. -/
namespace Go.Proofs.Ytnkaimkdlpieaaa
set_option linter.unusedVariables false
set_option linter.unusedSimpArgs false
open Go.RowKit

theorem plI_mono {M P : Tr → Option (Int × Int)} (h : ∀ t p, M t = some p → P t = some p) (t : Tr) (p : Int × Int) (hp : plI M t = some p) : plI P t = some p := by
  unfold plI at hp ⊢
  split at hp
  · rename_i h1; rw [if_pos h1]; exact hp
  rename_i h1
  rw [if_neg h1]
  split at hp
  · rename_i h2; rw [if_pos h2]; exact hp
  rename_i h2
  rw [if_neg h2]
  split at hp
  · rename_i h3; rw [if_pos h3]; exact h _ p hp
  · cases hp
theorem plL_mono {M P : Tr → Option (Int × Int)} (h : ∀ t p, M t = some p → P t = some p) : ∀ (l : List Tr) (w p : Int × Int), plL M l w = some p → plL P l w = some p
  | [], w, p, hp => by rw [plL] at hp ⊢; exact hp
  | t :: r, w, p, hp => by
    rw [plL] at hp ⊢
    cases hi : plI M t with
    | none => rw [hi] at hp; cases hp
    | some q =>
      rw [hi] at hp
      rw [plI_mono h t q hi]
      exact plL_mono h r _ p hp
theorem plF_mono : ∀ (L : Nat) (t : Tr) (p : Int × Int), plF L t = some p → plF (L + 1) t = some p
  | 0, t, p, h => by rw [plF] at h; cases h
  | L + 1, t, p, h => by
    rw [plF] at h
    rw [plF]
    by_cases hc : (sizeF t.ns).2 = 0 ∧ (t.kids.length : Int) = max (sizeF t.ns).1 1
    · rw [if_pos hc] at h ⊢
      cases hl : plL (plF L) t.kids (0, (t.kids.length : Int)) with
      | none => rw [hl] at h; cases h
      | some q =>
        rw [hl] at h
        rw [plL_mono (plF_mono L) _ _ q hl]
        exact h
    · rw [if_neg hc] at h; cases h
theorem plL_less {B : Int} {M P : Tr → Option (Int × Int)} (h : ∀ t p, simpR t = false → M t = some p → p.1 ≤ B → P t = some p) {L : Nat} (hM : ∀ t, inP L (M t)) : ∀ (l : List Tr) (w p : Int × Int), 0 ≤ w.1 → w.1 ≤ L → plL M l w = some p → p.1 ≤ B → plL P l w = some p
  | [], w, p, _, _, hp, _ => by rw [plL] at hp ⊢; exact hp
  | t :: r, w, p, h1, h2, hp, hB => by
    rw [plL] at hp ⊢
    cases hi : plI M t with
    | none => rw [hi] at hp; cases hp
    | some q =>
      rw [hi] at hp
      simp only at hp
      have hq := plI_in hM t q hi
      have hin := plL_in hM r _ p (by simp only; omega) (by simp only; omega) hp
      simp only at hin
      have hi2 : plI P t = some q := by
        unfold plI at hi ⊢
        split at hi
        · rename_i h1; rw [if_pos h1]; exact hi
        rename_i h1
        rw [if_neg h1]
        split at hi
        · rename_i h2; rw [if_pos h2]; exact hi
        rename_i h2
        rw [if_neg h2]
        split at hi
        · rename_i h3; rw [if_pos h3]; exact h _ q h3.2.2.2.2 hi (by omega)
        · cases hi
      rw [hi2]
      exact plL_less h hM r _ p (by simp only; omega) (by simp only; omega) hp hB
theorem plF_less : ∀ (L : Nat) (t : Tr) (p : Int × Int), 1 ≤ L → plF (L + 1) t = some p → p.1 ≤ L → plF L t = some p
  | 0, t, p, h, _, _ => by omega
  | L + 1, t, p, _, h, hp => by
    rw [plF] at h
    rw [plF]
    by_cases hc : (sizeF t.ns).2 = 0 ∧ (t.kids.length : Int) = max (sizeF t.ns).1 1
    · rw [if_pos hc] at h ⊢
      cases hl : plL (plF (L + 1)) t.kids (0, (t.kids.length : Int)) with
      | none => rw [hl] at h; cases h
      | some q =>
        rw [hl] at h
        simp only at h
        have hqL : q.1 ≤ L := by
          by_cases hs : simpR t = true
          · have := simp_zero hs _ hl; omega
          · rw [if_neg hs] at h
            have e : (q.1 + 1, q.2) = p := Option.some.inj h
            rw [← e] at hp
            simp only at hp
            push_cast at hp
            omega
        have hlow : ∀ s r, simpR s = false → plF (L + 1) s = some r → r.1 ≤ L → plF L s = some r := fun s r hs hr hrL => by
          have h1 : 1 ≤ r.1 := by
            rw [plF] at hr
            split at hr
            · cases hl2 : plL (plF L) s.kids (0, (s.kids.length : Int)) with
              | none => rw [hl2] at hr; cases hr
              | some z =>
                rw [hl2] at hr
                have hz := plL_in (plF_in L) s.kids _ z (by simp) (by simp) hl2
                simp only at hr
                rw [if_neg (by rw [hs]; simp)] at hr
                have e : (z.1 + 1, z.2) = r := Option.some.inj hr
                rw [← e]
                simp only
                omega
            · cases hr
          exact plF_less L s r (by omega) hr hrL
        rw [plL_less (B := (L : Int)) hlow (plF_in (L + 1)) t.kids _ q (by simp) (by simp only; omega) hl hqL]
        exact h
    · rw [if_neg hc] at h; cases h
/-- What the document's Right takes, and its measure, is the program's. -/
theorem both_meas (t : Tr) : measF 16 t = match refF 17 t 16384 with
    | none => none
    | some p => if p.1 ≤ 16 then some p else none := by
  rw [measF_pl, refF_pl 17 t 16384 (by omega)]
  cases h17 : plF 17 t with
  | none =>
    cases h16 : plF 16 t with
    | none => rfl
    | some p => rw [plF_mono 16 t p h16] at h17; cases h17
  | some p =>
    by_cases hp : p.1 ≤ 16
    · rw [plF_less 16 t p (by omega) h17 hp]
      unfold upTo
      simp only
      by_cases hc : p.2 ≤ 16384
      · rw [if_pos hc]; simp only; rw [if_pos hp]
      · rw [if_neg hc]
    · have h16 : plF 16 t = none := by
        cases h : plF 16 t with
        | none => rfl
        | some q =>
          have e := plF_mono 16 t q h
          rw [h17] at e
          cases e
          have := plF_in 16 t p h
          exact absurd this.2.1 hp
      rw [h16]
      unfold upTo
      simp only
      by_cases hc : p.2 ≤ 16384
      · rw [if_pos hc]; simp only; rw [if_neg hp]
      · rw [if_neg hc]
end Go.Proofs.Ytnkaimkdlpieaaa

/- The document's Right, Depth and Cells. -/
namespace Go.Proofs.Ytnkaimkdlpieaaa
set_option linter.unusedVariables false
set_option linter.unusedSimpArgs false
open Go.RowKit

set_option maxRecDepth 100000 in
set_option maxHeartbeats 6400000 in
theorem rmeas_zero : RMeasOK 0 := by
  intro f D W x1 n1 y1 x2 n2 y2 t deep most hdeep hm0 hm1 hD h
  obtain ⟨f, rfl⟩ : ∃ f', f = f' + 1 := by
    cases f with
    | zero => exact h.elim
    | succ f => exact ⟨f, rfl⟩
  obtain rfl := h.1.len
  obtain rfl := h.2.len
  have bd1 := h.1.bounds
  have H : Hid (ArV (f + 1) D W (.slice x1 t.ns.length y1) (.slice x2 t.kids.length y2) t) := h
  have HD : Hid (∀ g, D g → g < W.heap.size) := hD
  have hdp : deep = 17 := by omega
  subst hdp
  clear h hD hdeep
  have X := boxA_new W #[.slice x1 t.ns.length y1, .slice x2 t.kids.length y2] 25
  have g := below_alloc W (.cells #[.slice x1 t.ns.length y1, .slice x2 t.kids.length y2] 25)
  have sv : (W.alloc (.cells #[.slice x1 t.ns.length y1, .slice x2 t.kids.length y2] 25)).heap.size = W.heap.size + 1 := by simp
  have z0 := X.cell 0 rfl
  have z1 := X.cell 1 rfl
  go_enter Try.func31, Try.ntmps31
  go_wp2_with fail
  generalize hA : W.alloc (.cells #[.slice x1 t.ns.length y1, .slice x2 t.kids.length y2] 25) = v at *
  clear hA
  refine (refSize3_any (H.out.1.imp (fun _ h => h) (Agree.of g HD.out)) (fun g hg => by have := HD.out g hg; omega)).mono ?_
  rintro e w' ⟨rfl, hw⟩
  obtain rfl := hw.symm
  generalize (sizeF t.ns).2 = E at *
  generalize (sizeF t.ns).1 = N at *
  by_cases he : E = 0
  · have d1 : (E != 0) = false := by rw [bne_eq_false_iff_eq]; exact he
    clear he
    go_wp2
    go_ret3
    exact ⟨by rw [refF]; rfl, g⟩
  · have d1 : (E != 0) = true := by rw [bne_iff_ne]; exact he
    clear he
    go_wp2
    go_ret3
    exact ⟨by rw [refF]; rfl, g⟩
theorem rmeas_all : ∀ L, L ≤ 17 → RMeasOK L
  | 0, _ => rmeas_zero
  | L + 1, h => rmeas_step (by omega) (rmeas_all L (by omega))
section
variable {D : Nat → Prop} {f : Nat} {W : World} {x1 : Option Addr} {n1 y1 : Nat} {x2 : Option Addr} {n2 y2 : Nat} {t : Tr}
set_option maxRecDepth 100000 in
theorem refRight3_any (hD : ∀ g, D g → g < W.heap.size) (h : ArV f D W (.slice x1 n1 y1) (.slice x2 n2 y2) t) : Calls Try.prog 10 #[.agg #[.slice x1 n1 y1, .slice x2 n2 y2]] W fun e w' => e = .returned (.bool (measF 16 t).isSome) ∧ Below W.heap.size W w' := by
  have k0 := below_alloc W (.cells #[.slice x1 n1 y1, .slice x2 n2 y2] 25)
  have X0 := boxA_new W #[.slice x1 n1 y1, .slice x2 n2 y2] 25
  have s0 : W.heap.size < (W.alloc (.cells #[.slice x1 n1 y1, .slice x2 n2 y2] 25)).heap.size := by simp
  have z0 := X0.cell 0 rfl
  have z1 := X0.cell 1 rfl
  have hm := rmeas_all 17 (by omega) f D _ x1 n1 y1 x2 n2 y2 t 0 16384 (by omega) (by omega) (by omega) (fun g hg => by have := hD g hg; omega) (h.agree (Agree.of k0 hD))
  have HB : Hid (measF 16 t = match refF 17 t 16384 with | none => none | some p => if p.1 ≤ 16 then some p else none) := by unfold Hid; rw [both_meas t]; cases refF 17 t 16384 <;> rfl
  go_enter Try.func10, Try.ntmps10
  go_wp2_with fail
  clear z0 z1 X0
  generalize hA : W.alloc (.cells #[.slice x1 n1 y1, .slice x2 n2 y2] 25) = w0 at *
  clear hA
  refine hm.mono ?_
  rintro e w' ⟨rfl, k⟩
  clear hm
  cases hr : refF 17 t 16384 with
  | none =>
    have HF : Hid (measF 16 t = none) := by unfold Hid; rw [HB.out, hr]
    clear hr
    unfold rEnd
    dsimp only [Option.getD_none, Option.isSome_none]
    go_wp2
    go_ret
    exact ⟨by rw [HF.out]; rfl, k0.trans (k.mono (by omega))⟩
  | some p =>
    obtain ⟨d, c⟩ := p
    unfold rEnd
    dsimp only [Option.getD_some, Option.isSome_some]
    by_cases hd : d ≤ 16
    · have HF : Hid (measF 16 t = some (d, c)) := by unfold Hid; rw [HB.out, hr]; simp only; rw [if_pos hd]
      clear hr
      go_wp2
      go_ret
      exact ⟨by rw [HF.out]; rfl, k0.trans (k.mono (by omega))⟩
    · have HF : Hid (measF 16 t = none) := by unfold Hid; rw [HB.out, hr]; simp only; rw [if_neg hd]
      clear hr
      go_wp2
      go_ret
      exact ⟨by rw [HF.out]; rfl, k0.trans (k.mono (by omega))⟩
set_option maxRecDepth 100000 in
theorem refDepth3_any (hD : ∀ g, D g → g < W.heap.size) (h : ArV f D W (.slice x1 n1 y1) (.slice x2 n2 y2) t) : Calls Try.prog 12 #[.agg #[.slice x1 n1 y1, .slice x2 n2 y2]] W fun e w' => e = .returned (.int .i64 ((measF 16 t).getD (0, 0)).1) ∧ Below W.heap.size W w' := by
  have k0 := below_alloc W (.cells #[.slice x1 n1 y1, .slice x2 n2 y2] 25)
  have X0 := boxA_new W #[.slice x1 n1 y1, .slice x2 n2 y2] 25
  have s0 : W.heap.size < (W.alloc (.cells #[.slice x1 n1 y1, .slice x2 n2 y2] 25)).heap.size := by simp
  have z0 := X0.cell 0 rfl
  have z1 := X0.cell 1 rfl
  have HH : Hid (ArV f D W (.slice x1 n1 y1) (.slice x2 n2 y2) t) := h
  have HD : Hid (∀ g, D g → g < W.heap.size) := hD
  have HB : Hid (measF 16 t = match refF 17 t 16384 with | none => none | some p => if p.1 ≤ 16 then some p else none) := by unfold Hid; rw [both_meas t]; cases refF 17 t 16384 <;> rfl
  clear h hD
  go_enter Try.func12, Try.ntmps12
  go_wp2_with fail
  clear z0 z1
  generalize hA : W.alloc (.cells #[.slice x1 n1 y1, .slice x2 n2 y2] 25) = w0 at *
  clear hA
  refine (refRight3_any (fun g hg => by have := HD.out g hg; omega) (HH.out.agree (Agree.of k0 HD.out))).mono ?_
  rintro e w1 ⟨rfl, k1⟩
  have s1 := k1.size
  cases hm : measF 16 t with
  | none =>
    have HF : Hid (measF 16 t = none) := hm
    clear hm
    dsimp only [Option.isSome_none]
    go_wp2
    go_ret
    exact ⟨by rw [HF.out]; rfl, k0.trans (k1.mono (by omega))⟩
  | some p =>
    have HF : Hid (measF 16 t = some p) := hm
    dsimp only [Option.isSome_some]
    have X1 := X0.below k1 (by omega)
    have z0 := X1.cell 0 rfl
    have z1 := X1.cell 1 rfl
    have k01 : Below W.heap.size W w1 := k0.trans (k1.mono (by omega))
    have hr : refF 17 t 16384 = some p := by
      rw [HB.out] at hm
      cases hx : refF 17 t 16384 with
      | none => rw [hx] at hm; cases hm
      | some q =>
        rw [hx] at hm
        simp only at hm
        split at hm
        · exact hm
        · cases hm
    have HR : Hid (refF 17 t 16384 = some p) := hr
    clear hm hr
    have hme := rmeas_all 17 (by omega) f D w1 x1 n1 y1 x2 n2 y2 t 0 16384 (by omega) (by omega) (by omega) (fun g hg => by have := HD.out g hg; omega) (HH.out.agree (Agree.of k01 HD.out))
    rw [HR.out] at hme
    go_wp2_with fail
    refine hme.mono ?_
    rintro e w2 ⟨rfl, k2⟩
    clear hme
    unfold rEnd
    dsimp only [Option.getD_some, Option.isSome_some]
    obtain ⟨d, c⟩ := p
    go_wp2
    go_ret
    exact ⟨by rw [HF.out]; rfl, k01.trans (k2.mono (by omega))⟩
set_option maxRecDepth 100000 in
theorem refCells3_any (hD : ∀ g, D g → g < W.heap.size) (h : ArV f D W (.slice x1 n1 y1) (.slice x2 n2 y2) t) : Calls Try.prog 14 #[.agg #[.slice x1 n1 y1, .slice x2 n2 y2]] W fun e w' => e = .returned (.int .i64 ((measF 16 t).getD (0, 0)).2) ∧ Below W.heap.size W w' := by
  have k0 := below_alloc W (.cells #[.slice x1 n1 y1, .slice x2 n2 y2] 25)
  have X0 := boxA_new W #[.slice x1 n1 y1, .slice x2 n2 y2] 25
  have s0 : W.heap.size < (W.alloc (.cells #[.slice x1 n1 y1, .slice x2 n2 y2] 25)).heap.size := by simp
  have z0 := X0.cell 0 rfl
  have z1 := X0.cell 1 rfl
  have HH : Hid (ArV f D W (.slice x1 n1 y1) (.slice x2 n2 y2) t) := h
  have HD : Hid (∀ g, D g → g < W.heap.size) := hD
  have HB : Hid (measF 16 t = match refF 17 t 16384 with | none => none | some p => if p.1 ≤ 16 then some p else none) := by unfold Hid; rw [both_meas t]; cases refF 17 t 16384 <;> rfl
  clear h hD
  go_enter Try.func14, Try.ntmps14
  go_wp2_with fail
  clear z0 z1
  generalize hA : W.alloc (.cells #[.slice x1 n1 y1, .slice x2 n2 y2] 25) = w0 at *
  clear hA
  refine (refRight3_any (fun g hg => by have := HD.out g hg; omega) (HH.out.agree (Agree.of k0 HD.out))).mono ?_
  rintro e w1 ⟨rfl, k1⟩
  have s1 := k1.size
  cases hm : measF 16 t with
  | none =>
    have HF : Hid (measF 16 t = none) := hm
    clear hm
    dsimp only [Option.isSome_none]
    go_wp2
    go_ret
    exact ⟨by rw [HF.out]; rfl, k0.trans (k1.mono (by omega))⟩
  | some p =>
    have HF : Hid (measF 16 t = some p) := hm
    dsimp only [Option.isSome_some]
    have X1 := X0.below k1 (by omega)
    have z0 := X1.cell 0 rfl
    have z1 := X1.cell 1 rfl
    have k01 : Below W.heap.size W w1 := k0.trans (k1.mono (by omega))
    have hr : refF 17 t 16384 = some p := by
      rw [HB.out] at hm
      cases hx : refF 17 t 16384 with
      | none => rw [hx] at hm; cases hm
      | some q =>
        rw [hx] at hm
        simp only at hm
        split at hm
        · exact hm
        · cases hm
    have HR : Hid (refF 17 t 16384 = some p) := hr
    clear hm hr
    have hme := rmeas_all 17 (by omega) f D w1 x1 n1 y1 x2 n2 y2 t 0 16384 (by omega) (by omega) (by omega) (fun g hg => by have := HD.out g hg; omega) (HH.out.agree (Agree.of k01 HD.out))
    rw [HR.out] at hme
    go_wp2_with fail
    refine hme.mono ?_
    rintro e w2 ⟨rfl, k2⟩
    clear hme
    unfold rEnd
    dsimp only [Option.getD_some, Option.isSome_some]
    obtain ⟨d, c⟩ := p
    go_wp2
    go_ret
    exact ⟨by rw [HF.out]; rfl, k01.trans (k2.mono (by omega))⟩
end
end Go.Proofs.Ytnkaimkdlpieaaa

/- array.Right, Depth, Cells, IsSimple of any array. -/
namespace Go.Proofs.Ytnkaimkdlpieaaa
set_option linter.unusedVariables false
set_option linter.unusedSimpArgs false
open Go.RowKit

set_option maxRecDepth 100000 in
set_option maxHeartbeats 6400000 in
theorem meas_zero : MeasOK 0 := by
  intro f D W x1 n1 y1 x2 n2 y2 t hD h
  obtain ⟨f, rfl⟩ : ∃ f', f = f' + 1 := by
    cases f with
    | zero => exact h.elim
    | succ f => exact ⟨f, rfl⟩
  obtain rfl := h.1.len
  obtain rfl := h.2.len
  have bd1 := h.1.bounds
  have bd2 := h.2.bounds
  have H : Hid (ArV (f + 1) D W (.slice x1 t.ns.length y1) (.slice x2 t.kids.length y2) t) := h
  have HD : Hid (∀ g, D g → g < W.heap.size) := hD
  clear h hD
  have X0 := boxA_new W #[.slice x1 t.ns.length y1, .slice x2 t.kids.length y2] 25
  have k0 := below_alloc W (.cells #[.slice x1 t.ns.length y1, .slice x2 t.kids.length y2] 25)
  have k1 := below_alloc (W.alloc (.cells #[.slice x1 t.ns.length y1, .slice x2 t.kids.length y2] 25)) (.cells #[.int .i64 0, .int .i64 0] 54)
  have R := boxA_new (W.alloc (.cells #[.slice x1 t.ns.length y1, .slice x2 t.kids.length y2] 25)) #[.int .i64 0, .int .i64 0] 54
  rw [World.size_alloc] at R
  have X := X0.below k1 (by simp)
  have g : Below W.heap.size W _ := k0.trans (k1.mono (by simp))
  have sv : ((W.alloc (.cells #[.slice x1 t.ns.length y1, .slice x2 t.kids.length y2] 25)).alloc (.cells #[.int .i64 0, .int .i64 0] 54)).heap.size = W.heap.size + 1 + 1 := by simp
  have z0 := X.cell 0 rfl
  have z1 := X.cell 1 rfl
  go_enter Try.func30, Try.ntmps30
  go_wp2_with fail
  generalize hA : (W.alloc (.cells #[.slice x1 t.ns.length y1, .slice x2 t.kids.length y2] 25)).alloc (.cells #[.int .i64 0, .int .i64 0] 54) = v at *
  clear hA k0 k1 X0
  refine (arrSize_any (H.out.1.imp (fun _ h => h) (Agree.of g HD.out)) (fun g hg => by have := HD.out g hg; omega)).mono ?_
  rintro e w' ⟨rfl, hw⟩
  obtain rfl := hw.symm
  have hsi := sizeF_in t.ns
  have R0 := R.cell 0 rfl
  have R1 := R.cell 1 rfl
  have Rf0 := R.frozen 0
  have Rf1 := R.frozen 1
  generalize (sizeF t.ns).2 = E at *
  generalize (sizeF t.ns).1 = N at *
  by_cases he : E = 0
  · have d1 : (E != 0) = false := by rw [bne_eq_false_iff_eq]; exact he
    clear he
    by_cases hn : (t.kids.length : Int) = max N 1
    · have d2 : ((t.kids.length : Int) != max N 1) = false := by rw [bne_eq_false_iff_eq]; exact hn
      clear hn
      go_wp2
      have Rd2 := R.set2 (.int .i64 0) (.int .i64 0)
      have r0 := Rd2.cell 0 rfl
      have r1 := Rd2.cell 1 rfl
      refine bodyPost_ret (v := .tuple #[.agg #[.int .i64 0, .int .i64 0], .bool false]) (by simp [results, Try.results30, go_sem, r0, r1]) rfl ?_
      exact ⟨by rw [measF]; rfl, Below.set2 g (by omega) _ _⟩
    · have d2 : ((t.kids.length : Int) != max N 1) = true := by rw [bne_iff_ne]; exact hn
      clear hn
      go_wp2
      have Rd2 := R.set2 (.int .i64 0) (.int .i64 0)
      have r0 := Rd2.cell 0 rfl
      have r1 := Rd2.cell 1 rfl
      refine bodyPost_ret (v := .tuple #[.agg #[.int .i64 0, .int .i64 0], .bool false]) (by simp [results, Try.results30, go_sem, r0, r1]) rfl ?_
      exact ⟨by rw [measF]; rfl, Below.set2 g (by omega) _ _⟩
  · have d1 : (E != 0) = true := by rw [bne_iff_ne]; exact he
    clear he
    go_wp2
    have Rd2 := R.set2 (.int .i64 0) (.int .i64 0)
    have r0 := Rd2.cell 0 rfl
    have r1 := Rd2.cell 1 rfl
    refine bodyPost_ret (v := .tuple #[.agg #[.int .i64 0, .int .i64 0], .bool false]) (by simp [results, Try.results30, go_sem, r0, r1]) rfl ?_
    exact ⟨by rw [measF]; rfl, Below.set2 g (by omega) _ _⟩
theorem meas_all : ∀ L, L ≤ 1000 → MeasOK L
  | 0, _ => meas_zero
  | L + 1, h => meas_step (by omega) (meas_all L (by omega))
section
variable {D : Nat → Prop} {f : Nat} {W : World} {x1 : Option Addr} {n1 y1 : Nat} {x2 : Option Addr} {n2 y2 : Nat} {t : Tr}
set_option maxRecDepth 100000 in
theorem right3_any (hD : ∀ g, D g → g < W.heap.size) (h : ArV f D W (.slice x1 n1 y1) (.slice x2 n2 y2) t) : Calls Try.prog 9 #[.agg #[.slice x1 n1 y1, .slice x2 n2 y2]] W fun e w' => e = .returned (.bool (measF 16 t).isSome) ∧ Below W.heap.size W w' := by
  have k0 := below_alloc W (.cells #[.slice x1 n1 y1, .slice x2 n2 y2] 25)
  have X0 := boxA_new W #[.slice x1 n1 y1, .slice x2 n2 y2] 25
  have s0 : W.heap.size < (W.alloc (.cells #[.slice x1 n1 y1, .slice x2 n2 y2] 25)).heap.size := by simp
  have z0 := X0.cell 0 rfl
  have z1 := X0.cell 1 rfl
  have hm := meas_all 16 (by omega) f D _ x1 n1 y1 x2 n2 y2 t (fun g hg => by have := hD g hg; omega) (h.agree (Agree.of k0 hD))
  rw [show ((16 : Nat) : Int) = 16 from rfl] at hm
  go_enter Try.func9, Try.ntmps9
  go_wp2_with fail
  clear z0 z1 X0
  generalize hA : W.alloc (.cells #[.slice x1 n1 y1, .slice x2 n2 y2] 25) = w0 at *
  clear hA
  refine hm.mono ?_
  rintro e w' ⟨rfl, k⟩
  unfold mEnd
  generalize hO1 : ((measF 16 t).getD (0, 0)).1 = A1 at *
  generalize hO2 : ((measF 16 t).getD (0, 0)).2 = A2 at *
  generalize hO3 : (measF 16 t).isSome = A3 at *
  have HO : Hid ((measF 16 t).isSome = A3) := hO3
  clear hO1 hO2 hO3 hm
  have kp := below_alloc w' (.cells #[.int .i64 A1, .int .i64 A2] 54)
  have sk := k.size
  go_wp2
  go_ret
  exact ⟨by rw [HO.out]; rfl, (by first | exact k0.trans (k.mono (by omega)) | exact k0.trans ((k.trans (kp.mono sk)).mono (by omega)))⟩
set_option maxRecDepth 100000 in
theorem depth3_any (hD : ∀ g, D g → g < W.heap.size) (h : ArV f D W (.slice x1 n1 y1) (.slice x2 n2 y2) t) : Calls Try.prog 11 #[.agg #[.slice x1 n1 y1, .slice x2 n2 y2]] W fun e w' => e = .returned (.int .i64 ((measF 16 t).getD (0, 0)).1) ∧ Below W.heap.size W w' := by
  have k0 := below_alloc W (.cells #[.slice x1 n1 y1, .slice x2 n2 y2] 25)
  have X0 := boxA_new W #[.slice x1 n1 y1, .slice x2 n2 y2] 25
  have s0 : W.heap.size < (W.alloc (.cells #[.slice x1 n1 y1, .slice x2 n2 y2] 25)).heap.size := by simp
  have z0 := X0.cell 0 rfl
  have z1 := X0.cell 1 rfl
  have hm := meas_all 16 (by omega) f D _ x1 n1 y1 x2 n2 y2 t (fun g hg => by have := hD g hg; omega) (h.agree (Agree.of k0 hD))
  rw [show ((16 : Nat) : Int) = 16 from rfl] at hm
  go_enter Try.func11, Try.ntmps11
  go_wp2_with fail
  clear z0 z1 X0
  generalize hA : W.alloc (.cells #[.slice x1 n1 y1, .slice x2 n2 y2] 25) = w0 at *
  clear hA
  refine hm.mono ?_
  rintro e w' ⟨rfl, k⟩
  unfold mEnd
  have HO : Hid (((measF 16 t).getD (0, 0)).1 = ((measF 16 t).getD (0, 0)).1) := rfl
  generalize hO1 : ((measF 16 t).getD (0, 0)).1 = A1 at *
  generalize hO2 : ((measF 16 t).getD (0, 0)).2 = A2 at *
  generalize hO3 : (measF 16 t).isSome = A3 at *
  have HO1 : Hid (((measF 16 t).getD (0, 0)).1 = A1) := hO1
  clear hO1 hO2 hO3 hm
  have P := boxA_new w' #[.int .i64 A1, .int .i64 A2] 54
  have kp := below_alloc w' (.cells #[.int .i64 A1, .int .i64 A2] 54)
  have p0 := P.cell 0 rfl
  have p1 := P.cell 1 rfl
  have sk := k.size
  go_wp2
  go_ret
  exact ⟨by rw [HO1.out]; rfl, k0.trans ((k.trans (kp.mono sk)).mono (by omega))⟩
set_option maxRecDepth 100000 in
theorem cells3_any (hD : ∀ g, D g → g < W.heap.size) (h : ArV f D W (.slice x1 n1 y1) (.slice x2 n2 y2) t) : Calls Try.prog 13 #[.agg #[.slice x1 n1 y1, .slice x2 n2 y2]] W fun e w' => e = .returned (.int .i64 ((measF 16 t).getD (0, 0)).2) ∧ Below W.heap.size W w' := by
  have k0 := below_alloc W (.cells #[.slice x1 n1 y1, .slice x2 n2 y2] 25)
  have X0 := boxA_new W #[.slice x1 n1 y1, .slice x2 n2 y2] 25
  have s0 : W.heap.size < (W.alloc (.cells #[.slice x1 n1 y1, .slice x2 n2 y2] 25)).heap.size := by simp
  have z0 := X0.cell 0 rfl
  have z1 := X0.cell 1 rfl
  have hm := meas_all 16 (by omega) f D _ x1 n1 y1 x2 n2 y2 t (fun g hg => by have := hD g hg; omega) (h.agree (Agree.of k0 hD))
  rw [show ((16 : Nat) : Int) = 16 from rfl] at hm
  go_enter Try.func13, Try.ntmps13
  go_wp2_with fail
  clear z0 z1 X0
  generalize hA : W.alloc (.cells #[.slice x1 n1 y1, .slice x2 n2 y2] 25) = w0 at *
  clear hA
  refine hm.mono ?_
  rintro e w' ⟨rfl, k⟩
  unfold mEnd
  generalize hO1 : ((measF 16 t).getD (0, 0)).1 = A1 at *
  generalize hO2 : ((measF 16 t).getD (0, 0)).2 = A2 at *
  generalize hO3 : (measF 16 t).isSome = A3 at *
  have HO2 : Hid (((measF 16 t).getD (0, 0)).2 = A2) := hO2
  clear hO1 hO2 hO3 hm
  have P := boxA_new w' #[.int .i64 A1, .int .i64 A2] 54
  have kp := below_alloc w' (.cells #[.int .i64 A1, .int .i64 A2] 54)
  have p0 := P.cell 0 rfl
  have p1 := P.cell 1 rfl
  have sk := k.size
  go_wp2
  go_ret
  exact ⟨by rw [HO2.out]; rfl, k0.trans ((k.trans (kp.mono sk)).mono (by omega))⟩
set_option maxRecDepth 100000 in
theorem isSimple3_any (hD : ∀ g, D g → g < W.heap.size) (h : ArV f D W (.slice x1 n1 y1) (.slice x2 n2 y2) t) : Calls Try.prog 15 #[.agg #[.slice x1 n1 y1, .slice x2 n2 y2]] W fun e w' => e = .returned (.bool (simpB t && (measF 16 t).isSome)) ∧ Below W.heap.size W w' := by
  obtain ⟨f, rfl⟩ : ∃ f', f = f' + 1 := by
    cases f with
    | zero => exact h.elim
    | succ f => exact ⟨f, rfl⟩
  have HH : Hid (ArV (f + 1) D W (.slice x1 n1 y1) (.slice x2 n2 y2) t) := h
  have HD : Hid (∀ g, D g → g < W.heap.size) := hD
  clear h hD
  have k0 := below_alloc W (.cells #[.slice x1 n1 y1, .slice x2 n2 y2] 25)
  have X0 := boxA_new W #[.slice x1 n1 y1, .slice x2 n2 y2] 25
  have s0 : W.heap.size < (W.alloc (.cells #[.slice x1 n1 y1, .slice x2 n2 y2] 25)).heap.size := by simp
  have z0 := X0.cell 0 rfl
  have z1 := X0.cell 1 rfl
  go_enter Try.func15, Try.ntmps15
  go_wp2_with fail
  clear z0 z1
  generalize hA : W.alloc (.cells #[.slice x1 n1 y1, .slice x2 n2 y2] 25) = w0 at *
  clear hA
  refine (isSimpleT_any (HH.out.agree (Agree.of k0 HD.out)) (fun g hg => by have := HD.out g hg; omega)).mono ?_
  rintro e w1 ⟨rfl, hw⟩
  have k1 := below_alloc w0 (.cells #[.slice x1 n1 y1, .slice x2 n2 y2] 25)
  rw [← hw] at k1
  clear hw
  have s1 := k1.size
  cases hs : simpB t with
  | false =>
    have HSS : Hid (simpB t = false) := hs
    go_wp2
    go_ret
    exact ⟨by rw [HSS.out]; rfl, k0.trans (k1.mono (by omega))⟩
  | true =>
    have X1 := X0.below k1 (by omega)
    have z0 := X1.cell 0 rfl
    have z1 := X1.cell 1 rfl
    have k01 : Below W.heap.size W w1 := k0.trans (k1.mono (by omega))
    go_wp2_with fail
    refine (right3_any (fun g hg => by have := HD.out g hg; omega) (HH.out.agree (Agree.of k01 HD.out))).mono ?_
    rintro e w2 ⟨rfl, k2⟩
    have HSS : Hid (simpB t = true) := hs
    generalize hO3 : (measF 16 t).isSome = A3 at *
    have HO3 : Hid ((measF 16 t).isSome = A3) := hO3
    clear hs hO3
    go_wp2
    go_ret
    exact ⟨by rw [HSS.out, HO3.out]; rfl, k01.trans (k2.mono (by omega))⟩
end
end Go.Proofs.Ytnkaimkdlpieaaa

/- The document's Same and SameItem of arrays that are the same. -/
namespace Go.Proofs.Ytnkaimkdlpieaaa
set_option linter.unusedVariables false
set_option linter.unusedSimpArgs false
open Go.RowKit

/-- Same answers true of two arrays that are the same, so many levels deep. -/
def SameOK (f : Nat) : Prop := ∀ (D : Nat → Prop) (W : World) (x1 : Option Addr) (n1 y1 : Nat) (x2 : Option Addr) (n2 y2 : Nat) (z1 : Option Addr) (m1 u1 : Nat) (z2 : Option Addr) (m2 u2 : Nat) (t : Tr), (∀ g, D g → g < W.heap.size) → ArV f D W (.slice x1 n1 y1) (.slice x2 n2 y2) t → ArV f D W (.slice z1 m1 u1) (.slice z2 m2 u2) t →
  Calls Try.prog 17 #[.agg #[.slice x1 n1 y1, .slice x2 n2 y2], .agg #[.slice z1 m1 u1, .slice z2 m2 u2]] W fun e w' => e = .returned (.bool true) ∧ Below W.heap.size W w'
section
variable {D : Nat → Prop} {f : Nat} {W : World} {a1 a2 a3 b1 b2 b3 : Option Addr} {c1 c2 c3 d1 d2 d3 : Nat} {t : Tr}
set_option maxRecDepth 100000 in
set_option maxHeartbeats 6400000 in
theorem sameItem_eq (hS : SameOK f) (hB : ∀ g, D g → g < W.heap.size) (h1 : ItV (ArV f D W) D W a1 c1 a2 c2 a3 c3 t) (h2 : ItV (ArV f D W) D W b1 d1 b2 d2 b3 d3 t) :
    Calls Try.prog 33 #[.agg #[.int .u8 t.k, .bool t.b, .slice a1 t.ns.length c1, .slice a2 t.ds.length c2, .int .i32 t.c, .slice a3 t.kids.length c3], .agg #[.int .u8 t.k, .bool t.b, .slice b1 t.ns.length d1, .slice b2 t.ds.length d2, .int .i32 t.c, .slice b3 t.kids.length d3]] W fun e w' => e = .returned (.bool true) ∧ Below W.heap.size W w' := by
  have HS : Hid (SameOK f) := hS
  have H1 : Hid (ItV (ArV f D W) D W a1 c1 a2 c2 a3 c3 t) := h1
  have H2 : Hid (ItV (ArV f D W) D W b1 d1 b2 d2 b3 d3 t) := h2
  clear hS h1 h2
  have k1 := below_alloc W (.cells #[.int .u8 t.k, .bool t.b, .slice a1 t.ns.length c1, .slice a2 t.ds.length c2, .int .i32 t.c, .slice a3 t.kids.length c3] 45)
  have k2 := below_alloc (W.alloc (.cells #[.int .u8 t.k, .bool t.b, .slice a1 t.ns.length c1, .slice a2 t.ds.length c2, .int .i32 t.c, .slice a3 t.kids.length c3] 45)) (.cells #[.int .u8 t.k, .bool t.b, .slice b1 t.ns.length d1, .slice b2 t.ds.length d2, .int .i32 t.c, .slice b3 t.kids.length d3] 45)
  have X := (boxA_new W #[.int .u8 t.k, .bool t.b, .slice a1 t.ns.length c1, .slice a2 t.ds.length c2, .int .i32 t.c, .slice a3 t.kids.length c3] 45).below k2 (by simp)
  have Y := boxA_new (W.alloc (.cells #[.int .u8 t.k, .bool t.b, .slice a1 t.ns.length c1, .slice a2 t.ds.length c2, .int .i32 t.c, .slice a3 t.kids.length c3] 45)) #[.int .u8 t.k, .bool t.b, .slice b1 t.ns.length d1, .slice b2 t.ds.length d2, .int .i32 t.c, .slice b3 t.kids.length d3] 45
  rw [World.size_alloc] at Y
  have sW : ((W.alloc (.cells #[.int .u8 t.k, .bool t.b, .slice a1 t.ns.length c1, .slice a2 t.ds.length c2, .int .i32 t.c, .slice a3 t.kids.length c3] 45)).alloc (.cells #[.int .u8 t.k, .bool t.b, .slice b1 t.ns.length d1, .slice b2 t.ds.length d2, .int .i32 t.c, .slice b3 t.kids.length d3] 45)).heap.size = W.heap.size + 2 := by simp
  have kW : Below W.heap.size W _ := k1.trans (k2.mono (by simp))
  clear k1 k2
  have e0 : (t.k != t.k) = false := by simp
  have e1 : (t.c != t.c) = false := by simp
  have e2 : ((t.kids.length : Int) != (t.kids.length : Int)) = false := by simp
  have x0 := X.cell 0 rfl
  have x1 := X.cell 1 rfl
  have x2 := X.cell 2 rfl
  have x3 := X.cell 3 rfl
  have x4 := X.cell 4 rfl
  have x5 := X.cell 5 rfl
  have y0 := Y.cell 0 rfl
  have y1 := Y.cell 1 rfl
  have y2 := Y.cell 2 rfl
  have y3 := Y.cell 3 rfl
  have y4 := Y.cell 4 rfl
  have y5 := Y.cell 5 rfl
  go_enter Try.func33, Try.ntmps33
  go_wp2_with fail
  clear x0 x1 x2 x3 x4 x5 y0 y1 y2 y3 y4 y5
  generalize hA : (W.alloc (.cells #[.int .u8 t.k, .bool t.b, .slice a1 t.ns.length c1, .slice a2 t.ds.length c2, .int .i32 t.c, .slice a3 t.kids.length c3] 45)).alloc (.cells #[.int .u8 t.k, .bool t.b, .slice b1 t.ns.length d1, .slice b2 t.ds.length d2, .int .i32 t.c, .slice b3 t.kids.length d3] 45) = v at *
  clear hA
  have kA : Agree D W v := Agree.of kW hB
  have hD : ∀ g, D g → g < v.heap.size := fun g h => by have := hB g h; omega
  have HB : Hid (∀ g, D g → g < W.heap.size) := hB
  refine (same_rat ((H1.out.rn.imp (fun _ h => h) kA).rd hD) ((H1.out.rd.imp (fun _ h => h) kA).rd hD) ((H2.out.rn.imp (fun _ h => h) kA).rd hD) ((H2.out.rd.imp (fun _ h => h) kA).rd hD)).mono ?_
  clear hB hD kA
  rintro e w1 ⟨rfl, k1⟩
  have s1 := k1.size
  have X1 := X.below k1 (by omega)
  have Y1 := Y.below k1 (by omega)
  have x5 := X1.cell 5 rfl
  have y5 := Y1.cell 5 rfl
  go_wp2
  clear x5 y5
  have kW1 : Below W.heap.size W w1 := kW.trans (k1.mono (by omega))
  go_loopw [5] (fun iv wr => ∃ i : Nat, iv = .int .i64 i ∧ i ≤ t.kids.length ∧ Below w1.heap.size w1 wr) (fun iv _ => t.kids.length - (intOf iv).toNat)
  case atStart => exact ⟨0, rfl, Nat.zero_le _, Below.refl _ _⟩
  case round =>
    obtain ⟨i, rfl, hil, hb⟩ := hrel
    have hsz := hb.size
    have X2 := X1.below hb (by omega)
    have Y2 := Y1.below hb (by omega)
    have x5 := X2.cell 5 rfl
    have y5 := Y2.cell 5 rfl
    have hbW : Below W.heap.size W wr := kW1.trans (hb.mono (by omega))
    have bd1 := H1.out.bx.bounds
    have bd2 := H2.out.bx.bounds
    by_cases hlt : i < t.kids.length
    · obtain ⟨g1, o1, rfl, hg1, hc1⟩ := H1.out.bx.ptr (by omega)
      obtain ⟨g2, o2, rfl, hg2, hc2⟩ := H2.out.bx.ptr (by omega)
      obtain ⟨p1, m1, q1, p2, m2, q2, e1, e2, hp⟩ := hc1 i hlt
      obtain ⟨r1, l1, s1, r2, l2, s2, f1, f2, hr⟩ := hc2 i hlt
      have E1 := (hbW.cell (p := ⟨g1, o1 + i * 2, none⟩) (HB.out g1 hg1)).trans e1
      have E2 := (hbW.cell (p := ⟨g1, o1 + i * 2 + 1, none⟩) (HB.out g1 hg1)).trans e2
      have F1 := (hbW.cell (p := ⟨g2, o2 + i * 2, none⟩) (HB.out g2 hg2)).trans f1
      have F2 := (hbW.cell (p := ⟨g2, o2 + i * 2 + 1, none⟩) (HB.out g2 hg2)).trans f2
      have HP : Hid (ArV f D wr (.slice p1 m1 q1) (.slice p2 m2 q2) (t.kids.getD i tr0)) := hp.agree (Agree.of hbW HB.out)
      have HR : Hid (ArV f D wr (.slice r1 l1 s1) (.slice r2 l2 s2) (t.kids.getD i tr0)) := hr.agree (Agree.of hbW HB.out)
      have HBr : Hid (∀ g, D g → g < wr.heap.size) := fun g h => by have := HB.out g h; have := hbW.size; omega
      clear hc1 hc2 hp hr e1 e2 f1 f2
      go_wp2_with fail
      go_region_with (go_at_call 17; refine (HS.out D _ _ _ _ _ _ _ _ _ _ _ _ _ (t.kids.getD i tr0) (by first | exact HBr.out | (intro g hg; have := HBr.out g hg; exact this)) (by first | exact HP.out | exact HP.out.agree (fun _ _ => rfl)) (by first | exact HR.out | exact HR.out.agree (fun _ _ => rfl))).mono ?_; rintro e w2 ⟨rfl, k2⟩)
      all_goals
        have k2' : Below wr.heap.size wr w2 := by first | exact k2 | exact below_undrew k2
        go_wp2
        go_roundw
        case rel => exact ⟨i + 1, by go_num, by omega, hb.trans (k2'.mono (by omega))⟩
        case measure => simp [intOf]; omega
    · go_wp2
      go_ret
      exact ⟨rfl, hbW⟩
end
set_option maxRecDepth 100000 in
set_option maxHeartbeats 6400000 in
theorem same_step {f : Nat} (hS : SameOK f) : SameOK (f + 1) := by
  intro D W x1 n1 y1 x2 n2 y2 z1 m1 u1 z2 m2 u2 t hB h1 h2
  obtain rfl := h1.1.len
  obtain rfl := h2.1.len
  obtain rfl := h1.2.len
  obtain rfl := h2.2.len
  have HS : Hid (SameOK f) := hS
  have H1 : Hid (ArV (f + 1) D W (.slice x1 t.ns.length y1) (.slice x2 t.kids.length y2) t) := h1
  have H2 : Hid (ArV (f + 1) D W (.slice z1 t.ns.length u1) (.slice z2 t.kids.length u2) t) := h2
  have bd1 := h1.1.bounds
  have bd2 := h2.1.bounds
  have bd3 := h1.2.bounds
  have bd4 := h2.2.bounds
  have HB : Hid (∀ g, D g → g < W.heap.size) := hB
  clear hS h1 h2 hB
  have k1 := below_alloc W (.cells #[.slice x1 t.ns.length y1, .slice x2 t.kids.length y2] 25)
  have k2 := below_alloc (W.alloc (.cells #[.slice x1 t.ns.length y1, .slice x2 t.kids.length y2] 25)) (.cells #[.slice z1 t.ns.length u1, .slice z2 t.kids.length u2] 25)
  have X := (boxA_new W #[.slice x1 t.ns.length y1, .slice x2 t.kids.length y2] 25).below k2 (by simp)
  have Y := boxA_new (W.alloc (.cells #[.slice x1 t.ns.length y1, .slice x2 t.kids.length y2] 25)) #[.slice z1 t.ns.length u1, .slice z2 t.kids.length u2] 25
  rw [World.size_alloc] at Y
  have sW : ((W.alloc (.cells #[.slice x1 t.ns.length y1, .slice x2 t.kids.length y2] 25)).alloc (.cells #[.slice z1 t.ns.length u1, .slice z2 t.kids.length u2] 25)).heap.size = W.heap.size + 2 := by simp
  have kW : Below W.heap.size W _ := k1.trans (k2.mono (by simp))
  clear k1 k2
  have e0 : ((t.ns.length : Int) != (t.ns.length : Int)) = false := by simp
  have e2 : ((t.kids.length : Int) != (t.kids.length : Int)) = false := by simp
  have p0 := X.cell 0 rfl
  have p1 := X.cell 1 rfl
  have q0 := Y.cell 0 rfl
  have q1 := Y.cell 1 rfl
  go_enter Try.func17, Try.ntmps17
  go_wp2
  clear p0 p1 q0 q1
  generalize hA : (W.alloc (.cells #[.slice x1 t.ns.length y1, .slice x2 t.kids.length y2] 25)).alloc (.cells #[.slice z1 t.ns.length u1, .slice z2 t.kids.length u2] 25) = v at *
  clear hA
  go_loopw [5] (fun iv wr => ∃ i : Nat, iv = .int .i64 i ∧ i ≤ t.ns.length ∧ Below v.heap.size v wr) (fun iv _ => t.ns.length - (intOf iv).toNat)
  case atStart => exact ⟨0, rfl, Nat.zero_le _, Below.refl _ _⟩
  case round =>
    obtain ⟨i, rfl, hil, hb⟩ := hrel
    have hsz := hb.size
    have X2 := X.below hb (by omega)
    have Y2 := Y.below hb (by omega)
    have hbW : Below W.heap.size W wr := kW.trans (hb.mono (by omega))
    have p0 := X2.cell 0 rfl
    have q0 := Y2.cell 0 rfl
    by_cases hlt : i < t.ns.length
    · obtain ⟨g1, o1, rfl, hg1, hc1⟩ := H1.out.1.ptr (by omega)
      obtain ⟨g2, o2, rfl, hg2, hc2⟩ := H2.out.1.ptr (by omega)
      have E1 := (hbW.cell (p := ⟨g1, o1 + i, none⟩) (HB.out g1 hg1)).trans (hc1 i hlt)
      have E2 := (hbW.cell (p := ⟨g2, o2 + i, none⟩) (HB.out g2 hg2)).trans (hc2 i hlt)
      clear hc1 hc2
      generalize t.ns.getD i 0 = Z at *
      have hd : (Z != Z) = false := by simp
      go_wp2
      go_region
      all_goals
        go_wp2
        go_roundw
        case rel => exact ⟨i + 1, by go_num, by omega, (by first | exact hb | exact hb.trans ⟨rfl, rfl, rfl, Nat.le_refl _, fun _ _ => rfl⟩)⟩
        case measure => simp [intOf]; omega
    · have p1 := X2.cell 1 rfl
      go_wp2
      clear p0 q0 p1
      go_loopw [6] (fun iv wr2 => ∃ i : Nat, iv = .int .i64 i ∧ i ≤ t.kids.length ∧ Below wr.heap.size wr wr2) (fun iv _ => t.kids.length - (intOf iv).toNat)
      case atStart => exact ⟨0, rfl, Nat.zero_le _, Below.refl _ _⟩
      case round =>
        obtain ⟨i, rfl, hil2, hb2⟩ := hrel
        have hsz2 := hb2.size
        have hbW2 := hbW.trans (hb2.mono (by have := hbW.size; omega))
        have X3 := X2.below hb2 (by omega)
        have Y3 := Y2.below hb2 (by omega)
        have p1 := X3.cell 1 rfl
        have q1 := Y3.cell 1 rfl
        by_cases hlt2 : i < t.kids.length
        · obtain ⟨g1, o1, rfl, hg1, hc1⟩ := H1.out.2.ptr (by omega)
          obtain ⟨g2, o2, rfl, hg2, hc2⟩ := H2.out.2.ptr (by omega)
          obtain ⟨a1, c1, a2, c2, a3, c3, ⟨e0, e1, e2, e3, e4, e5⟩, hp⟩ := hc1 i hlt2
          obtain ⟨b1, d1, b2, d2, b3, d3, ⟨f0, f1, f2, f3, f4, f5⟩, hr⟩ := hc2 i hlt2
          have E0 := (hbW2.cell (p := ⟨g1, o1 + i * 6, none⟩) (HB.out g1 hg1)).trans e0
          have E1 := (hbW2.cell (p := ⟨g1, o1 + i * 6 + 1, none⟩) (HB.out g1 hg1)).trans e1
          have E2 := (hbW2.cell (p := ⟨g1, o1 + i * 6 + 2, none⟩) (HB.out g1 hg1)).trans e2
          have E3 := (hbW2.cell (p := ⟨g1, o1 + i * 6 + 3, none⟩) (HB.out g1 hg1)).trans e3
          have E4 := (hbW2.cell (p := ⟨g1, o1 + i * 6 + 4, none⟩) (HB.out g1 hg1)).trans e4
          have E5 := (hbW2.cell (p := ⟨g1, o1 + i * 6 + 5, none⟩) (HB.out g1 hg1)).trans e5
          have F0 := (hbW2.cell (p := ⟨g2, o2 + i * 6, none⟩) (HB.out g2 hg2)).trans f0
          have F1 := (hbW2.cell (p := ⟨g2, o2 + i * 6 + 1, none⟩) (HB.out g2 hg2)).trans f1
          have F2 := (hbW2.cell (p := ⟨g2, o2 + i * 6 + 2, none⟩) (HB.out g2 hg2)).trans f2
          have F3 := (hbW2.cell (p := ⟨g2, o2 + i * 6 + 3, none⟩) (HB.out g2 hg2)).trans f3
          have F4 := (hbW2.cell (p := ⟨g2, o2 + i * 6 + 4, none⟩) (HB.out g2 hg2)).trans f4
          have F5 := (hbW2.cell (p := ⟨g2, o2 + i * 6 + 5, none⟩) (HB.out g2 hg2)).trans f5
          have HP : Hid (ItV (ArV f D wr) D wr a1 c1 a2 c2 a3 c3 (t.kids.getD i tr0)) := hp.agree (Agree.of hbW2 HB.out)
          have HR : Hid (ItV (ArV f D wr) D wr b1 d1 b2 d2 b3 d3 (t.kids.getD i tr0)) := hr.agree (Agree.of hbW2 HB.out)
          have HBr : Hid (∀ g, D g → g < wr.heap.size) := fun g h => by have := HB.out g h; have := hbW2.size; omega
          clear hc1 hc2 hp hr e0 e1 e2 e3 e4 e5 f0 f1 f2 f3 f4 f5
          generalize t.kids.getD i tr0 = T at *
          go_wp2
          go_region_with (go_at_call 33; refine (sameItem_eq HS.out (by first | exact HBr.out | (intro g hg; have := HBr.out g hg; exact this)) (by first | exact HP.out | exact HP.out.agree (fun _ _ => rfl)) (by first | exact HR.out | exact HR.out.agree (fun _ _ => rfl))).mono ?_; rintro e w2 ⟨rfl, k2⟩)
          all_goals
            have k2' : Below wr.heap.size wr w2 := by first | exact k2 | exact below_undrew k2
            go_wp2
            go_roundw
            case rel => exact ⟨i + 1, by go_num, by omega, hb2.trans (k2'.mono (by omega))⟩
            case measure => simp [intOf]; omega
        · go_wp2
          go_ret
          exact ⟨rfl, hbW2⟩
theorem same_all : ∀ f, SameOK f
  | 0 => by intro D W x1 n1 y1 x2 n2 y2 z1 m1 u1 z2 m2 u2 t hB h1 h2; exact h1.elim
  | f + 1 => same_step (same_all f)
end Go.Proofs.Ytnkaimkdlpieaaa
