/- array.measuredItem at a box, and at what is none. -/
import Derived.Test.YthfmicokddcglaaGreatDoorKZ
import Derived.Test.YthfmicokddcglaaGreatDoorM1
import Derived.Test.YthfmicokddcglaaGreatDoorM2
namespace Go.Proofs.YthfmicokddcglaaGreatDoor
set_option linter.unusedVariables false
set_option linter.unusedSimpArgs false
open Go.RowKit

section
variable {D : Nat → Prop} {f : Nat} {w : World} {a1 a2 a3 : Option Addr} {c1 c2 c3 : Nat} {t : Tr}
end
end Go.Proofs.YthfmicokddcglaaGreatDoor

/- array.measured, to any depth. -/
namespace Go.Proofs.YthfmicokddcglaaGreatDoor
set_option linter.unusedVariables false
set_option linter.unusedSimpArgs false
open Go.RowKit

def inL (L : Nat) (o : Option (Int × Int)) : Prop := ∀ p, o = some p → 0 ≤ p.1 ∧ p.1 ≤ L ∧ 0 ≤ p.2 ∧ p.2 ≤ 16384
theorem measI_in {L : Nat} {M : Tr → Option (Int × Int)} (hM : ∀ t, inL L (M t)) (t : Tr) : inL L (measI M t) := by
  intro p hp
  by_cases e1 : t.k = 1
  · by_cases h : RightP t.b t.ns t.ds ∧ t.c = 0 ∧ t.kids.length = 0
    · rw [measI_num e1 h] at hp; cases hp; simp
    · rw [measI_num_no e1 h] at hp; cases hp
  by_cases e2 : t.k = 2
  · by_cases h : okR t.c ∧ noneB t = true ∧ t.kids.length = 0
    · rw [measI_ch e2 h] at hp; cases hp; simp
    · rw [measI_ch_no e2 h] at hp; cases hp
  by_cases e3 : t.k = 3
  · by_cases h : noneB t = true ∧ t.c = 0 ∧ t.kids.length = 1 ∧ simpB (t.kids.getD 0 tr0) = false
    · rw [measI_box e3 h] at hp; exact hM _ p hp
    · rw [measI_box_no e3 h] at hp; cases hp
  rw [measI_else e1 e2 e3] at hp; cases hp
theorem measL_in {L : Nat} {I : Tr → Option (Int × Int)} (hI : ∀ t, inL L (I t)) : ∀ (l : List Tr) (w p : Int × Int), 0 ≤ w.1 → w.1 ≤ L + 1 → 0 ≤ w.2 → w.2 ≤ 16384 → measL I l w = some p → 0 ≤ p.1 ∧ p.1 ≤ L + 1 ∧ 0 ≤ p.2 ∧ p.2 ≤ 16384
  | [], w, p, h1, h2, h3, h4, h => by rw [measL] at h; cases h; exact ⟨h1, h2, h3, h4⟩
  | t :: r, w, p, h1, h2, h3, h4, h => by
    rw [measL] at h
    cases hi : I t with
    | none => rw [hi] at h; cases h
    | some q =>
      rw [hi] at h
      have hq := hI t q hi
      simp only at h
      by_cases hc : 16384 < w.2 + q.2
      · rw [if_pos hc] at h; cases h
      · rw [if_neg hc] at h
        exact measL_in hI r _ p (by simp only; omega) (by simp only; omega) (by simp only; omega) (by simp only; omega) h
theorem measF_in : ∀ (L : Nat) (t : Tr), inL L (measF L t)
  | 0, t => by intro p hp; rw [measF] at hp; cases hp
  | L + 1, t => by
    intro p hp
    rw [measF] at hp
    by_cases hc : (sizeF t.ns).2 = 0 ∧ (t.kids.length : Int) = max (sizeF t.ns).1 1
    · rw [if_pos hc] at hp
      cases hl : measL (measI (measF L)) t.kids (1, (t.kids.length : Int)) with
      | none => rw [hl] at hp; cases hp
      | some q =>
        rw [hl] at hp
        have hs := sizeF_in t.ns
        have := measL_in (fun s => measI_in (measF_in L) s) t.kids _ q (by simp only; omega) (by simp only; omega) (by simp only; omega) (by simp only; omega) hl
        simp only at hp
        cases hp
        refine ⟨?_, ?_, this.2.2.1, this.2.2.2⟩
        · simp only; split
          · omega
          · exact this.1
        · simp only; split
          · omega
          · have := this.2.1; push_cast; omega
    · rw [if_neg hc] at hp; cases hp
theorem measL_step {I : Tr → Option (Int × Int)} {l : List Tr} {i : Nat} (hi : i < l.length) (w : Int × Int) : measL I (l.drop i) w = match I (l.getD i tr0) with
    | none => none
    | some p => if 16384 < w.2 + p.2 then none else measL I (l.drop (i + 1)) (max w.1 (1 + p.1), w.2 + p.2) := by
  rw [List.drop_eq_getElem_cons hi, measL]
  have e : l.getD i tr0 = l[i] := by simp [List.getD, hi]
  rw [e]
  cases I l[i] <;> rfl
theorem measL_end {I : Tr → Option (Int × Int)} {l : List Tr} {i : Nat} (hi : l.length ≤ i) (w : Int × Int) : measL I (l.drop i) w = some w := by
  rw [List.drop_eq_nil_of_le hi, measL]
def finM (t : Tr) (o : Option (Int × Int)) : Option (Int × Int) := match o with | none => none | some p => some (if simpB t = true then 0 else p.1, p.2)
theorem measF_succ {L : Nat} {t : Tr} (hc : (sizeF t.ns).2 = 0 ∧ (t.kids.length : Int) = max (sizeF t.ns).1 1) : measF (L + 1) t = finM t (measL (measI (measF L)) t.kids (1, (t.kids.length : Int))) := by
  rw [measF, if_pos hc]
  unfold finM
  cases measL (measI (measF L)) t.kids (1, (t.kids.length : Int)) <;> rfl
end Go.Proofs.YthfmicokddcglaaGreatDoor
