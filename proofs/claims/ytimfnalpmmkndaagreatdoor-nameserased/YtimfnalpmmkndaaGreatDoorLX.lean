/- A row of characters within a longer one: the tokens there are the same. -/
import Derived.Test.YtimfnalpmmkndaaGreatDoorLC
namespace Go.Proofs.YtimfnalpmmkndaaGreatDoor
set_option linter.unusedVariables false
set_option linter.unusedSimpArgs false
open Go.RowKit

theorem runEnd_in2 {p : Int → Bool} {cs : List Int} {i : Nat} (hi : i ≤ cs.length) {m : Nat} (h1 : i ≤ m) (h2 : m < runEnd p cs i) : p (cs.getD m 0) = true := by
 have hle := runEnd_le p cs i hi
 unfold runEnd at h2
 have hm : m - i < ((cs.drop i).takeWhile p).length := by omega
 have h3 : p ((cs.drop i).takeWhile p)[m - i] = true := List.all_eq_true.1 List.all_takeWhile _ (List.getElem_mem hm)
 have hml : m < cs.length := by
  have h5 := (List.takeWhile_sublist p (l := cs.drop i)).length_le
  rw [List.length_drop] at h5
  omega
 have h4 : ((cs.drop i).takeWhile p)[m - i] = cs.getD m 0 := by
  have e1 := (List.takeWhile_prefix p (l := cs.drop i)).getElem hm
  have e2 : cs.getD m 0 = cs[m] := by rw [List.getD_eq_getElem?_getD, List.getElem?_eq_getElem hml]; rfl
  rw [e1, List.getElem_drop, e2]
  simp only [show i + (m - i) = m by omega]
 rw [h4] at h3
 exact h3
theorem runEnd_step2 {p : Int → Bool} {cs : List Int} {i : Nat} (hi : i < cs.length) (h : p (cs.getD i 0) = true) : runEnd p cs i = runEnd p cs (i + 1) := by
 have e : cs.getD i 0 = cs[i] := by simp [List.getD, hi]
 rw [e] at h
 unfold runEnd
 rw [List.drop_eq_getElem_cons hi, List.takeWhile_cons, if_pos h, List.length_cons]
 omega
theorem runEnd_stop2 {p : Int → Bool} {cs : List Int} {i : Nat} (hi : i < cs.length) (h : p (cs.getD i 0) = false) : runEnd p cs i = i := by
 have e : cs.getD i 0 = cs[i] := by simp [List.getD, hi]
 rw [e] at h
 unfold runEnd
 rw [List.drop_eq_getElem_cons hi, List.takeWhile_cons, if_neg (by rw [h]; simp)]
 simp
theorem runEnd_out {p : Int → Bool} {cs : List Int} : ∀ (n i : Nat), cs.length - i ≤ n → i ≤ cs.length → runEnd p cs i < cs.length → p (cs.getD (runEnd p cs i) 0) = false
 | 0, i, hn, hi, h => by
  have := runEnd_le p cs i hi
  omega
 | n + 1, i, hn, hi, h => by
  by_cases hil : i < cs.length
  · by_cases hp : p (cs.getD i 0) = true
    · rw [runEnd_step2 hil hp] at h ⊢
      exact runEnd_out n (i + 1) (by omega) (by omega) h
    · have hp' : p (cs.getD i 0) = false := by simpa using hp
      rw [runEnd_stop2 hil hp']
      exact hp'
  · have := runEnd_le p cs i hi
    omega
theorem pass_stop {cs : List Int} {i : Nat} (hi : i < cs.length) (hb : bl (cs.getD i 0) = false) (h9 : ¬ cs.getD i 0 = 9053) : passTo cs i = i := by
 unfold passTo
 rw [runEnd_stop2 hi hb, if_neg (fun h => h9 h.2)]
theorem kind_no (ne : ByteArray → Int) (cs : List Int) (i : Nat) (h0 : (nextF ne cs i).2.2 = 0) : ¬ (nextF ne cs i).1 = 0 := by
 unfold nextF at h0 ⊢
 by_cases h1 : cs.getD i 0 = 175 ∨ dg (cs.getD i 0) = true
 · rw [if_pos h1]; simp
 rw [if_neg h1] at h0 ⊢
 by_cases h2 : cs.getD i 0 = 39
 · rw [if_pos h2] at h0 ⊢
   cases hq : qscan cs cs.length (i + 1) [] with
   | none => rw [hq] at h0; simp at h0
   | some p => simp
 rw [if_neg h2] at h0 ⊢
 by_cases h3 : bn (cs.getD i 0) = true
 · rw [if_pos h3] at h0 ⊢
   by_cases h4 : runEnd inm cs i - i ≤ 32
   · rw [if_pos h4]; simp
   · rw [if_neg h4] at h0; simp at h0
 rw [if_neg h3] at h0 ⊢
 by_cases h4 : cs.getD i 0 = 9109
 · rw [if_pos h4]; simp
 rw [if_neg h4] at h0 ⊢
 by_cases h5 : cs.getD i 0 ∈ decs prims prims.size 0
 · rw [if_pos h5]; simp
 rw [if_neg h5] at h0 ⊢
 by_cases h6 : cs.getD i 0 ∈ decs sgns sgns.size 0
 · rw [if_pos h6]; simp
 rw [if_neg h6] at h0; simp at h0
def ops : Nat → List (Int × ByteArray) → Option Nat
 | op, [] => some op
 | op, t :: r => if t.1 = 0 ∨ t.2 = diaT ∧ op = 0 then none else if t.2 = opT then ops (op + 1) r else if t.2 = clT ∧ 0 < op then ops (op - 1) r else ops op r
theorem runes_app2 (a b : List Int) : (runesBytes (a ++ b)).data.toList = (runesBytes a).data.toList ++ (runesBytes b).data.toList := by
 induction a with
 | nil => rfl
 | cons c a ih => rw [List.cons_append, runesBytes_cons, runesBytes_cons, ih, List.append_assoc]
theorem cut_whole (ds : List Int) : cutText ds 0 ds.length = runesBytes ds := by
 unfold cutText
 rw [List.drop_zero, Nat.sub_zero, List.take_length]
end Go.Proofs.YtimfnalpmmkndaaGreatDoor
