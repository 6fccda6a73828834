/- Characters that are written as bytes are read again. -/
import Derived.Test.YtjehbnpamahepaaGreatDoorLA
import Derived.Test.YtjehbnpamahepaaGreatDoorL2
namespace Go.Proofs.YtjehbnpamahepaaGreatDoor
set_option linter.unusedVariables false
set_option linter.unusedSimpArgs false
open Go.RowKit

end Go.Proofs.YtjehbnpamahepaaGreatDoor

/- Where tokens stand: each behind the one before. -/
namespace Go.Proofs.YtjehbnpamahepaaGreatDoor
set_option linter.unusedVariables false
set_option linter.unusedSimpArgs false
open Go.RowKit

end Go.Proofs.YtjehbnpamahepaaGreatDoor

/- lex.Count; slices.Contains of kinds. -/
namespace Go.Proofs.YtjehbnpamahepaaGreatDoor
set_option linter.unusedVariables false
set_option linter.unusedSimpArgs false
open Go.RowKit Go.Shelf

/-- A slice of small numbers that is read. -/
def RdK (B : Nat) (w : World) (v : Value) (ks : List Int) : Prop :=
  ∃ a cap, v = .slice a ks.length cap ∧ ks.length ≤ cap ∧ cap ≤ 9223372036854775807 ∧
    (ks.length = 0 ∨ ∃ b off, a = some ⟨b, off, none⟩ ∧ b < B ∧ ∀ j, j < ks.length → w.cell? ⟨b, off + j, none⟩ = some (.int .u8 (ks.getD j 0)))
theorem RdK.below {B : Nat} {w w' : World} {v : Value} {ks : List Int} (h : RdK B w v ks) (hb : Below B w w') : RdK B w' v ks := by
  obtain ⟨a, cap, hv, h1, h2, h3⟩ := h
  refine ⟨a, cap, hv, h1, h2, ?_⟩
  rcases h3 with h3 | ⟨b, off, h4, h5, h6⟩
  · exact Or.inl h3
  · exact Or.inr ⟨b, off, h4, h5, fun j hj => (hb.cell (p := ⟨b, off + j, none⟩) h5).trans (h6 j hj)⟩

/-- How many of some tokens are of some kinds. -/
def cnt (ks : List Int) (l : List (Int × ByteArray × Nat × Int)) : Nat := (l.filter (fun x => decide (x.1 ∈ ks))).length
theorem flat_get {xs : List TokG} {i : Nat} (hi : i < xs.length) (k : Nat) (hk : k < 5) : (xs.flatMap TokG.cells)[5 * i + k]? = (xs[i]).cells[k]? := by
  induction xs generalizing i with
  | nil => simp at hi
  | cons x xs ih =>
    rw [List.flatMap_cons]
    cases i with
    | zero => rw [Nat.mul_zero, Nat.zero_add, List.getElem?_append_left (by simpa [TokG.cells] using hk)]; rfl
    | succ i =>
      rw [List.getElem?_append_right (by simp [TokG.cells]; omega)]
      have e : 5 * (i + 1) + k - x.cells.length = 5 * i + k := by simp [TokG.cells]; omega
      rw [e, ih (by simpa using hi)]
      rfl
theorem row_ptr {W : World} {base e size n : Nat} {a : Option Addr} {c : Nat} {xs : List Value} (h : W.ownsRow base e size (.slice a n c) n xs) (h0 : 0 < n) : ∃ g, a = some ⟨g, 0, none⟩ ∧ n ≤ c ∧ c ≤ 9223372036854775807 ∧ g < W.heap.size := by
  obtain ⟨_, h | ⟨g, cap, cur, hv, hg, hh, h1, h2, _, _⟩⟩ := h
  · obtain ⟨_, h3, _⟩ := Value.slice.inj h.1; omega
  · obtain ⟨rfl, _, rfl⟩ := Value.slice.inj hv
    exact ⟨g, rfl, h1, by unfold maxLen at h2; omega, lt_of_block hh⟩

theorem allF_len (ne : ByteArray → Int) (s : ByteArray) : (allF ne s).1.length ≤ 1025 := by
  unfold allF
  by_cases h1 : 1024 < s.size
  · rw [if_pos h1]; simp
  rw [if_neg h1]
  by_cases h2 : ¬ (scanR s s.size 0 []).2.1 = 0
  · rw [if_pos h2]; simp
  rw [if_neg h2]
  by_cases h3 : (lastEr (items ne (scanR s s.size 0 []).1)).1 = 0
  · rw [if_pos h3]
    have h4 := scanR_len s s.size 0 [] (by simp) (by omega)
    have h5 : (items ne (scanR s s.size 0 []).1).length ≤ _ := itemsF_len ne (scanR s s.size 0 []).1 _ _
    simp only
    omega
  · rw [if_neg h3]; simp

end Go.Proofs.YtjehbnpamahepaaGreatDoor

/- Cutting at diamonds: what is meant. -/
namespace Go.Proofs.YtjehbnpamahepaaGreatDoor
set_option linter.unusedVariables false
set_option linter.unusedSimpArgs false
open Go.RowKit

end Go.Proofs.YtjehbnpamahepaaGreatDoor

/- What lex.Split answers; tokens in a row. -/
namespace Go.Proofs.YtjehbnpamahepaaGreatDoor
set_option linter.unusedVariables false
set_option linter.unusedSimpArgs false
open Go.RowKit Go.Shelf

/-- What is so where a line is taken. -/
theorem allF_ok {ne : ByteArray → Int} {s : ByteArray} (h : (allF ne s).2.1 = 0) : s.size ≤ 1024 ∧ (scanR s s.size 0 []).2.1 = 0 ∧ (allF ne s).1 = items ne (scanR s s.size 0 []).1 ∧ (lastEr (items ne (scanR s s.size 0 []).1)).1 = 0 := by
  unfold allF at h ⊢
  by_cases h1 : 1024 < s.size
  · rw [if_pos h1] at h; exact absurd h (by decide)
  rw [if_neg h1] at h ⊢
  by_cases h2 : ¬ (scanR s s.size 0 []).2.1 = 0
  · rw [if_pos h2] at h; exact absurd h h2
  rw [if_neg h2] at h ⊢
  by_cases h3 : (lastEr (items ne (scanR s s.size 0 []).1)).1 = 0
  · rw [if_pos h3]; exact ⟨by omega, by omega, rfl, h3⟩
  · rw [if_neg h3] at h; exact absurd h h3
theorem itemsF_er (ne : ByteArray → Int) (cs : List Int) : ∀ f i, (lastEr (itemsF ne cs f i)).1 = 0 → ∀ x ∈ itemsF ne cs f i, x.2.2.2 = 0
  | 0, i, _, x, hx => by rw [itemsF] at hx; cases hx
  | f + 1, i, h, x, hx => by
    rw [itemsF] at h hx
    by_cases h1 : i < cs.length
    · rw [if_pos h1] at h hx
      by_cases h2 : (nextF ne cs i).2.2 = 0
      · rw [if_pos h2] at h hx
        have h3 : (lastEr (itemsF ne cs f (passTo cs (nextF ne cs i).2.1))).1 = 0 := by
          unfold lastEr at h ⊢
          cases hl : itemsF ne cs f (passTo cs (nextF ne cs i).2.1) with
          | nil => simp
          | cons y l =>
            rw [hl] at h
            rw [List.getLast?_cons_cons] at h
            exact h
        rcases List.mem_cons.1 hx with rfl | hx
        · rfl
        · exact itemsF_er ne cs f _ h3 x hx
      · rw [if_neg h2] at h hx
        rw [List.mem_singleton.1 hx]
        exact h
    · rw [if_neg h1] at hx
      rw [List.mem_singleton.1 hx]
end Go.Proofs.YtjehbnpamahepaaGreatDoor
