/- glyphref12.has: is a text in a row? -/
import Derived.Test.YtimfnalpmmkndaaGreatDoorSA
import Derived.Test.YtimfnalpmmkndaaGreatDoorDA
import Derived.Test.YtimfnalpmmkndaaGreatDoorHX
import Derived.Test.YtimfnalpmmkndaaGreatDoorDB
namespace Go.Proofs.YtimfnalpmmkndaaGreatDoor
set_option linter.unusedVariables false
set_option linter.unusedSimpArgs false
open Go.RowKit
theorem noT_scan : (scanR noT noT.size 0 []).1 = [] := by decide
theorem tok_full {ne : ByteArray → Int} {cs : List Int} (hok : ∀ c ∈ cs, okRune c) {i : Nat} (hi : i < cs.length) (h0 : (nextF ne cs i).2.2 = 0) : ¬ cutText cs i (nextF ne cs i).2.1 = noT := by
 intro h
 have hs := scan_back _ (cut_ok hok (i := i) (j := (nextF ne cs i).2.1))
 unfold cutText at h
 rw [h] at hs
 have e : (cs.drop i).take ((nextF ne cs i).2.1 - i) = [] := by rw [← noT_scan, hs]
 have hn := nextF_end ne cs i hi h0
 have := congrArg List.length e
 rw [List.length_take, List.length_drop, List.length_nil] at this
 omega
theorem toks_full {ne : ByteArray → Int} {cs : List Int} (hok : ∀ c ∈ cs, okRune c) : ∀ f i, i ≤ cs.length → ∀ x ∈ itemsF ne cs f i, x.2.2.2 = 0 → ¬ x.1 = 0 → ¬ x.2.1 = noT
 | 0, i, h1, x, hx, _, _ => by simp [itemsF] at hx
 | f + 1, i, h1, x, hx, he, hk => by
  rw [itemsF] at hx
  by_cases hi : i < cs.length
  · rw [if_pos hi] at hx
    by_cases h0 : (nextF ne cs i).2.2 = 0
    · rw [if_pos h0] at hx
      have hn := nextF_end ne cs i hi h0
      have hp := passTo_le (cs := cs) (i := (nextF ne cs i).2.1) hn.2
      rcases List.mem_cons.1 hx with rfl | hx
      · exact tok_full hok hi h0
      · exact toks_full hok f _ hp.2 x hx he hk
    · rw [if_neg h0] at hx
      rw [List.mem_singleton.1 hx] at he
      exact absurd he h0
  · rw [if_neg hi] at hx
    rw [List.mem_singleton.1 hx] at hk
    exact absurd rfl hk
def tpl (T : List Tk) (k : Nat) : Nat := (T.getD k (0, ⟨#[]⟩, 0, 0)).2.2.1
structure TokRR (B : Nat) (w : World) (g : Nat) (T : List Tk) : Prop where
 lt : g < B
 row : RowT T
 ful : ∀ x ∈ T, ¬ x.1 = 0 → ¬ x.2.1 = noT
 few : T.length ≤ 1025
 kd : ∀ k, k < T.length → w.cell? ⟨g, k * 5, none⟩ = some (.int .i64 (tkd T k))
 tx : ∀ k, k < T.length → w.cell? ⟨g, k * 5 + 1, none⟩ = some (.string (ttx T k))
 pl : ∀ k, k < T.length → w.cell? ⟨g, k * 5 + 2, none⟩ = some (.int .i64 (tpl T k))
def ToksIs (w : World) (er : Int) (T : List Tk) (e : Ending) (w' : World) : Prop :=
 ((er = 0 ∧ ∃ g c, e = .returned (.tuple #[.slice (some ⟨g, 0, none⟩) T.length c, .int .i64 0, .int .i64 0]) ∧ T.length ≤ c ∧ c ≤ 9223372036854775807 ∧ w.heap.size ≤ g ∧ TokRR w'.heap.size w' g T) ∨
  (¬ er = 0 ∧ ∃ v p, e = .returned (.tuple #[v, .int .i64 er, .int .i64 p]))) ∧ Below w.heap.size w w'
end Go.Proofs.YtimfnalpmmkndaaGreatDoor
