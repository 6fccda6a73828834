/- Limbs of small numbers (for the seats without layer 1's laws). -/
import Derived.Test.YtibciilhfpgjjadDoorPrint1
namespace Go.Proofs.YtibciilhfpgjjadDoor
set_option linter.unusedVariables false
set_option linter.unusedSimpArgs false
open Go.RowKit

theorem limbs_of {qs : List Int} (cq : can qs) (n : Int) (h0 : 0 < n) (h1 : n < 4294967296) (h : val qs = n) : qs = [n] := by
  refine can_inj cq ⟨fun x hx => by simp at hx; omega, Or.inr (by simp; omega)⟩ ?_
  rw [h]; simp [val]

theorem of_small (n : Int) (h0 : 0 < n) (h1 : n < 4294967296) : tr [n % 4294967296, n / 4294967296] = [n] := by
  have h := of_limb n (by omega) h1
  exact limbs_of h.2.1 n h0 h1 h.1
end Go.Proofs.YtibciilhfpgjjadDoor
