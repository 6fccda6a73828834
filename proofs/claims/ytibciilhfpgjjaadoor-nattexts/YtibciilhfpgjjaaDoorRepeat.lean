/- strings.Repeat of a nought, at most eight times; strings.HasPrefix. -/
import Derived.Test.YtibciilhfpgjjaaDoorPrint1
import Derived.Test.YtibciilhfpgjjaaDoorDecMath
namespace Go.Proofs.YtibciilhfpgjjaaDoor
set_option linter.unusedVariables false
set_option linter.unusedSimpArgs false
open Go.RowKit

theorem hasPrefixI (s t : ByteArray) (r : Bool) (w : World) (hst : t.size ≤ s.size) (hb : s.size ≤ 1000000) (hr : ((s.extract 0 t.size).toList == t.toList) = r) : Calls Tryd.prog 95 #[.string s, .string t] w fun e w' => e = .returned (.bool r) ∧ w = w' := by
  subst hr
  go_enter Tryd.func95, Tryd.ntmps95
  go_wp2
  go_ret
  exact ⟨rfl, rfl⟩

theorem hasPrefix (s t : ByteArray) (r : Bool) (w : World) (hst : t.size ≤ s.size) (hb : s.size ≤ 1000000) (hr : ((s.extract 0 t.size).toList == t.toList) = r) : Calls Tryd.prog 82 #[.string s, .string t] w fun e w' => e = .returned (.bool r) ∧ w = w' := by
  go_enter Tryd.func82, Tryd.ntmps82
  go_wp2_with fail
  refine (hasPrefixI s t r w hst hb hr).mono ?_
  rintro e w' ⟨rfl, rfl⟩
  go_wp2
  go_ret
  exact ⟨rfl, rfl⟩

def noughts (k : Nat) : ByteArray := ⟨(List.replicate k (48 : UInt8)).toArray⟩

theorem noughts_of (k : Nat) (hk : k ≤ 8) : ByteArray.extract ⟨#[48, 48, 48, 48, 48, 48, 48, 48, 48, 48, 48, 48, 48, 48, 48, 48, 48, 48, 48, 48, 48, 48, 48, 48, 48, 48, 48, 48, 48, 48, 48, 48, 48, 48, 48, 48, 48, 48, 48, 48, 48, 48, 48, 48, 48, 48, 48, 48, 48, 48, 48, 48, 48, 48, 48, 48, 48, 48, 48, 48, 48, 48, 48, 48]⟩ 0 k = noughts k := by
  have : ∀ k : Fin 9, ByteArray.extract ⟨#[48, 48, 48, 48, 48, 48, 48, 48, 48, 48, 48, 48, 48, 48, 48, 48, 48, 48, 48, 48, 48, 48, 48, 48, 48, 48, 48, 48, 48, 48, 48, 48, 48, 48, 48, 48, 48, 48, 48, 48, 48, 48, 48, 48, 48, 48, 48, 48, 48, 48, 48, 48, 48, 48, 48, 48, 48, 48, 48, 48, 48, 48, 48, 48]⟩ 0 k.val = noughts k.val := by decide +kernel
  exact this ⟨k, by omega⟩

set_option maxRecDepth 100000 in
set_option maxHeartbeats 1600000 in
theorem repeat_more (k : Nat) (h2 : 2 ≤ k) (h8 : k ≤ 8) (w : World) : Calls Tryd.prog 64 #[.string ⟨#[48]⟩, .int .i64 k] w fun e w' => e = .returned (.string (noughts k)) ∧ w = w' := by
  have e1 : 1 * k / 18446744073709551616 = 0 := by omega
  have e2 : 1 * k % 18446744073709551616 = k := by omega
  go_enter Tryd.func64, Tryd.ntmps64
  go_wp2_with fail
  refine (Tryd.bits_Mul 1 k (by omega) (by omega) _).mono ?_
  rintro e w' ⟨rfl, hw⟩
  have hw := hw.symm
  subst hw
  rw [e1, e2]
  go_wp2_with fail
  refine (hasPrefix _ _ false _ (by decide) (by decide) (by decide +kernel)).mono ?_
  rintro e w' ⟨rfl, rfl⟩
  go_wp2_with fail
  refine (hasPrefix _ _ false _ (by decide) (by decide) (by decide +kernel)).mono ?_
  rintro e w' ⟨rfl, rfl⟩
  go_wp2_with fail
  refine (hasPrefix _ _ true _ (by decide) (by decide) (by decide +kernel)).mono ?_
  rintro e w' ⟨rfl, rfl⟩
  go_wp2
  rw [noughts_of k h8]
  go_ret
  exact ⟨rfl, rfl⟩

set_option maxRecDepth 100000 in
theorem repeat_any (k : Nat) (h8 : k ≤ 8) (w : World) : Calls Tryd.prog 64 #[.string ⟨#[48]⟩, .int .i64 k] w fun e w' => e = .returned (.string (noughts k)) ∧ w = w' := by
  by_cases h2 : 2 ≤ k
  · exact repeat_more k h2 h8 w
  · match k, h2 with
    | 0, _ =>
      go_enter Tryd.func64, Tryd.ntmps64
      go_wp2
      go_ret
      exact ⟨rfl, rfl⟩
    | k + 2, h => omega
    | 1, _ =>
      go_enter Tryd.func64, Tryd.ntmps64
      go_wp2
      go_ret
      exact ⟨rfl, rfl⟩
end Go.Proofs.YtibciilhfpgjjaaDoor
