/- nat.Sum: the sum of numbers that are handed in as many as one likes. -/
import Derived.Test.YtibciilhfpgjjadDoorAdd
namespace Go.Proofs.YtibciilhfpgjjadDoor
set_option linter.unusedVariables false
set_option linter.unusedSimpArgs false
open Go.RowKit

theorem can_nil : can [] := ⟨lim_nil, Or.inl rfl⟩

set_option maxHeartbeats 800000 in
theorem sum_any {Lb k : Nat} {vs : List Value} {xss : List (List Int)} {w : World} (hm : Many w Lb k vs xss) (hk : k ≤ 1000000) (hs : sumL xss ≤ 17592180000000) :
    Calls Tryd.prog 53 #[.slice (some ⟨Lb, 0, none⟩) k k] w fun e w' => ∃ zs, can zs ∧ val zs = sumV xss ∧ zs.length ≤ k + sumL xss ∧ Makes w e w' zs := by
  go_enter Tryd.func53, Tryd.ntmps53
  go_wp2
  go_loopw [8] (fun s wr => ∃ (i : Nat) (zs : List Int), i ≤ k ∧ s = .int .i64 i ∧ can zs ∧ Hid (val zs = sumV (xss.take i)) ∧ Hid (zs.length ≤ i + sumL (xss.take i)) ∧ St w.heap.size wr w.heap.size 105 zs ∧ Below w.heap.size w wr)
    (fun s _ => k - (intOf s).toNat)
  case atStart => exact ⟨0, [], Nat.zero_le _, rfl, can_nil, rfl, by unfold Hid; simp, ⟨none, 0, heap_alloc_new _ _, ⟨lim_nil, World.ownsRow_nil _ _ _ _⟩, Nat.le_refl _, by simp⟩, (Below.refl _ _).alloc (Nat.le_refl _) _⟩
  case round =>
    obtain ⟨i, zs, hik, rfl, hcan, hval, hlen, hst, hbl⟩ := hrel
    by_cases hlt : i < k
    · have hcell : wr.cell? ⟨Lb, i, none⟩ = some (vs.getD i (.bool false)) := (hbl.cell hm.lt).trans (hm.cell i hlt)
      have hrd : Rd w.heap.size wr (vs.getD i (.bool false)) (xss.getD i []) := (hm.rd i hlt).below hbl
      have hml := sumL_mono xss i
      have HML : Hid (sumL (xss.take i) + (xss.getD i []).length ≤ sumL xss ∧ sumL (xss.take i) ≤ sumL xss) := hml
      clear hml
      generalize hV : vs.getD i (.bool false) = V at *
      clear hV
      go_wp2_with fail
      refine (meant_rd hrd).mono ?_
      rintro e w2 ⟨rfl, rfl⟩
      go_wp2_with fail
      refine (add_any (by decide) hst hcan hrd.meant (tr_can hrd.lim) (Nat.le_refl _) (by have := HML.out; have := hlen.out; omega) (by have := HML.out; have := tr_length_le (xss.getD i []); omega)).mono ?_
      rintro e w2 ⟨rfl, us, hcu, hvu, hlu, hst3, hbl3⟩
      go_wp2
      go_roundw
      case rel => exact ⟨i + 1, us, by omega, by go_num, hcu, (by unfold Hid; rw [hvu, hval.out, val_tr, sumV_succ xss i (by rw [hm.lx]; exact hlt)]), (by unfold Hid; rw [sumL_succ xss i (by rw [hm.lx]; exact hlt)]; have := hlen.out; have := tr_length_le (xss.getD i []); omega), hst3, hbl.trans hbl3⟩
      case measure => simp [intOf]; omega
    · obtain rfl : i = k := by omega
      obtain ⟨a2, c2, hbox, hown, _, hsz⟩ := hst
      have hc2 := cell_of_one hbox
      have hlt2 := lt_of_block hbox
      go_wp2
      go_ret
      refine ⟨zs, hcan, ?_, ?_, a2, c2, rfl, hown, hbl⟩
      · rw [hval.out, ← hm.lx, List.take_length]
      · have := hlen.out; rw [← hm.lx, List.take_length, hm.lx] at this; exact this
end Go.Proofs.YtibciilhfpgjjadDoor
