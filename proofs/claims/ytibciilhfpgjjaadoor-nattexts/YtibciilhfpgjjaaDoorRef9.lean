/- The document's Sum and Product; sums and products of none. -/
import Derived.Test.YtibciilhfpgjjaaDoorRef8
namespace Go.Proofs.YtibciilhfpgjjaaDoor
set_option linter.unusedVariables false
set_option linter.unusedSimpArgs false
open Go.RowKit

theorem Many.below {w w' : World} {Lb k : Nat} {vs : List Value} {xss : List (List Int)} (h : Many w Lb k vs xss) (hb : Below w.heap.size w w') : Many w' Lb k vs xss where
  lv := h.lv
  lx := h.lx
  lt := Nat.lt_of_lt_of_le h.lt hb.size
  cell := fun j hj => (hb.cell h.lt).trans (h.cell j hj)
  rd := fun j hj => ((h.rd j hj).below hb).mono hb.size

set_option maxHeartbeats 800000 in
theorem refSum_any {Lb k : Nat} {vs : List Value} {xss : List (List Int)} {w : World} (hm : Many w Lb k vs xss) (hk : k ≤ 1000000) (hs : sumL xss ≤ 1000000000) :
    Calls Tryd.prog 29 #[.slice (some ⟨Lb, 0, none⟩) k k] w fun e w' => ∃ zs, can zs ∧ val zs = sumV xss ∧ Makes w e w' zs := by
  go_enter Tryd.func29, Tryd.ntmps29
  go_wp2
  go_loopw [3, 4] (fun s ii wr => ∃ (i : Nat) (zs : List Int) (a : Option Addr) (c : Nat), i ≤ k ∧ ii = .int .i64 i ∧ can zs ∧ Hid (val zs = sumV (xss.take i)) ∧ Hid (zs.length ≤ i + sumL (xss.take i)) ∧ s = .slice a zs.length c ∧ Own w.heap.size wr (.slice a zs.length c) zs ∧ Below w.heap.size w wr)
    (fun _ ii _ => k - (intOf ii).toNat)
  case atStart => exact ⟨0, [], none, 0, Nat.zero_le _, rfl, can_nil, rfl, by unfold Hid; simp, rfl, ⟨lim_nil, World.ownsRow_nil _ _ _ _⟩, Below.refl _ _⟩
  case round =>
    obtain ⟨i, zs, a, c, hik, rfl, hcan, hval, hlen, rfl, hown, hbl⟩ := hrel
    by_cases hlt : i < k
    · have hcell : wr.cell? ⟨Lb, i, none⟩ = some (vs.getD i (.bool false)) := (hbl.cell hm.lt).trans (hm.cell i hlt)
      have hrd : Rd w.heap.size wr (vs.getD i (.bool false)) (xss.getD i []) := (hm.rd i hlt).below hbl
      have hsz := hbl.size
      have hml := sumL_mono xss i
      have HML : Hid (sumL (xss.take i) + (xss.getD i []).length ≤ sumL xss ∧ sumL (xss.take i) ≤ sumL xss) := hml
      clear hml
      generalize hV : vs.getD i (.bool false) = V at *
      clear hV
      go_wp2_with fail
      refine (refAdd_any hown.rd (Nat.le_refl _) hrd hsz (by have := HML.out; have := hlen.out; omega) (by have := HML.out; omega)).mono ?_
      rintro e w2 ⟨us, cu, vu, lu, a3, c3, rfl, ho3, hb3⟩
      go_wp2
      go_roundw
      case rel => exact ⟨i + 1, us, a3, c3, by omega, by go_num, cu, (by unfold Hid; rw [vu, hval.out, sumV_succ xss i (by rw [hm.lx]; exact hlt)]), (by unfold Hid; rw [sumL_succ xss i (by rw [hm.lx]; exact hlt)]; have := hlen.out; omega), rfl, ho3.mono hsz, hbl.trans (hb3.mono hsz)⟩
      case measure => simp [intOf]; omega
    · obtain rfl : i = k := by omega
      go_wp2
      go_ret
      exact ⟨zs, hcan, by rw [hval.out, ← hm.lx, List.take_length], a, c, rfl, hown, hbl⟩

set_option maxHeartbeats 800000 in
theorem refProduct_any {Lb k : Nat} {vs : List Value} {xss : List (List Int)} {w : World} (hm : Many w Lb k vs xss) (hk : k ≤ 1000000) (hs : sumL xss ≤ 1000000000) :
    Calls Tryd.prog 31 #[.slice (some ⟨Lb, 0, none⟩) k k] w fun e w' => ∃ zs, can zs ∧ val zs = prodV xss ∧ Makes w e w' zs := by
  have hO1 : Own w.heap.size (w.alloc (.cells #[.int .u32 1] 39)) (.slice (some ⟨w.heap.size, 0, none⟩) 1 1) [1] := ⟨can_one.1, World.ownsRow_lit w #[.int .u32 1] 1 (Nat.le_refl _) (by unfold maxLen; omega) rfl⟩
  go_enter Tryd.func31, Tryd.ntmps31
  go_wp2
  go_loopw [3, 4] (fun s ii wr => ∃ (i : Nat) (zs : List Int) (a : Option Addr) (c : Nat), i ≤ k ∧ ii = .int .i64 i ∧ can zs ∧ Hid (val zs = prodV (xss.take i)) ∧ Hid (zs.length ≤ 1 + i + sumL (xss.take i)) ∧ s = .slice a zs.length c ∧ Own w.heap.size wr (.slice a zs.length c) zs ∧ Below w.heap.size w wr)
    (fun _ ii _ => k - (intOf ii).toNat)
  case atStart => exact ⟨0, [1], some ⟨w.heap.size, 0, none⟩, 1, Nat.zero_le _, rfl, can_one, by unfold Hid; simp [val, prodV], by unfold Hid; simp, rfl, hO1, (Below.refl _ _).alloc (Nat.le_refl _) _⟩
  case round =>
    obtain ⟨i, zs, a, c, hik, rfl, hcan, hval, hlen, rfl, hown, hbl⟩ := hrel
    by_cases hlt : i < k
    · have hcell : wr.cell? ⟨Lb, i, none⟩ = some (vs.getD i (.bool false)) := (hbl.cell hm.lt).trans (hm.cell i hlt)
      have hrd : Rd w.heap.size wr (vs.getD i (.bool false)) (xss.getD i []) := (hm.rd i hlt).below hbl
      have hsz := hbl.size
      have hml := sumL_mono xss i
      have HML : Hid (sumL (xss.take i) + (xss.getD i []).length ≤ sumL xss ∧ sumL (xss.take i) ≤ sumL xss) := hml
      clear hml
      generalize hV : vs.getD i (.bool false) = V at *
      clear hV
      go_wp2_with fail
      refine (refMul_any hown.rd (Nat.le_refl _) hrd hsz (by have := HML.out; have := hlen.out; omega) (by have := HML.out; omega)).mono ?_
      rintro e w2 ⟨us, cu, vu, lu, a3, c3, rfl, ho3, hb3⟩
      go_wp2
      go_roundw
      case rel => exact ⟨i + 1, us, a3, c3, by omega, by go_num, cu, (by unfold Hid; rw [vu, hval.out, prodV_succ xss i (by rw [hm.lx]; exact hlt)]), (by unfold Hid; rw [sumL_succ xss i (by rw [hm.lx]; exact hlt)]; have := hlen.out; omega), rfl, ho3.mono hsz, hbl.trans (hb3.mono hsz)⟩
      case measure => simp [intOf]; omega
    · obtain rfl : i = k := by omega
      go_wp2
      go_ret
      exact ⟨zs, hcan, by rw [hval.out, ← hm.lx, List.take_length], a, c, rfl, hown, hbl⟩

theorem sum_none (w : World) : Calls Tryd.prog 28 #[.slice none 0 0] w fun e w' => e = .returned (.slice none 0 0) ∧ Below w.heap.size w w' := by
  go_enter Tryd.func28, Tryd.ntmps28
  go_wp2
  refine wp_loop_rounds 1 ?_
  rw [rounds_succ]
  go_wp2
  go_ret
  exact ⟨rfl, (Below.refl _ _).alloc (Nat.le_refl _) _⟩

theorem product_none (w : World) : Calls Tryd.prog 30 #[.slice none 0 0] w fun e w' => Makes w e w' [1] := by
  go_enter Tryd.func30, Tryd.ntmps30
  go_wp2_with fail
  refine (beginAt_any 1 (by omega) (by omega) _).mono ?_
  intro e w1 hm1
  rw [one_limbs] at hm1
  obtain ⟨a, c, rfl, ho, hb⟩ := hm1
  have hz := hb.size
  go_wp2
  refine wp_loop_rounds 1 ?_
  rw [rounds_succ]
  go_wp2
  go_ret
  exact ⟨a, c, rfl, ho.alloc _, hb.alloc hz _⟩
end Go.Proofs.YtibciilhfpgjjaaDoor
