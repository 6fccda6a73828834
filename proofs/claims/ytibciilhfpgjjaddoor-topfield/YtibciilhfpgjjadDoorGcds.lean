/- nat.Gcd: the greatest common divisor of numbers that are handed in as many as one likes. -/
import Derived.Test.YtibciilhfpgjjadDoorGcd
import Derived.Test.YtibciilhfpgjjadDoorLists
namespace Go.Proofs.YtibciilhfpgjjadDoor
set_option linter.unusedVariables false
set_option linter.unusedSimpArgs false
open Go.RowKit

def gcdV (xss : List (List Int)) : Int := xss.foldl (fun a xs => gI a (val xs)) 0
theorem gcdV_succ (xss : List (List Int)) (i : Nat) (h : i < xss.length) : gcdV (xss.take (i + 1)) = gI (gcdV (xss.take i)) (val (xss.getD i [])) := by
  rw [take_succ_getD' xss i [] h]; unfold gcdV; rw [List.foldl_append]; rfl

set_option maxHeartbeats 1600000 in
theorem gcd_any {Lb k M : Nat} {vs : List Value} {xss : List (List Int)} {w : World} (hm : Many w Lb k vs xss) (hk : k ≤ 1000) (hM : M ≤ 1000000) (hs : ∀ j, j < k → (xss.getD j []).length ≤ M) :
    Calls Tryd.prog 32 #[.slice (some ⟨Lb, 0, none⟩) k k] w fun e w' => ∃ zs, can zs ∧ val zs = gcdV xss ∧ zs.length ≤ M + 2 * k ∧ Makes w e w' zs := by
  go_enter Tryd.func32, Tryd.ntmps32
  go_wp2
  go_loopw [8] (fun s wr => ∃ (i : Nat) (zs : List Int) (a : Option Addr) (c : Nat), i ≤ k ∧ s = .int .i64 i ∧ can zs ∧ Hid (val zs = gcdV (xss.take i)) ∧ zs.length ≤ M + 2 * i ∧ Box wr w.heap.size 76 (.slice a zs.length c) ∧ Own w.heap.size wr (.slice a zs.length c) zs ∧ Below w.heap.size w wr)
    (fun s _ => k - (intOf s).toNat)
  case atStart => exact ⟨0, [], none, 0, Nat.zero_le _, rfl, can_nil, rfl, by simp, heap_alloc_new _ _, ⟨lim_nil, World.ownsRow_nil _ _ _ _⟩, (Below.refl _ _).alloc (Nat.le_refl _) _⟩
  case round =>
    obtain ⟨i, zs, a1, c1, hik, rfl, hcan, hval, hlen, hbox, hown, hbl⟩ := hrel
    have hsz := hbl.size
    have hlt0 := lt_of_block hbox
    by_cases hlt : i < k
    · have hcell : wr.cell? ⟨Lb, i, none⟩ = some (vs.getD i (.bool false)) := (hbl.cell hm.lt).trans (hm.cell i hlt)
      have hrd : Rd w.heap.size wr (vs.getD i (.bool false)) (xss.getD i []) := (hm.rd i hlt).below hbl
      have hsi := hs i hlt
      generalize hV : vs.getD i (.bool false) = V at *
      clear hV hs
      go_wp2_with fail
      refine (trim_rd hrd (by omega)).mono ?_
      rintro e w2 ⟨a2, c2, rfl, hown2, hbl2⟩
      have htl := tr_length_le (xss.getD i [])
      have hct := tr_can hrd.lim
      have hvt := val_tr (xss.getD i [])
      generalize tr (xss.getD i []) = us at *
      have HVT : Hid (val us = val (xss.getD i [])) := hvt
      clear hvt
      have hsz2 := hbl2.size
      have hbox2 : Box w2 w.heap.size 76 (.slice a1 zs.length c1) := by unfold Box; rw [hbl2.block _ hlt0]; exact hbox
      have hown2' : Own w.heap.size w2 (.slice a1 zs.length c1) zs := hown.below hbl2 (Nat.le_refl _)
      have hap : Apart (.slice a1 zs.length c1) (.slice a2 us.length c2) := fun q h1 h2 => by
        have := (hown.2.lt q h1).2
        have := (hown2.2.lt q h2).1
        omega
      go_wp2_with fail
      refine (with_any (K := M + 2 * i) hbox2 hown2' hcan (hown2.mono hsz) hct hap (Nat.le_refl _) (by omega) hlen (by omega) (by omega)).mono ?_
      rintro e w3 ⟨rfl, ts, a3, c3, hct3, hv3, hl3, hbox3, hown3, hbl3⟩
      have HV3 : Hid (val ts = gcdV (xss.take (i + 1))) := by
        unfold Hid
        rw [hv3, hval.out, HVT.out, gcdV_succ xss i (by rw [hm.lx]; exact hlt)]
      clear hv3
      go_wp2
      go_roundw
      case rel => exact ⟨i + 1, ts, a3, c3, by omega, by go_num, hct3, HV3, by omega, hbox3, hown3, hbl.trans ((hbl2.mono hsz).trans hbl3)⟩
      case measure => simp [intOf]; omega
    · obtain rfl : i = k := by omega
      have hc := cell_of_one hbox
      go_wp2
      go_ret
      refine ⟨zs, hcan, ?_, hlen, a1, c1, rfl, hown, hbl⟩
      rw [hval.out, ← hm.lx, List.take_length]

set_option maxHeartbeats 400000 in
theorem gcd_none (w : World) : Calls Tryd.prog 32 #[.slice none 0 0] w fun e w' => e = .returned (.slice none 0 0) ∧ Below w.heap.size w w' := by
  go_enter Tryd.func32, Tryd.ntmps32
  go_wp2
  refine wp_loop_rounds 1 ?_
  rw [rounds_succ]
  go_wp2
  go_ret
  exact ⟨rfl, (Below.refl _ _).alloc (Nat.le_refl _) _⟩

theorem gI_zero_left (x : Int) (h : 0 ≤ x) : gI 0 x = x := by rw [gI_comm]; exact gI_zero x h

section
variable {B1 B2 B3 : Nat} {w : World} {v1 v2 v3 : Value} {x1 x2 x3 : List Int}
theorem gcd2 (h1 : Rd B1 w v1 x1) (h2 : Rd B2 w v2 x2) (b1 : B1 ≤ w.heap.size) (b2 : B2 ≤ w.heap.size) (M : Nat) (hM : M ≤ 1000000) (l1 : x1.length ≤ M) (l2 : x2.length ≤ M) :
    Calls Tryd.prog 32 #[.slice (some ⟨w.heap.size, 0, none⟩) 2 2] (w.alloc (.cells #[v1, v2] 22)) fun e w' => ∃ zs, can zs ∧ val zs = gI (val x1) (val x2) ∧ zs.length ≤ M + 4 ∧ Makes w e w' zs := by
  refine (gcd_any (M := M) (many2 h1 h2 b1 b2) (by omega) hM (fun j hj => ?_)).mono ?_
  · match j, hj with
    | 0, _ => exact l1
    | 1, _ => exact l2
  · rintro e w' ⟨zs, cz, vz, lz, hm⟩
    exact ⟨zs, cz, by rw [vz]; simp only [gcdV, List.foldl]; rw [gI_zero_left _ (val_bound h1.lim).1], lz, hm.alloc⟩
theorem gcd3 (h1 : Rd B1 w v1 x1) (h2 : Rd B2 w v2 x2) (h3 : Rd B3 w v3 x3) (b1 : B1 ≤ w.heap.size) (b2 : B2 ≤ w.heap.size) (b3 : B3 ≤ w.heap.size) (M : Nat) (hM : M ≤ 1000000) (l1 : x1.length ≤ M) (l2 : x2.length ≤ M) (l3 : x3.length ≤ M) :
    Calls Tryd.prog 32 #[.slice (some ⟨w.heap.size, 0, none⟩) 3 3] (w.alloc (.cells #[v1, v2, v3] 22)) fun e w' => ∃ zs, can zs ∧ val zs = gI (gI (val x1) (val x2)) (val x3) ∧ zs.length ≤ M + 6 ∧ Makes w e w' zs := by
  refine (gcd_any (M := M) (many3 h1 h2 h3 b1 b2 b3) (by omega) hM (fun j hj => ?_)).mono ?_
  · match j, hj with
    | 0, _ => exact l1
    | 1, _ => exact l2
    | 2, _ => exact l3
  · rintro e w' ⟨zs, cz, vz, lz, hm⟩
    exact ⟨zs, cz, by rw [vz]; simp only [gcdV, List.foldl]; rw [gI_zero_left _ (val_bound h1.lim).1], lz, hm.alloc⟩
end
end Go.Proofs.YtibciilhfpgjjadDoor
