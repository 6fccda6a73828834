/- The document's Minus and Mul. -/
import Derived.Test.YtibciilhfpgjjaaDoorRef6
namespace Go.Proofs.YtibciilhfpgjjaaDoor
set_option linter.unusedVariables false
set_option linter.unusedSimpArgs false
open Go.RowKit

theorem refMinus_step (us xs ys : List Int) (i : Nat) (c z c' : Int) (hl : us.length = i) (h : val us - c * pw i = val (xs.take i) - val (ys.take i)) (ht : xs.getD i 0 - (ys.getD i 0 + c) = z - c' * 4294967296) :
    val (us ++ [z]) - c' * pw (i + 1) = val (xs.take (i + 1)) - val (ys.take (i + 1)) := by
  have htk : ∀ zs : List Int, val (zs.take (i + 1)) = val (zs.take i) + zs.getD i 0 * pw i := by
    intro zs
    by_cases hy : i < zs.length
    · exact val_take_succ zs i hy
    · have e1 : zs.take (i + 1) = zs.take i := by rw [List.take_of_length_le (by omega), List.take_of_length_le (by omega)]
      have e2 : zs.getD i 0 = 0 := by simp [List.getD, List.getElem?_eq_none (Nat.le_of_not_lt hy)]
      rw [e1, e2]; simp
  rw [val_append, hl, htk xs, htk ys, pw_succ]
  simp only [val]
  have key := congrArg (fun u => u * pw i) ht
  simp only [Int.mul_zero, Int.add_zero] at *
  simp only [Int.add_mul, Int.mul_add, Int.sub_mul, Int.mul_assoc, Int.mul_comm, Int.mul_left_comm] at *
  omega

theorem val_cut {xs ys : List Int} (hx : lim xs) (hy : lim ys) (h : val ys ≤ val xs) : val (ys.take xs.length) = val ys := by
  by_cases hl : ys.length ≤ xs.length
  · rw [List.take_of_length_le hl]
  · have h1 := val_split ys xs.length (by omega)
    have h2 := (val_bound hx).2
    have h3 := val_bound (lim_drop hy xs.length)
    have h4 := val_bound (lim_take hy xs.length)
    have hp := pw_pos xs.length
    have h5 : val (ys.drop xs.length) = 0 := by
      by_cases h0 : val (ys.drop xs.length) = 0
      · exact h0
      · have : pw xs.length * 1 ≤ pw xs.length * val (ys.drop xs.length) := Int.mul_le_mul_of_nonneg_left (by omega) (Int.le_of_lt hp)
        omega
    rw [h5] at h1; simp at h1; exact h1.symm

set_option maxRecDepth 100000 in
set_option maxHeartbeats 1600000 in
/-- The document's Minus. -/
theorem refMinus_any {B1 B2 : Nat} {w : World} {v1 v2 : Value} {xs ys : List Int} (h1 : Rd B1 w v1 xs) (b1 : B1 ≤ w.heap.size) (h2 : Rd B2 w v2 ys) (b2 : B2 ≤ w.heap.size) (n1 : xs.length ≤ 1000000000000) (n2 : ys.length ≤ 1000000000000) :
    Calls Tryd.prog 27 #[v1, v2] w fun e w' => Minuses w (val xs - val ys) e w' := by
  obtain ⟨i0, hi, hz0, hz1, hz2⟩ := info_parts info_u32
  have lx := h1.lim
  have ly := h2.lim
  obtain ⟨a1, c1, rfl⟩ : ∃ a c, v1 = .slice a xs.length c := by obtain ⟨_, a, c, rfl, _⟩ := h1; exact ⟨a, c, rfl⟩
  obtain ⟨a2, c2, rfl⟩ : ∃ a c, v2 = .slice a ys.length c := by obtain ⟨_, a, c, rfl, _⟩ := h2; exact ⟨a, c, rfl⟩
  by_cases hlt : val xs < val ys
  · have hcm := cmpI_lt hlt
    go_enter Tryd.func27, Tryd.ntmps27
    go_wp2_with fail
    refine (refCompare_rd h1 h2 b2 (by omega) (by omega)).mono ?_
    rintro e wa ⟨rfl, ba⟩
    rw [hcm]
    go_wp2
    go_ret2
    refine ⟨ba, ?_⟩
    rw [if_pos (by omega)]
    rfl
  · obtain ⟨cm, hcm, hcm0⟩ : ∃ cm, cmpI (val xs) (val ys) = cm ∧ 0 ≤ cm := by
      by_cases he : val xs = val ys
      · exact ⟨0, cmpI_eq he, by omega⟩
      · exact ⟨1, cmpI_gt (by omega), by omega⟩
    have HLT : Hid (val ys ≤ val xs) := by unfold Hid; omega
    go_enter Tryd.func27, Tryd.ntmps27
    go_wp2_with fail
    refine (refCompare_rd h1 h2 b2 (by omega) (by omega)).mono ?_
    rintro e wa ⟨rfl, ba⟩
    rw [hcm]
    have sa := ba.size
    clear hlt hcm
    go_wp2
    go_loopw [6, 7, 8] (fun s cr ii wr => ∃ (i : Nat) (C : Int) (us : List Int) (a : Option Addr) (c : Nat), i ≤ xs.length ∧ ii = .int .i64 i ∧ cr = .int .u64 C ∧ 0 ≤ C ∧ C ≤ 1 ∧ Hid (us.length = i) ∧ s = .slice a us.length c ∧ Own w.heap.size wr (.slice a us.length c) us ∧ Below w.heap.size w wr ∧ Hid (val us - C * pw i = val (xs.take i) - val (ys.take i)))
      (fun _ _ ii _ => xs.length - (intOf ii).toNat)
    case atStart => exact ⟨0, 0, [], none, 0, by omega, rfl, rfl, by omega, by omega, rfl, rfl, ⟨lim_nil, World.ownsRow_nil _ _ _ _⟩, ba, by unfold Hid; simp [val]⟩
    case round =>
      obtain ⟨i, C, us, a, c, hiM, rfl, rfl, hC0, hC1, hul, rfl, hown, hbl, hval⟩ := hrel
      have hs := hbl.size
      by_cases hgo : i < xs.length
      · have rx := lim_getD lx i
        have ry := lim_getD ly i
        have k1 := limb_rd (h1.below (hbl.mono b1)) i
        have k2 := limb_rd (h2.below (hbl.mono b2)) i
        have hstep := fun z c' => refMinus_step us xs ys i C z c' hul.out hval.out
        generalize hX : xs.getD i 0 = X at *
        generalize hY : ys.getD i 0 = Y at *
        have HSTEP : Hid (∀ z c', X - (Y + C) = z - c' * 4294967296 → val (us ++ [z]) - c' * pw (i + 1) = val (xs.take (i + 1)) - val (ys.take (i + 1))) := hstep
        clear hX hY hstep
        have huL : us.length = i := hul.out
        have HUL : us.length ≤ 2000000000000 := by omega
        clear huL
        by_cases hneg : X < Y + C
        · go_wp2_with fail
          refine k1.mono ?_
          rintro e w' ⟨rfl, rfl⟩
          go_wp2_with fail
          refine k2.mono ?_
          rintro e w' ⟨rfl, rfl⟩
          clear k1 k2
          have hz : (X + 4294967296 - (Y + C)) % 4294967296 = X + 4294967296 - (Y + C) := by omega
          go_wp2_with (at_builtin; (refine wpList_append_own _ rfl _ _ 22 rfl w.heap.size 39 i0 (.int .u32 0) 1 4 Tryd.underlying22 hi hz0 hz1 hz2 rfl (by decide) _ us.length (us.map (Value.int .u32)) rfl (hown.2.alloc _) ⟨wr.heap.size, 0, none⟩ 1 1 [.int .u32 (X + 4294967296 - (Y + C))] rfl rfl (cell1_new _ _ _) (by intro u hu; simp at hu; subst hu; rfl) (by unfold maxLen; omega) (by omega) (by simp; omega) ?_); intro v' w2 hown' hgrow _)
          have hO := own_push hown.lim (by omega) hown'
          have hb2 : Below w.heap.size w w2 := (hbl.alloc hs _).grown hgrow (by simp; omega) (fun k hk => (hown.2.lt k hk).1)
          obtain ⟨a3, c3, hv3⟩ := hO.form
          rw [hv3] at hO ⊢
          clear hown' hgrow hv3 hown hz
          go_wp2
          go_roundw
          case rel => exact ⟨i + 1, 1, us ++ [X + 4294967296 - (Y + C)], a3, c3, by omega, by go_num, rfl, by omega, by omega, (by unfold Hid; rw [List.length_append, hul.out]; rfl), rfl, hO, hb2, HSTEP.out _ 1 (by omega)⟩
          case measure => simp [intOf]; omega
        · go_wp2_with fail
          refine k1.mono ?_
          rintro e w' ⟨rfl, rfl⟩
          go_wp2_with fail
          refine k2.mono ?_
          rintro e w' ⟨rfl, rfl⟩
          clear k1 k2
          have hz : (X - (Y + C)) % 4294967296 = X - (Y + C) := by omega
          go_wp2_with (at_builtin; (refine wpList_append_own _ rfl _ _ 22 rfl w.heap.size 39 i0 (.int .u32 0) 1 4 Tryd.underlying22 hi hz0 hz1 hz2 rfl (by decide) _ us.length (us.map (Value.int .u32)) rfl (hown.2.alloc _) ⟨wr.heap.size, 0, none⟩ 1 1 [.int .u32 (X - (Y + C))] rfl rfl (cell1_new _ _ _) (by intro u hu; simp at hu; subst hu; rfl) (by unfold maxLen; omega) (by omega) (by simp; omega) ?_); intro v' w2 hown' hgrow _)
          have hO := own_push hown.lim (by omega) hown'
          have hb2 : Below w.heap.size w w2 := (hbl.alloc hs _).grown hgrow (by simp; omega) (fun k hk => (hown.2.lt k hk).1)
          obtain ⟨a3, c3, hv3⟩ := hO.form
          rw [hv3] at hO ⊢
          clear hown' hgrow hv3 hown hz
          go_wp2
          go_roundw
          case rel => exact ⟨i + 1, 0, us ++ [X - (Y + C)], a3, c3, by omega, by go_num, rfl, by omega, by omega, (by unfold Hid; rw [List.length_append, hul.out]; rfl), rfl, hO, hb2, HSTEP.out _ 0 (by omega)⟩
          case measure => simp [intOf]; omega
      · obtain rfl : i = xs.length := by omega
        have hfin : val us = val xs - val ys := by
          have h3 := hval.out
          rw [List.take_length, val_cut lx ly HLT.out] at h3
          have h4 := (val_bound hown.lim).2
          rw [hul.out] at h4
          have h5 := HLT.out
          have hc01 : C = 0 ∨ C = 1 := by omega
          rcases hc01 with rfl | rfl
          · simpa using h3
          · simp only [Int.one_mul] at h3; omega
        have HF : Hid (val us = val xs - val ys) := hfin
        have hsz : us.length * 4 ≤ 140737488355328 := by have := hul.out; omega
        clear hfin
        go_wp2_with fail
        refine (refTrim_rd hown.rd hsz).mono ?_
        rintro e w2 ⟨a3, c3, rfl, ho3, hb3⟩
        go_wp2
        go_ret2
        refine ⟨hbl.trans (hb3.mono hs), ?_⟩
        rw [if_neg (by have := HLT.out; omega)]
        exact ⟨tr us, a3, c3, tr_can hown.lim, by rw [val_tr]; exact HF.out, rfl, ho3.mono hs⟩
end Go.Proofs.YtibciilhfpgjjaaDoor
