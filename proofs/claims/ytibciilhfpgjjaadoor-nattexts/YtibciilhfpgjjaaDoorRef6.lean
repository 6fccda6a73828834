/- The document's limb, Add, Minus. -/
import Derived.Test.YtibciilhfpgjjaaDoorRef5
import Derived.Test.YtibciilhfpgjjaaDoorLess
namespace Go.Proofs.YtibciilhfpgjjaaDoor
set_option linter.unusedVariables false
set_option linter.unusedSimpArgs false
open Go.RowKit

theorem cell1_new (w : World) (x : Value) (t : TypeId) : ∀ j u, [x][j]? = some u → (w.alloc (.cells #[x] t)).cell? ((⟨w.heap.size, 0, none⟩ : Addr).add j) = some u := by
  intro j u hj
  match j, hj with
  | 0, hj => simp at hj; subst hj; simp [Addr.add]

theorem limb_in (b o n c i : Nat) (x : Int) (w : World) (hx : 0 ≤ x ∧ x < 4294967296) (h : i < n) (hb : n ≤ 9223372036854775807) (k : w.cell? ⟨b, o + i, none⟩ = some (.int .u32 x)) :
    Calls Tryd.prog 48 #[.slice (some ⟨b, o, none⟩) n c, .int .i64 i] w fun e w' => e = .returned (.int .u64 x) ∧ w = w' := by
  go_enter Tryd.func48, Tryd.ntmps48
  go_wp2
  go_ret
  exact ⟨rfl, rfl⟩
theorem limb_out (a : Option Addr) (n c i : Nat) (w : World) (h : ¬ i < n) :
    Calls Tryd.prog 48 #[.slice a n c, .int .i64 i] w fun e w' => e = .returned (.int .u64 0) ∧ w = w' := by
  go_enter Tryd.func48, Tryd.ntmps48
  go_wp2
  go_ret
  exact ⟨rfl, rfl⟩
/-- The document's limb: one of a number; 0 behind it. -/
theorem limb_rd {B : Nat} {w : World} {v : Value} {xs : List Int} (h : Rd B w v xs) (i : Nat) :
    Calls Tryd.prog 48 #[v, .int .i64 i] w fun e w' => e = .returned (.int .u64 (xs.getD i 0)) ∧ w = w' := by
  obtain ⟨hl, a, c, rfl, h1, h2, _, r⟩ := h
  by_cases hi : i < xs.length
  · rcases r with r | ⟨b, o, rfl, _, k⟩
    · omega
    · exact limb_in b o xs.length c i (xs.getD i 0) w (lim_getD hl i) hi (by omega) (k i hi)
  · have e : xs.getD i 0 = 0 := by simp [List.getD, List.getElem?_eq_none (Nat.le_of_not_lt hi)]
    rw [e]
    exact limb_out a xs.length c i w hi

theorem refAdd_step (us xs ys : List Int) (i : Nat) (c t : Int) (hl : us.length = i) (h : val us + c * pw i = val (xs.take i) + val (ys.take i)) (ht : t = xs.getD i 0 + ys.getD i 0 + c) :
    val (us ++ [t % 4294967296]) + t / 4294967296 * pw (i + 1) = val (xs.take (i + 1)) + val (ys.take (i + 1)) := by
  have hd : 4294967296 * (t / 4294967296) + t % 4294967296 = t := Int.mul_ediv_add_emod t 4294967296
  have htk : ∀ zs : List Int, val (zs.take (i + 1)) = val (zs.take i) + zs.getD i 0 * pw i := by
    intro zs
    by_cases hy : i < zs.length
    · exact val_take_succ zs i hy
    · have e1 : zs.take (i + 1) = zs.take i := by rw [List.take_of_length_le (by omega), List.take_of_length_le (by omega)]
      have e2 : zs.getD i 0 = 0 := by simp [List.getD, List.getElem?_eq_none (Nat.le_of_not_lt hy)]
      rw [e1, e2]; simp
  rw [val_append, hl, htk xs, htk ys, pw_succ]
  simp only [val]
  generalize t / 4294967296 = q at *
  generalize t % 4294967296 = r at *
  have key := congrArg (fun u => u * pw i) (hd.trans ht)
  simp only [Int.mul_zero, Int.add_zero] at *
  simp only [Int.add_mul, Int.mul_add, Int.mul_assoc, Int.mul_comm, Int.mul_left_comm] at *
  omega

theorem own_push {base : Nat} {w2 : World} {v' : Value} {us : List Int} {r : Int} (hl : lim us) (hr : 0 ≤ r ∧ r < 4294967296) (h : w2.ownsRow base 39 1 v' (us.length + 1) (us.map (Value.int .u32) ++ [.int .u32 r])) : Own base w2 v' (us ++ [r]) := by
  refine ⟨lim_append.2 ⟨hl, fun x hx => by simp at hx; omega⟩, ?_⟩
  rw [List.length_append, List.map_append]; exact h

set_option maxRecDepth 100000 in
set_option maxHeartbeats 1600000 in
/-- The document's Add of two: the sum, right limbs. -/
theorem refAdd_any {B1 B2 : Nat} {w : World} {v1 v2 : Value} {xs ys : List Int} (h1 : Rd B1 w v1 xs) (b1 : B1 ≤ w.heap.size) (h2 : Rd B2 w v2 ys) (b2 : B2 ≤ w.heap.size) (n1 : xs.length ≤ 1000000000000) (n2 : ys.length ≤ 1000000000000) :
    Calls Tryd.prog 50 #[v1, v2] w fun e w' => ∃ zs, can zs ∧ val zs = val xs + val ys ∧ zs.length ≤ max xs.length ys.length + 1 ∧ Makes w e w' zs := by
  obtain ⟨i0, hi, hz0, hz1, hz2⟩ := info_parts info_u32
  have lx := h1.lim
  have ly := h2.lim
  obtain ⟨a1, c1, rfl⟩ : ∃ a c, v1 = .slice a xs.length c := by obtain ⟨_, a, c, rfl, _⟩ := h1; exact ⟨a, c, rfl⟩
  obtain ⟨a2, c2, rfl⟩ : ∃ a c, v2 = .slice a ys.length c := by obtain ⟨_, a, c, rfl, _⟩ := h2; exact ⟨a, c, rfl⟩
  go_enter Tryd.func50, Tryd.ntmps50
  go_wp2
  go_loopw [5, 6, 7] (fun s cr ii wr => ∃ (i : Nat) (C : Int) (us : List Int) (a : Option Addr) (c : Nat), i ≤ max xs.length ys.length + 1 ∧ ii = .int .i64 i ∧ cr = .int .u64 C ∧ 0 ≤ C ∧ C ≤ 1 ∧ Hid (us.length = i) ∧ s = .slice a us.length c ∧ Own w.heap.size wr (.slice a us.length c) us ∧ Below w.heap.size w wr ∧ Hid (val us + C * pw i = val (xs.take i) + val (ys.take i)) ∧ (i = max xs.length ys.length + 1 → C = 0))
    (fun _ _ ii _ => max xs.length ys.length + 1 - (intOf ii).toNat)
  case atStart => exact ⟨0, 0, [], none, 0, by omega, rfl, rfl, by omega, by omega, rfl, rfl, ⟨lim_nil, World.ownsRow_nil _ _ _ _⟩, Below.refl _ _, by unfold Hid; simp [val], fun h => by omega⟩
  case round =>
    obtain ⟨i, C, us, a, c, hiM, rfl, rfl, hC0, hC1, hul, rfl, hown, hbl, hval, hlast⟩ := hrel
    have hs := hbl.size
    by_cases hgo : i < xs.length ∨ i < ys.length ∨ 0 < C
    · have hiM2 : i < max xs.length ys.length + 1 := by
        rcases hgo with h | h | h
        · omega
        · omega
        · by_cases he : i = max xs.length ys.length + 1
          · have := hlast he; omega
          · omega
      have rx := lim_getD lx i
      have ry := lim_getD ly i
      have hT0 : 0 ≤ xs.getD i 0 + ys.getD i 0 + C := by omega
      have k1 := limb_rd (h1.below (hbl.mono b1)) i
      have k2 := limb_rd (h2.below (hbl.mono b2)) i
      have hval2 := refAdd_step us xs ys i C _ hul.out hval.out rfl
      have hlast2 : i + 1 = max xs.length ys.length + 1 → (xs.getD i 0 + ys.getD i 0 + C) / 4294967296 = 0 := by
        intro he
        have e1 : xs.getD i 0 = 0 := by simp [List.getD, List.getElem?_eq_none (show xs.length ≤ i by omega)]
        have e2 : ys.getD i 0 = 0 := by simp [List.getD, List.getElem?_eq_none (show ys.length ≤ i by omega)]
        rw [e1, e2]; omega
      generalize hX : xs.getD i 0 = X at *
      generalize hY : ys.getD i 0 = Y at *
      have HVAL : Hid (val (us ++ [(X + Y + C) % 4294967296]) + (X + Y + C) / 4294967296 * pw (i + 1) = val (xs.take (i + 1)) + val (ys.take (i + 1))) := hval2
      have HLAST : Hid (i + 1 = max xs.length ys.length + 1 → (X + Y + C) / 4294967296 = 0) := hlast2
      clear hX hY hval2 hlast2 hlast
      have huL : us.length = i := hul.out
      have HUL : us.length ≤ 2000000000000 := by omega
      clear huL
      have hcases : i < xs.length ∨ (xs.length ≤ i ∧ i < ys.length) ∨ (xs.length ≤ i ∧ ys.length ≤ i ∧ 0 < C) := by omega
      clear hgo
      rcases hcases with q1 | ⟨q1, q2⟩ | ⟨q1, q2, q3⟩
      all_goals
        go_wp2_with fail
        refine k1.mono ?_
        rintro e w' ⟨rfl, rfl⟩
        go_wp2_with fail
        refine k2.mono ?_
        rintro e w' ⟨rfl, rfl⟩
        clear k1 k2
        go_wp2_with (at_builtin; (refine wpList_append_own _ rfl _ _ 22 rfl w.heap.size 39 i0 (.int .u32 0) 1 4 Tryd.underlying22 hi hz0 hz1 hz2 rfl (by decide) _ us.length (us.map (Value.int .u32)) rfl (hown.2.alloc _) ⟨wr.heap.size, 0, none⟩ 1 1 [.int .u32 ((X + Y + C) % 4294967296)] rfl rfl (cell1_new _ _ _) (by intro u hu; simp at hu; subst hu; rfl) (by unfold maxLen; omega) (by omega) (by simp; omega) ?_); intro v' w2 hown' hgrow _)
        have hO := own_push hown.lim (by omega) hown'
        have hb2 : Below w.heap.size w w2 := (hbl.alloc hs _).grown hgrow (by simp; omega) (fun k hk => (hown.2.lt k hk).1)
        obtain ⟨a3, c3, hv3⟩ := hO.form
        rw [hv3] at hO ⊢
        clear hown' hgrow hv3 hown
        go_wp2
        go_roundw
        case rel => exact ⟨i + 1, (X + Y + C) / 4294967296, us ++ [(X + Y + C) % 4294967296], a3, c3, by omega, by go_num, rfl, by omega, by omega, (by unfold Hid; rw [List.length_append, hul.out]; rfl), rfl, hO, hb2, HVAL, HLAST.out⟩
        case measure => simp [intOf]; omega
    · have q1 : ¬ i < xs.length := fun h => hgo (Or.inl h)
      have q2 : ¬ i < ys.length := fun h => hgo (Or.inr (Or.inl h))
      have q3 : C = 0 := by by_cases h : 0 < C; exact absurd (Or.inr (Or.inr h)) hgo; omega
      subst q3
      have hfin : val us = val xs + val ys := by
        have h3 := hval.out
        rw [List.take_of_length_le (Nat.le_of_not_lt q1), List.take_of_length_le (Nat.le_of_not_lt q2)] at h3
        simpa using h3
      have HF : Hid (val us = val xs + val ys) := hfin
      have huL : us.length = i := hul.out
      clear hfin hgo
      have hrd := hown.rd
      have hsz : us.length * 4 ≤ 140737488355328 := by omega
      have hfl : us.length ≤ max xs.length ys.length + 1 := by omega
      clear huL
      go_wp2_with fail
      refine (refTrim_rd hrd hsz).mono ?_
      rintro e w2 ⟨a3, c3, rfl, ho3, hb3⟩
      have ht := tr_length_le us
      go_wp2
      go_ret
      exact ⟨tr us, tr_can hown.lim, by rw [val_tr]; exact HF.out, by omega, Makes.of rfl (ho3.mono hs) (hbl.trans (hb3.mono hs))⟩
end Go.Proofs.YtibciilhfpgjjaaDoor
