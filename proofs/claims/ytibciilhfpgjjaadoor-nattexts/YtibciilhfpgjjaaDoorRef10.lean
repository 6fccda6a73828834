/- The document's Power. -/
import Derived.Test.YtibciilhfpgjjaaDoorRef9
import Derived.Test.YtibciilhfpgjjaaDoorPowers
namespace Go.Proofs.YtibciilhfpgjjaaDoor
set_option linter.unusedVariables false
set_option linter.unusedSimpArgs false
open Go.RowKit

/-- What a power with a limit answers: nothing where it has more limbs, else its limbs. -/
def PowersTo (w : World) (V : Int) (M : Nat) (e : Ending) (w' : World) : Prop :=
  Below w.heap.size w w' ∧ (pw M ≤ V → e = .returned (.tuple #[.slice none 0 0, .bool false])) ∧
    (V < pw M → ∃ zs a c, can zs ∧ val zs = V ∧ e = .returned (.tuple #[.slice a zs.length c, .bool true]) ∧ Own w.heap.size w' (.slice a zs.length c) zs)

theorem PowersTo.yes {w w' : World} {V : Int} {M : Nat} {zs : List Int} {a : Option Addr} {c : Nat} (hb : Below w.heap.size w w') (hz : can zs) (hv : val zs = V) (hl : zs.length ≤ M) (ho : Own w.heap.size w' (.slice a zs.length c) zs) :
    PowersTo w V M (.returned (.tuple #[.slice a zs.length c, .bool true])) w' :=
  ⟨hb, fun h => by have := (can_len_pw hz M).1 hl; omega, fun _ => ⟨zs, a, c, hz, hv, rfl, ho⟩⟩

theorem PowersTo.no {w w' : World} {V : Int} {M : Nat} (hb : Below w.heap.size w w') (hv : pw M ≤ V) : PowersTo w V M (.returned (.tuple #[.slice none 0 0, .bool false])) w' :=
  ⟨hb, fun _ => rfl, fun h => by omega⟩

theorem pow_grow {X : Int} (h : 1 ≤ X) {j k : Nat} (hjk : j ≤ k) : X ^ j ≤ X ^ k := by
  induction hjk with
  | refl => exact Int.le_refl _
  | step _ ih =>
    rw [Int.pow_succ]
    have h0 : 0 ≤ X ^ j := Int.pow_nonneg (by omega)
    rename_i m _
    have h1 : X ^ m * 1 ≤ X ^ m * X := Int.mul_le_mul_of_nonneg_left h (by omega)
    omega

theorem pow_next (X : Int) (n k : Nat) (h : 0 < k) (hk : k ≤ n) : X ^ (n - k) * X = X ^ (n - (k - 1)) := by
  rw [← Int.pow_succ]; congr 1; omega

theorem long_pw {zs : List Int} (h : can zs) (M : Nat) (hl : ¬ zs.length ≤ M) : pw M ≤ val zs := by
  have := (can_len_pw h M).2
  by_cases hv : val zs < pw M
  · exact absurd (this hv) hl
  · omega

theorem own_nil (base : Nat) (w : World) : Own base w (.slice none 0 0) [] := ⟨lim_nil, World.ownsRow_nil _ _ _ _⟩

set_option maxRecDepth 100000 in
set_option maxHeartbeats 1600000 in
theorem refPower_walk {B : Nat} {w : World} {v : Value} {xs : List Int} (n M : Nat) (V : Int) (h : Rd B w v xs) (hB : B ≤ w.heap.size) (hl : xs.length ≤ 1000000) (hn : n < 9223372036854775808) (hM : M ≤ 1000000) (hV : Hid (V = val xs ^ n)) :
    Calls Tryd.prog 37 #[v, .int .i64 n, .int .i64 M] w fun e w' => PowersTo w V M e w' := by
  have hO1 : Own w.heap.size (w.alloc (.cells #[.int .u32 1] 39)) (.slice (some ⟨w.heap.size, 0, none⟩) 1 1) [1] := ⟨can_one.1, World.ownsRow_lit w #[.int .u32 1] 1 (Nat.le_refl _) (by unfold maxLen; omega) rfl⟩
  have b0 : Below w.heap.size w (w.alloc (.cells #[.int .u32 1] 39)) := (Below.refl _ _).alloc (Nat.le_refl _) _
  have h' := h.below (b0.mono hB)
  have s0 := b0.size
  have ct := tr_can h.lim
  have hle := tr_length_le xs
  have hv := val_tr xs
  rw [← hv] at hV
  go_enter Tryd.func37, Tryd.ntmps37
  go_wp2_with fail
  refine (refTrim_rd h' (by omega)).mono ?_
  rintro e wa ⟨a1, q1, rfl, o1, ba⟩
  have sa := ba.size
  have op : Own w.heap.size wa (.slice (some ⟨w.heap.size, 0, none⟩) [(1 : Int)].length 1) [1] := hO1.below ba (Nat.le_refl _)
  have bw : Below w.heap.size w wa := b0.trans (ba.mono s0)
  have ob : Own w.heap.size wa (.slice a1 (tr xs).length q1) (tr xs) := o1.mono s0
  have hs : w.heap.size ≤ wa.heap.size := bw.size
  clear hO1 b0 h' ba o1 hv s0 sa
  generalize tr xs = us at *
  clear h
  have one_end : ∀ {M : Nat}, ¬ M = 0 → [(1 : Int)].length ≤ M := fun h => by simp; omega
  by_cases h0 : us.length = 0
  · have e : us = [] := List.eq_nil_of_length_eq_zero h0
    subst e
    by_cases hn0 : n = 0
    · subst hn0
      have HV : Hid (V = 1) := by unfold Hid; rw [hV.out]; simp
      by_cases hM0 : M = 0
      · subst hM0
        go_wp2
        refine wp_loop_rounds 1 ?_
        rw [rounds_succ]
        go_wp2
        go_ret2
        exact PowersTo.no bw (by rw [HV.out]; decide)
      · go_wp2
        refine wp_loop_rounds 1 ?_
        rw [rounds_succ]
        go_wp2
        go_ret2
        exact PowersTo.yes bw can_one (by rw [HV.out]; decide) (one_end hM0) op
    · have HV : Hid (V = 0) := by
        unfold Hid; rw [hV.out]
        obtain ⟨k, rfl⟩ : ∃ k, n = k + 1 := ⟨n - 1, by omega⟩
        rw [Int.pow_succ]; simp [val]
      go_wp2
      refine wp_loop_rounds 1 ?_
      rw [rounds_succ]
      go_wp2
      go_ret2
      exact PowersTo.yes bw can_nil (by rw [HV.out]; rfl) (Nat.zero_le _) (own_nil _ _)
  · obtain ⟨lu, _, _, e1, _, _, _, r1⟩ := ob.rd
    rcases r1 with r1 | ⟨g1, f1, ea1, _, k1⟩
    · exact absurd r1 h0
    subst ea1
    cases e1
    have hc0 := k1 0 (by omega)
    have hu0 := lim_getD lu 0
    by_cases hone : us = [1]
    · subst hone
      have HV : Hid (V = 1) := by unfold Hid; rw [hV.out, show val [1] = 1 by decide]; exact Int.one_pow
      have hc0' : wa.cell? ⟨g1, f1, none⟩ = some (.int .u32 1) := hc0
      clear hc0 k1 hu0
      by_cases hM0 : M = 0
      · subst hM0
        go_wp2
        refine wp_loop_rounds 1 ?_
        rw [rounds_succ]
        go_wp2
        go_ret2
        exact PowersTo.no bw (by rw [HV.out]; decide)
      · go_wp2
        refine wp_loop_rounds 1 ?_
        rw [rounds_succ]
        go_wp2
        go_ret2
        exact PowersTo.yes bw can_one (by rw [HV.out]; decide) (one_end hM0) op
    · have hpos : 1 ≤ val us := by
        have := can_low ct (by omega)
        have := pw_pos (us.length - 1)
        omega
      have HX : Hid (1 ≤ val us) := hpos
      clear hpos
      have hrb : Rd wa.heap.size wa (.slice (some ⟨g1, f1, none⟩) us.length q1) us := ob.rd
      have hcs : (us.length < 2 ∧ (us.getD 0 0 == 1) = false) ∨ 2 ≤ us.length := by
        by_cases hl1 : us.length = 1
        · left
          refine ⟨by omega, beq_eq_false_iff_ne.2 fun hx => hone ?_⟩
          match us, hl1 with
          | [x], _ => have : x = 1 := hx; rw [this]
        · right; omega
      have hc0' : wa.cell? ⟨g1, f1, none⟩ = some (.int .u32 (us.getD 0 0)) := hc0
      clear hc0 k1 hone
      generalize us.getD 0 0 = U at *
      have hL : us.length ≤ 1000000 := by omega
      rcases hcs with ⟨q1', q2'⟩ | q1'
      all_goals
        go_wp2
        go_loopw [1, 8] (fun nn p wr => ∃ (k : Nat) (zs : List Int) (a : Option Addr) (c : Nat), k ≤ n ∧ nn = .int .i64 k ∧ can zs ∧ Hid (val zs = val us ^ (n - k)) ∧ zs.length ≤ M + us.length + 1 ∧ p = .slice a zs.length c ∧ Own w.heap.size wr (.slice a zs.length c) zs ∧ Below wa.heap.size wa wr)
          (fun nn _ _ => (intOf nn).toNat)
        case atStart => exact ⟨n, [1], some ⟨w.heap.size, 0, none⟩, 1, Nat.le_refl _, rfl, can_one, by unfold Hid; simp [val], by simp, rfl, op, Below.refl _ _⟩
        case round =>
          obtain ⟨k, zs, a, c, hkn, rfl, hcan, hval, hlen, rfl, hown, hbl⟩ := hrel
          have hsz := hbl.size
          have bwr : Below w.heap.size w wr := bw.trans (hbl.mono hs)
          by_cases hk0 : k = 0
          · subst hk0
            have HF : Hid (val zs = V) := by unfold Hid; rw [hval.out, hV.out]; rfl
            by_cases hzM : zs.length ≤ M
            · go_wp2
              go_ret2
              exact PowersTo.yes bwr hcan HF.out hzM hown
            · go_wp2
              go_ret2
              exact PowersTo.no bwr (by rw [← HF.out]; exact long_pw hcan M hzM)
          · by_cases hzM : zs.length ≤ M
            · go_wp2_with fail
              refine (refMul_any hown.rd (Nat.le_refl _) (hrb.below hbl) hsz (by omega) (by omega)).mono ?_
              rintro e w2 ⟨us', cu, vu, lu', a3, c3, rfl, ho3, hb3⟩
              go_wp2
              go_roundw
              case rel =>
                exact ⟨k - 1, us', a3, c3, by omega, by go_num, cu, (by unfold Hid; rw [vu, hval.out, pow_next _ _ _ (by omega) hkn]), by omega, rfl, ho3.mono (by omega), hbl.trans (hb3.mono hsz)⟩
              case measure => simp [intOf]; omega
            · go_wp2
              go_ret2
              exact PowersTo.no bwr (by
                have h1 := long_pw hcan M hzM
                have h2 := pow_grow HX.out (show n - k ≤ n by omega)
                rw [hV.out]; have := hval.out; omega)
end Go.Proofs.YtibciilhfpgjjaaDoor
