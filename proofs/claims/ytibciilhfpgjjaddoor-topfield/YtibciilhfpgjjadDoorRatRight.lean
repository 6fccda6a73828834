/- rat.isOne, rat.one, rat.Right: is a number in lowest terms, and not too great? -/
import Derived.Test.YtibciilhfpgjjadDoorRightN
import Derived.Test.YtibciilhfpgjjadDoorGcds
namespace Go.Proofs.YtibciilhfpgjjadDoor
set_option linter.unusedVariables false
set_option linter.unusedSimpArgs false
open Go.RowKit

/-- A call that tells whether P holds. -/
def TellsP (P : Prop) (e : Ending) : Prop := ∃ r, e = .returned (.bool r) ∧ (r = true ↔ P)
theorem TellsP.yes {P : Prop} (h : P) : TellsP P (.returned (.bool true)) := ⟨true, rfl, ⟨fun _ => h, fun _ => rfl⟩⟩
theorem TellsP.no {P : Prop} (h : ¬ P) : TellsP P (.returned (.bool false)) := ⟨false, rfl, ⟨(fun e => by cases e), fun e => absurd e h⟩⟩

theorem rightB_can {xs : List Int} (h : lim xs) : rightB xs = true ↔ can xs := by
  unfold rightB
  rw [decide_eq_true_iff]
  constructor
  · intro e
    have h1 : tr xs = xs := by unfold tr at e ⊢; exact List.take_of_length_le (by rw [List.length_take] at e; omega)
    rw [← h1]; exact tr_can h
  · intro hc
    rw [can_inj (tr_can h) hc (val_tr xs)]

theorem isOne_long (a : Option Addr) (n c : Nat) (w : World) (h : ¬ n = 1) : Calls Tryd.prog 31 #[.slice a n c] w fun e w' => e = .returned (.bool false) ∧ w = w' := by
  have hb : ((n : Int) == 1) = false := by simp; omega
  go_enter Tryd.func31, Tryd.ntmps31
  go_wp2
  go_ret
  exact ⟨rfl, rfl⟩
theorem isOne_one (b o c : Nat) (x : Int) (r : Bool) (w : World) (hr : (x == 1) = r) (k : w.cell? ⟨b, o, none⟩ = some (.int .u32 x)) : Calls Tryd.prog 31 #[.slice (some ⟨b, o, none⟩) 1 c] w fun e w' => e = .returned (.bool r) ∧ w = w' := by
  go_enter Tryd.func31, Tryd.ntmps31
  go_wp2
  go_ret
  exact ⟨rfl, rfl⟩
theorem isOne_any {B : Nat} {w : World} {v : Value} {xs : List Int} (h : Rd B w v xs) : Calls Tryd.prog 31 #[v] w fun e w' => e = .returned (.bool (decide (xs = [1]))) ∧ w = w' := by
  obtain ⟨_, a, c, rfl, hc, hb, _, kp⟩ := h
  by_cases h1 : xs.length = 1
  · rcases kp with kp | ⟨b, o, rfl, _, kp⟩
    · omega
    match xs, h1 with
    | [x], _ =>
      refine isOne_one b o c x _ w ?_ (kp 0 (by simp))
      by_cases hx : x = 1
      · subst hx; rfl
      · rw [beq_eq_false_iff_ne.2 hx, decide_eq_false (by simpa using hx)]
  · rw [decide_eq_false (by intro e; rw [e] at h1; simp at h1)]
    exact isOne_long a xs.length c w h1

theorem one_any (w : World) : Calls Tryd.prog 36 #[] w fun e w' => Makes w e w' [1] := by
  go_enter Tryd.func36, Tryd.ntmps36
  go_wp2_with fail
  refine (of_any 1 (by omega) (by omega) _).mono ?_
  intro e w1 hm
  rw [of_small 1 (by omega) (by omega)] at hm
  obtain ⟨a1, c1, rfl, ho1, hb1⟩ := hm
  go_wp2
  go_ret
  exact ⟨a1, c1, rfl, ho1, hb1⟩

/-- What a right number is. -/
def RightP (b : Bool) (ns ds : List Int) : Prop := ns.length ≤ 32 ∧ ds.length ≤ 32 ∧ can ns ∧ can ds ∧ ¬ (b = true ∧ ns.length = 0) ∧ 0 < ds.length ∧ gI (val ns) (val ds) = 1

theorem gI_one_right (x : Int) : gI x 1 = 1 := by unfold gI; simp

set_option maxRecDepth 100000 in
set_option maxHeartbeats 3200000 in
theorem right_rat {B : Nat} {w : World} {b : Bool} {a1 a2 : Option Addr} {c1 c2 : Nat} {ns ds : List Int} (h1 : Rd B w (.slice a1 ns.length c1) ns) (h2 : Rd B w (.slice a2 ds.length c2) ds) (hB : B ≤ w.heap.size) :
    Calls Tryd.prog 13 #[.agg #[.bool b, .slice a1 ns.length c1, .slice a2 ds.length c2]] w fun e w' => TellsP (RightP b ns ds) e ∧ Below w.heap.size w w' := by
  have b0 : Below w.heap.size w (w.alloc (.cells #[.bool b, .slice a1 ns.length c1, .slice a2 ds.length c2] 24)) := (Below.refl _ _).alloc (Nat.le_refl _) _
  have g1 := h1.below (b0.mono hB)
  have g2 := h2.below (b0.mono hB)
  have s0 : w.heap.size < (w.alloc (.cells #[.bool b, .slice a1 ns.length c1, .slice a2 ds.length c2] 24)).heap.size := by simp
  have k0 : (w.alloc (.cells #[.bool b, .slice a1 ns.length c1, .slice a2 ds.length c2] 24)).cell? ⟨w.heap.size, 0, none⟩ = some (.bool b) := by simp
  have k1 : (w.alloc (.cells #[.bool b, .slice a1 ns.length c1, .slice a2 ds.length c2] 24)).cell? ⟨w.heap.size, 1, none⟩ = some (.slice a1 ns.length c1) := by simp
  have k2 : (w.alloc (.cells #[.bool b, .slice a1 ns.length c1, .slice a2 ds.length c2] 24)).cell? ⟨w.heap.size, 2, none⟩ = some (.slice a2 ds.length c2) := by simp
  go_enter Tryd.func13, Tryd.ntmps13
  by_cases q1 : 32 < ns.length
  · go_wp2
    go_ret
    exact ⟨TellsP.no (fun h => by have := h.1; omega), b0⟩
  by_cases q2 : 32 < ds.length
  · go_wp2
    go_ret
    exact ⟨TellsP.no (fun h => by have := h.2.1; omega), b0⟩
  have c1i := rightB_can h1.lim
  have c2i := rightB_can h2.lim
  go_wp2_with fail
  generalize hA : w.alloc (.cells #[.bool b, .slice a1 ns.length c1, .slice a2 ds.length c2] 24) = wX at *
  clear hA
  refine (right_any g1).mono ?_
  rintro e w' ⟨rfl, rfl⟩
  cases hr1 : rightB ns with
  | false =>
    have HX : Hid (¬ can ns) := by intro h; rw [c1i.2 h] at hr1; cases hr1
    clear c1i c2i hr1
    go_wp2
    go_ret
    exact ⟨TellsP.no (fun h => HX.out h.2.2.1), b0⟩
  | true =>
    have H1 : Hid (can ns) := c1i.1 hr1
    clear c1i hr1
    go_wp2_with fail
    refine (right_any g2).mono ?_
    rintro e w' ⟨rfl, rfl⟩
    cases hr2 : rightB ds with
    | false =>
      have HX : Hid (¬ can ds) := by intro h; rw [c2i.2 h] at hr2; cases hr2
      clear c2i hr2
      go_wp2
      go_ret
      exact ⟨TellsP.no (fun h => HX.out h.2.2.2.1), b0⟩
    | true =>
      have H2 : Hid (can ds) := c2i.1 hr2
      clear c2i hr2
      by_cases hbz : b = true ∧ ns.length = 0
      · obtain ⟨rfl, hz⟩ := hbz
        have hz' : ¬ 0 < ns.length := by omega
        have HX : Hid (¬ RightP true ns ds) := fun h => h.2.2.2.2.1 ⟨rfl, hz⟩
        have hzb : ((ns.length : Int) == 0) = true := by rw [hz]; rfl
        clear hz
        go_wp2
        go_ret
        exact ⟨TellsP.no HX.out, b0⟩
      · have HB : Hid (¬ (b = true ∧ ns.length = 0)) := hbz
        have hcs : b = false ∨ (b = true ∧ ((ns.length : Int) == 0) = false) := by
          cases b with
          | false => exact Or.inl rfl
          | true => right; refine ⟨rfl, ?_⟩; simp; intro e; exact hbz ⟨rfl, by rw [e]; rfl⟩
        clear hbz
        rcases hcs with rfl | ⟨rfl, hnb⟩
        all_goals
          go_wp2_with fail
          refine (isOne_any g2).mono ?_
          rintro e w' ⟨rfl, rfl⟩
          by_cases hone : ds = [1]
          · have HR : Hid (ds.length = 1 ∧ val ds = 1) := by rw [hone]; exact ⟨rfl, by decide⟩
            rw [decide_eq_true hone]
            clear hone
            go_wp2
            go_ret
            exact ⟨TellsP.yes ⟨by omega, by omega, H1.out, H2.out, (by first | exact HB.out | (have := HB.out; simpa using this)), by have := HR.out.1; omega, by rw [HR.out.2]; exact gI_one_right _⟩, b0⟩
          · rw [decide_eq_false hone]
            clear hone
            by_cases hd0 : 0 < ds.length
            · go_wp2_with fail
              refine (gcd2 g1 g2 (by omega) (by omega) 32 (by omega) (by omega) (by omega)).mono ?_
              rintro e wg ⟨zs, cz, vz, lz, ag, qg, rfl, og, bg⟩
              go_wp2_with fail
              refine (isOne_any og.rd).mono ?_
              rintro e w' ⟨rfl, rfl⟩
              by_cases hz1 : zs = [1]
              · have HG : Hid (gI (val ns) (val ds) = 1) := by unfold Hid; rw [← vz, hz1]; decide
                rw [decide_eq_true hz1]
                clear vz hz1 lz
                go_wp2
                go_ret
                exact ⟨TellsP.yes ⟨by omega, by omega, H1.out, H2.out, (by first | exact HB.out | (have := HB.out; simpa using this)), hd0, HG.out⟩, b0.trans (bg.mono (Nat.le_of_lt s0))⟩
              · have HG : Hid (¬ gI (val ns) (val ds) = 1) := by
                  intro h
                  rw [h] at vz
                  exact hz1 (limbs_of cz 1 (by omega) (by omega) vz)
                rw [decide_eq_false hz1]
                clear vz hz1 lz
                go_wp2
                go_ret
                exact ⟨TellsP.no (fun h => HG.out h.2.2.2.2.2.2), b0.trans (bg.mono (Nat.le_of_lt s0))⟩
            · go_wp2
              go_ret
              exact ⟨TellsP.no (fun h => hd0 h.2.2.2.2.2.1), b0⟩
end Go.Proofs.YtibciilhfpgjjadDoor
