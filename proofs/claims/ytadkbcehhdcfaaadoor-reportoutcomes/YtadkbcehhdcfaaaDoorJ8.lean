/- The document's numbers: one, Right, Make; the statements' helper same. -/
import Derived.Test.YtadkbcehhdcfaaaDoorJ6
import Derived.Test.YtadkbcehhdcfaaaDoorJ5
import Derived.Test.YtadkbcehhdcfaaaDoorJ7
namespace Go.Proofs.YtadkbcehhdcfaaaDoor
set_option linter.unusedVariables false
set_option linter.unusedSimpArgs false
open Go.RowKit

theorem refOne_any (w : World) : Calls Tryd.prog 48 #[] w fun e w' => ∃ ds a c, Hid (ds = [(1 : Int)]) ∧ e = .returned (.slice a ds.length c) ∧ Own w.heap.size w' (.slice a ds.length c) ds ∧ Below w.heap.size w w' := by
  have hO : Own w.heap.size (w.alloc (.cells #[.int .u32 1] 85)) (.slice (some ⟨w.heap.size, 0, none⟩) 1 1) [1] := ⟨can_one.1, World.ownsRow_lit w #[.int .u32 1] 1 (Nat.le_refl _) (by unfold maxLen; omega) rfl⟩
  go_enter Tryd.func48, Tryd.ntmps48
  go_wp2
  go_ret
  exact ⟨[1], some ⟨w.heap.size, 0, none⟩, 1, rfl, rfl, hO, below_alloc _ _⟩

theorem cmpI_zero' {a b : Int} : cmpI a b = 0 ↔ a = b := by
  unfold cmpI
  split
  · omega
  · split <;> omega
theorem one_val' : val [(1 : Int)] = 1 := by decide
theorem gcdV_two (x y : List Int) (hx : 0 ≤ val x) : gcdV [x, y] = gI (val x) (val y) := by
  simp only [gcdV, List.foldl]
  rw [gI_zero_left _ hx]

theorem gI_len {g us vs : List Int} (cg : can g) (cv : can vs) (vg : val g = gI (val us) (val vs)) (hu : 0 ≤ val us) (hv : 0 < val vs) : g.length ≤ vs.length := by
  have hgp : 0 < val g := by rw [vg]; exact gI_pos _ _ hu hv
  obtain ⟨_, ⟨k2, hk2, _⟩⟩ := gI_dvd (val us) (val vs) hu (Int.le_of_lt hv)
  rw [← vg] at hk2
  rw [can_len_pw cg]
  have h5 : val g ≤ val vs := by
    rcases Int.lt_or_le 0 k2 with h7 | h7
    · have := Int.mul_le_mul_of_nonneg_right (show (1 : Int) ≤ k2 by omega) (Int.le_of_lt hgp)
      omega
    · have : k2 * val g ≤ 0 := Int.mul_nonpos_of_nonpos_of_nonneg h7 (Int.le_of_lt hgp)
      omega
  have h6 := (can_len_pw cv vs.length).1 (Nat.le_refl _)
  omega

set_option maxRecDepth 100000 in
set_option maxHeartbeats 3200000 in
theorem refRight_rat {w : World} {b : Bool} {a1 a2 : Option Addr} {c1 c2 : Nat} {ns ds : List Int} (h1 : Rd w.heap.size w (.slice a1 ns.length c1) ns) (h2 : Rd w.heap.size w (.slice a2 ds.length c2) ds) :
    Calls Tryd.prog 45 #[.agg #[.bool b, .slice a1 ns.length c1, .slice a2 ds.length c2]] w fun e w' => TellsP (RightP b ns ds) e ∧ Below w.heap.size w w' := by
  have X := nvar_new (b := b) h1 h2
  have g := below_alloc w (.cells #[.bool b, .slice a1 ns.length c1, .slice a2 ds.length c2] 57)
  have c1i := rightB_can h1.lim
  have c2i := rightB_can h2.lim
  have n0 := (val_bound h1.lim).1
  obtain ⟨x0, x1, x2⟩ := X.cells
  go_enter Tryd.func45, Tryd.ntmps45
  go_wp2_with fail
  generalize hA : w.alloc (.cells #[.bool b, .slice a1 ns.length c1, .slice a2 ds.length c2] 57) = v at *
  clear hA
  refine (refRight_any X.rn).mono ?_
  rintro e w' ⟨rfl, rfl⟩
  cases hr1 : rightB ns with
  | false =>
    have HX : Hid (¬ can ns) := by intro h; rw [c1i.2 h] at hr1; cases hr1
    clear c1i c2i hr1
    go_wp2
    go_ret
    exact ⟨TellsP.no (fun h => HX.out h.2.2.1), g⟩
  | true =>
    have H1 : Hid (can ns) := c1i.1 hr1
    clear c1i hr1
    go_wp2_with fail
    refine (refRight_any X.rd).mono ?_
    rintro e w' ⟨rfl, rfl⟩
    cases hr2 : rightB ds with
    | false =>
      have HX : Hid (¬ can ds) := by intro h; rw [c2i.2 h] at hr2; cases hr2
      clear c2i hr2
      go_wp2
      go_ret
      exact ⟨TellsP.no (fun h => HX.out h.2.2.2.1), g⟩
    | true =>
      have H2 : Hid (can ds) := c2i.1 hr2
      clear c2i hr2
      by_cases hd0 : 0 < ds.length
      · have hdb : ((ds.length : Int) == 0) = false := by rw [beq_eq_false_iff_ne]; omega
        by_cases q1 : 32 < ns.length
        · go_wp2
          go_ret
          exact ⟨TellsP.no (fun h => by have := h.1; omega), g⟩
        by_cases q2 : 32 < ds.length
        · go_wp2
          go_ret
          exact ⟨TellsP.no (fun h => by have := h.2.1; omega), g⟩
        by_cases hbz : b = true ∧ ns.length = 0
        · obtain ⟨rfl, hz⟩ := hbz
          have hz' : ¬ 0 < ns.length := by omega
          have HX : Hid (¬ RightP true ns ds) := fun h => h.2.2.2.2.1 ⟨rfl, hz⟩
          have hzb : ((ns.length : Int) == 0) = true := by rw [hz]; rfl
          clear hz
          go_wp2
          go_ret
          exact ⟨TellsP.no HX.out, g⟩
        · have HB : Hid (¬ (b = true ∧ ns.length = 0)) := hbz
          have hcs : (((ns.length : Int) == 0) = true ∧ b = false) ∨ ((ns.length : Int) == 0) = false := by
            cases hh : ((ns.length : Int) == 0) with
            | false => exact Or.inr rfl
            | true =>
              refine Or.inl ⟨rfl, ?_⟩
              rw [beq_iff_eq] at hh
              cases b with
              | false => rfl
              | true => exact absurd ⟨rfl, by omega⟩ hbz
          clear hbz
          rcases hcs with ⟨hnb, rfl⟩ | hnb
          all_goals
            have hm := many2 X.rn X.rd (Nat.le_refl _) (Nat.le_refl _)
            go_wp2_with fail
            refine (refGcd_any (M := 32) hm (by omega) (by omega) (fun j hj => by match j, hj with | 0, _ => exact Nat.le_of_not_lt q1 | 1, _ => exact Nat.le_of_not_lt q2)).mono ?_
            rintro e wa ⟨zs, cz, vz, hmk⟩
            obtain ⟨a3, c3, rfl, o3, ka⟩ := Makes.alloc (w := v) hmk
            clear hmk hm
            have HZ : Hid (val zs = gI (val ns) (val ds)) := by unfold Hid; rw [vz]; exact gcdV_two ns ds n0
            clear vz
            have g1 : Below w.heap.size w wa := g.trans (ka.mono g.size)
            have lz : zs.length ≤ ds.length := gI_len cz H2.out HZ.out n0 (by have h5 := can_low H2.out hd0; have h6 := pw_pos (ds.length - 1); omega)
            go_wp2_with fail
            refine (refOne_any _).mono ?_
            rintro e wb ⟨os, a4, c4, HO, rfl, o4, kb⟩
            have g2 : Below w.heap.size w wb := g1.trans (kb.mono g1.size)
            have lo : os.length ≤ 1 := by rw [HO.out]; exact Nat.le_refl _
            go_wp2_with fail
            refine (refCompare_rd (o3.below kb (Nat.le_refl _)).rd o4.rd (Nat.le_refl _) (by clear n0; omega) (by clear n0; omega)).mono ?_
            rintro e wc ⟨rfl, kc⟩
            have g3 : Below w.heap.size w wc := g2.trans (kc.mono g2.size)
            have HV : Hid (val os = 1) := by unfold Hid; rw [HO.out]; exact one_val'
            rw [HV.out]
            by_cases hz : val zs = 1
            · have HG : Hid (gI (val ns) (val ds) = 1) := by unfold Hid; rw [← HZ.out]; exact hz
              rw [cmpI_eq hz]
              clear hz
              go_wp2
              go_ret
              exact ⟨TellsP.yes ⟨by omega, by omega, H1.out, H2.out, (by first | exact HB.out | (have h5 := HB.out; simpa using h5)), hd0, HG.out⟩, g3⟩
            · have HG : Hid (¬ gI (val ns) (val ds) = 1) := by unfold Hid; rw [← HZ.out]; exact hz
              have hcb : (cmpI (val zs) 1 == 0) = false := by
                rw [beq_eq_false_iff_ne]
                intro h5
                exact hz (cmpI_zero'.1 h5)
              clear hz
              go_wp2
              go_ret
              exact ⟨TellsP.no (fun h => HG.out h.2.2.2.2.2.2), g3⟩
      · have hdb : ((ds.length : Int) == 0) = true := by rw [beq_iff_eq]; omega
        go_wp2
        go_ret
        exact ⟨TellsP.no (fun h => hd0 h.2.2.2.2.2.1), g⟩

end Go.Proofs.YtadkbcehhdcfaaaDoor

/- The document's Make by nought. -/
namespace Go.Proofs.YtadkbcehhdcfaaaDoor
set_option linter.unusedVariables false
set_option linter.unusedSimpArgs false
open Go.RowKit

end Go.Proofs.YtadkbcehhdcfaaaDoor

/- The document's Make. -/
namespace Go.Proofs.YtadkbcehhdcfaaaDoor
set_option linter.unusedVariables false
set_option linter.unusedSimpArgs false
open Go.RowKit

theorem right_signed {b : Bool} {ns ds : List Int} {N D : Int} (cn : can ns) (cd : can ds) (hd : 0 < ds.length) (hg : gI (val ns) (val ds) = 1) (hv : sg b (val ns) * D = N * val ds) (l1 : ¬ 32 < ns.length) (l2 : ¬ 32 < ds.length) : RightP (b && decide (0 < ns.length)) ns ds ∧ sg (b && decide (0 < ns.length)) (val ns) * D = N * val ds := by
  refine ⟨⟨by omega, by omega, cn, cd, ?_, hd, hg⟩, ?_⟩
  · rintro ⟨hx, hz⟩
    rw [decide_eq_false (by omega)] at hx
    simp at hx
  · by_cases h0 : 0 < ns.length
    · rw [decide_eq_true h0, Bool.and_true]; exact hv
    · have hz := (can_zero cn).1 (by omega)
      rw [hz, sg_zero] at hv
      rw [hz, sg_zero]; exact hv

end Go.Proofs.YtadkbcehhdcfaaaDoor

/- What makings answer, in one form; the statements' helper same. -/
namespace Go.Proofs.YtadkbcehhdcfaaaDoor
set_option linter.unusedVariables false
set_option linter.unusedSimpArgs false
open Go.RowKit

/-- What is made of N by D: an error, or the number. -/
def MakeSpec (N D : Int) (b : Bool) (ns ds : List Int) (err : Int) : Prop :=
  (D = 0 ∧ err = 22 ∧ b = false ∧ ns = [] ∧ ds = []) ∨ (0 < D ∧ err = 8 ∧ b = false ∧ ns = [] ∧ ds = [] ∧ Big N D) ∨ (0 < D ∧ err = 0 ∧ RightP b ns ds ∧ sg b (val ns) * D = N * val ds)
theorem MakeSpec.unique {N D : Int} {b c : Bool} {ns ds ms es : List Int} {e f : Int} (h : MakeSpec N D b ns ds e) (k : MakeSpec N D c ms es f) : c = b ∧ ms = ns ∧ es = ds ∧ f = e := by
  rcases h with ⟨hD, rfl, rfl, rfl, rfl⟩ | ⟨hD, rfl, rfl, rfl, rfl, hb⟩ | ⟨hD, rfl, hr, hv⟩ <;> rcases k with ⟨kD, rfl, rfl, rfl, rfl⟩ | ⟨kD, rfl, rfl, rfl, rfl, kb⟩ | ⟨kD, rfl, kr, kv⟩
  · exact ⟨rfl, rfl, rfl, rfl⟩
  · omega
  · omega
  · omega
  · exact ⟨rfl, rfl, rfl, rfl⟩
  · exact absurd hb (not_big kr kv kD)
  · omega
  · exact absurd kb (not_big hr hv hD)
  · obtain ⟨rfl, rfl, rfl⟩ := right_is hr hv hD kr kv
    exact ⟨rfl, rfl, rfl, rfl⟩
/-- A number with an error is answered. -/
def RAns (w : World) (b : Bool) (ns ds : List Int) (err : Int) (e : Ending) (w' : World) : Prop :=
  Below w.heap.size w w' ∧ ∃ a1 c1 a2 c2, e = .returned (.tuple #[.agg #[.bool b, .slice a1 ns.length c1, .slice a2 ds.length c2], .int .i64 err]) ∧ Rd w'.heap.size w' (.slice a1 ns.length c1) ns ∧ Rd w'.heap.size w' (.slice a2 ds.length c2) ds
theorem RMakes.spec {w w' : World} {N D : Int} {e : Ending} (h : RMakes w N D e w') (hD : 0 < D) : ∃ b ns ds err, Hid (MakeSpec N D b ns ds err) ∧ RAns w b ns ds err e w' := by
  obtain ⟨hb, ⟨rfl, hbig⟩ | ⟨b, ns, ds, a1, c1, a2, c2, rfl, on, od, hr, hv⟩⟩ := h
  · exact ⟨false, [], [], 8, Or.inr (Or.inl ⟨hD, rfl, rfl, rfl, rfl, hbig⟩), hb, none, 0, none, 0, rfl, nil_rd _, nil_rd _⟩
  · exact ⟨b, ns, ds, 0, Or.inr (Or.inr ⟨hD, rfl, hr, hv⟩), hb, a1, c1, a2, c2, rfl, on.rd, od.rd⟩
theorem err_spec {w w' : World} {N : Int} {e : Ending} (hb : Below w.heap.size w w') (he : e = errOf 22) : ∃ b ns ds err, Hid (MakeSpec N 0 b ns ds err) ∧ RAns w b ns ds err e w' :=
  ⟨false, [], [], 22, Or.inl ⟨rfl, rfl, rfl, rfl, rfl⟩, hb, none, 0, none, 0, he, nil_rd _, nil_rd _⟩

section
variable {w : World} {b : Bool} {a1 a2 a3 a4 : Option Addr} {c1 c2 c3 c4 : Nat} {xs ys ns ds : List Int}
end
end Go.Proofs.YtadkbcehhdcfaaaDoor
