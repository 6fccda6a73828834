/- (*common).with and nat.Gcd: the greatest common divisor of numbers. -/
import Derived.Test.YtibciilhfpgjjadDoorWord
import Derived.Deep.RegionHeld3
namespace Go.Proofs.YtibciilhfpgjjadDoor
set_option linter.unusedVariables false
set_option linter.unusedSimpArgs false
open Go.RowKit

theorem of_word (r : Int) (h0 : 0 ≤ r) (h1 : r < 18446744073709551616) : val (tr [r % 4294967296, r / 4294967296]) = r ∧ can (tr [r % 4294967296, r / 4294967296]) ∧ (tr [r % 4294967296, r / 4294967296]).length ≤ 2 := by
  have hl : lim [r % 4294967296, r / 4294967296] := by
    intro x hx; simp at hx; omega
  refine ⟨by rw [val_tr]; simp only [val]; omega, tr_can hl, ?_⟩
  have := tr_length_le [r % 4294967296, r / 4294967296]
  simpa using this

theorem two_limbs {xs : List Int} (h : lim xs) (hl : xs.length ≤ 2) : 0 ≤ val xs ∧ val xs < 18446744073709551616 := by
  have h1 := val_bound h
  have h2 := pw_mono hl
  have e : pw 2 = 18446744073709551616 := by decide
  omega

/-- Two rows of the call's own are not the same. -/
def Apart (u v : Value) : Prop := ∀ k, u.ownBlock = some k → v.ownBlock ≠ some k
theorem Apart.symm {u v : Value} (h : Apart u v) : Apart v u := fun k hk hv => h k hv hk

set_option maxRecDepth 100000 in
set_option maxHeartbeats 4000000 in
theorem with_any {base B K : Nat} {w : World} {a ba : Option Addr} {c bc : Nat} {xs ys : List Int} (hbox : Box w B 76 (.slice a xs.length c)) (hown : Own base w (.slice a xs.length c) xs) (cx : can xs) (hownb : Own base w (.slice ba ys.length bc) ys) (cy : can ys) (hap : Apart (.slice a xs.length c) (.slice ba ys.length bc)) (hBb : base ≤ B) (hbs : base ≤ w.heap.size) (hxK : xs.length ≤ K) (hyK : ys.length ≤ K) (hK : K ≤ 17592186044414) :
    Calls Tryd.prog 55 #[.pointer (some ⟨B, 0, none⟩), .slice ba ys.length bc] w fun e w' => e = .returned (.tuple #[]) ∧ ∃ zs a' c', can zs ∧ val zs = gI (val xs) (val ys) ∧ zs.length ≤ K + 2 ∧ Box w' B 76 (.slice a' zs.length c') ∧ Own base w' (.slice a' zs.length c') zs ∧ Below base w w' := by
  go_enter Tryd.func55, Tryd.ntmps55
  go_wp2
  go_loopg [1] (val ys).toNat (fun gk s wr => ∃ (us vs : List Int) (a1 a2 : Option Addr) (c1 c2 : Nat), Hid (gk = (val vs).toNat) ∧ s = .slice a2 vs.length c2 ∧ can us ∧ can vs ∧ us.length ≤ K ∧ vs.length ≤ K ∧ Box wr B 76 (.slice a1 us.length c1) ∧ Own base wr (.slice a1 us.length c1) us ∧ Own base wr (.slice a2 vs.length c2) vs ∧ Apart (.slice a1 us.length c1) (.slice a2 vs.length c2) ∧ Hid (gI (val us) (val vs) = gI (val xs) (val ys)) ∧ Below base w wr)
  case atStart => exact ⟨xs, ys, a, ba, c, bc, rfl, rfl, cx, cy, hxK, hyK, hbox, hown, hownb, hap, rfl, Below.refl _ _⟩
  case round =>
    obtain ⟨us, vs, a1, a2, c1, c2, hgk, rfl, cu, cv, huK, hvK, hboxr, hownu, hownv, hapr, hg, hbl⟩ := hrel
    have hcr := cell_of_one hboxr
    have hfr := free_of_one hboxr
    have hsz := hbl.size
    have hneB := own_box_ne hboxr hownv (by decide)
    have hu0 := (val_bound cu.1).1
    have hv0 := (val_bound cv.1).1
    by_cases hlen : 2 < vs.length
    · go_wp2_with fail
      refine (by_any2 (by decide) hboxr hownu hBb (by omega) cu cv (by omega) (by omega) (by omega) hownv.rd (Nat.le_refl _)).mono ?_
      rintro e w1 ⟨qs, rs, a3, c3, a4, c4, rfl, hq, cq, cr, hbox1, hown1, hval, hlt, _, hrl, hrv, hrow, hk1⟩
      have hownv1 : Own base w1 (.slice a2 vs.length c2) vs := hownv.kept2 hk1 hneB (fun k hk e => hapr k e.symm hk)
      have hap1 : Apart (.slice a2 vs.length c2) (.slice a4 rs.length c4) := by
        intro k hk hk2
        rcases hrow k hk2 with e | e
        · exact hapr k e.symm hk
        · have := (hownv.2.lt k hk).2; omega
      have hr0 := (val_bound cr.1).1
      have hg1 := gI_of _ _ _ _ hu0 hv0 hval hr0 hlt
      have HG1 : Hid (gI (val vs) (val rs) = gI (val xs) (val ys)) := by unfold Hid; rw [← hg1]; exact hg.out
      have HLT : Hid (val rs < val vs ∧ 0 ≤ val rs) := ⟨hlt, hr0⟩
      have hc1 := cell_of_one hbox1
      have hf1 := free_of_one hbox1
      have hbl1 : Below base w w1 := hbl.trans (hk1.below hBb (by omega) (fun k hk => (hownu.2.lt k hk).1))
      clear hq hval hlt hg1 hcr hfr hu0 hv0 hr0
      go_wp2
      go_roundg ((val rs).toNat)
      case rel => exact ⟨vs, rs, a2, a4, c2, c4, rfl, rfl, cv, cr, hvK, by omega, one_setCell hbox1, hownv1.setCell (own_box_ne hbox1 hownv1 (by decide)) _, hown1.setCell (own_box_ne hbox1 hown1 (by decide)) _, hap1, HG1, hbl1.setCell hBb _⟩
      case measure => have h1 := HLT.out; have h2 := hgk.out; omega
    · by_cases h0 : vs.length = 0
      · have hvz := (can_zero cv).1 h0
        have hg1 := hg.out
        rw [hvz, gI_zero _ hu0] at hg1
        have HG1 : Hid (val us = gI (val xs) (val ys)) := hg1
        have h0' : ((vs.length : Nat) : Int) = 0 := by omega
        clear hvz hg1
        go_wp2
        go_end0
        exact ⟨rfl, us, a1, c1, cu, HG1.out, by omega, hboxr, hownu, hbl⟩
      · have h0' : ¬ ((vs.length : Nat) : Int) ≤ 0 := by omega
        go_wp2_with fail
        refine (by_any2 (by decide) hboxr hownu hBb (by omega) cu cv (by omega) (by omega) (by omega) hownv.rd (Nat.le_refl _)).mono ?_
        rintro e w1 ⟨qs, rs, a3, c3, a4, c4, rfl, hq, cq, cr, hbox1, hown1, hval, hlt, _, hrl, hrv, hrow, hk1⟩
        have hownv1 : Own base w1 (.slice a2 vs.length c2) vs := hownv.kept2 hk1 hneB (fun k hk e => hapr k e.symm hk)
        have hr0 := (val_bound cr.1).1
        have hg1 := gI_of _ _ _ _ hu0 hv0 hval hr0 hlt
        have HG1 : Hid (gI (val vs) (val rs) = gI (val xs) (val ys)) := by unfold Hid; rw [← hg1]; exact hg.out
        have hc1 := cell_of_one hbox1
        have hf1 := free_of_one hbox1
        have hbl1 : Below base w w1 := hbl.trans (hk1.below hBb (by omega) (fun k hk => (hownu.2.lt k hk).1))
        have b1 := two_limbs cv.1 (by omega)
        have b2 := two_limbs cr.1 (by omega)
        have rv := hownv1.rd
        have rr := hown1.rd
        have hgle := gI_le _ _ b1.1 b2.1
        have hgn := gI_nonneg (val vs) (val rs)
        have hglt : gI (val vs) (val rs) < 18446744073709551616 := by
          have h1 : gI (val vs) (val rs) ≤ val vs := by
            unfold gI
            have hp : 0 < (val vs).toNat := by
              have := can_zero cv
              have : ¬ val vs = 0 := fun e => h0 (this.2 e)
              omega
            have := Nat.gcd_le_left (val rs).toNat hp
            omega
          omega
        have lt1 := lt_of_block hbox1
        clear hq hval hlt hg1 hcr hfr hu0 hv0 hr0 hgle
        generalize hVV : val vs = V at *
        generalize hRR : val rs = R at *
        go_wp2
        have rvd : Rd w1.heap.size w1.drew (.slice a2 vs.length c2) vs := rv
        have rrd : Rd w1.heap.size w1.drew (.slice a4 rs.length c4) rs := rr
        clear hown hbox hownb hap hrow hk1 hboxr hownu hownv hapr hneB rv rr
        go_region_with
          (first
          | (go_at_call_of 76 a2; refine (wd_rd (B := w1.heap.size) (xs := vs) (by exact rvd) (by omega)).mono ?_; rintro e wx ⟨rfl, rfl⟩; rw [hVV])
          | (go_at_call_of 76 a4; refine (wd_rd (B := w1.heap.size) (xs := rs) (by exact rrd) (by omega)).mono ?_; rintro e wx ⟨rfl, rfl⟩; rw [hRR])
          | (go_at_call 75; refine (wordGcd_any V R b1 b2).mono ?_; rintro e wx ⟨rfl, kx, rfl⟩)
          | (go_at_call 67; refine (beginAt_any (gI V R) hgn hglt _).mono ?_; rintro e w2 ⟨a5, c5, rfl, hown5, hbl5⟩; have hO := of_word (gI V R) hgn hglt; generalize tr [gI V R % 4294967296, gI V R / 4294967296] = gs at *; have HO := hide hO; clear hO; have hf5 : w2.frozen? ⟨B, 0, none⟩ = false := (hbl5.frozen (p := ⟨B, 0, none⟩) (show B < _ from lt1)).trans hf1; have hc5 : w2.cell? ⟨B, 0, none⟩ = some (.slice a4 rs.length c4) := (hbl5.cell (p := ⟨B, 0, none⟩) (show B < _ from lt1)).trans hc1))
        all_goals
          have hbs1 : base ≤ w1.heap.size := by omega
          have hb5 : Below base w1 w2 := ⟨hbl5.os, hbl5.tape, hbl5.output, hbl5.size, fun k hk => hbl5.block k (Nat.lt_of_lt_of_le hk (show base ≤ w1.heap.size from hbs1))⟩
          have hbox5 : Box w2 B 76 (.slice a4 rs.length c4) := by unfold Box; rw [hbl5.block B (show B < w1.heap.size from lt1)]; exact hbox1
          have hown6 : Own base w2 (.slice a5 gs.length c5) gs := hown5.mono (show base ≤ w1.heap.size from hbs1)
          go_end0
          exact ⟨rfl, gs, a5, c5, HO.out.2.1, HO.out.1.trans HG1.out, by have := HO.out.2.2; omega, one_setCell hbox5, hown6.setCell (own_box_ne hbox5 hown6 (by decide)) _, (hbl1.trans hb5).setCell hBb _⟩
end Go.Proofs.YtibciilhfpgjjadDoor
