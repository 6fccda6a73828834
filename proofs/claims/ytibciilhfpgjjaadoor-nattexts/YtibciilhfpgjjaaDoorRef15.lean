/- The document's Gcd; both divisions in one form. -/
import Derived.Test.YtibciilhfpgjjaaDoorRef14
namespace Go.Proofs.YtibciilhfpgjjaaDoor
set_option linter.unusedVariables false
set_option linter.unusedSimpArgs false
open Go.RowKit

set_option maxHeartbeats 1600000 in
theorem refGcd_any {Lb k M : Nat} {vs : List Value} {xss : List (List Int)} {w : World} (hm : Many w Lb k vs xss) (hk : k ≤ 1000) (hM : M ≤ 100000) (hs : ∀ j, j < k → (xss.getD j []).length ≤ M) :
    Calls Tryd.prog 35 #[.slice (some ⟨Lb, 0, none⟩) k k] w fun e w' => ∃ zs, can zs ∧ val zs = gcdV xss ∧ Makes w e w' zs := by
  go_enter Tryd.func35, Tryd.ntmps35
  go_wp2
  go_loopw [3, 4] (fun s ii wr => ∃ (i : Nat) (zs : List Int) (a : Option Addr) (c : Nat), i ≤ k ∧ ii = .int .i64 i ∧ can zs ∧ Hid (val zs = gcdV (xss.take i)) ∧ zs.length ≤ M + i ∧ s = .slice a zs.length c ∧ Own w.heap.size wr (.slice a zs.length c) zs ∧ Below w.heap.size w wr)
    (fun _ ii _ => k - (intOf ii).toNat)
  case atStart => exact ⟨0, [], none, 0, Nat.zero_le _, rfl, can_nil, rfl, by simp, rfl, own_nil _ _, Below.refl _ _⟩
  case round =>
    obtain ⟨i, zs, a, c, hik, rfl, hcan, hval, hlen, rfl, hown, hbl⟩ := hrel
    by_cases hlt : i < k
    · have hcell : wr.cell? ⟨Lb, i, none⟩ = some (vs.getD i (.bool false)) := (hbl.cell hm.lt).trans (hm.cell i hlt)
      have hrd : Rd w.heap.size wr (vs.getD i (.bool false)) (xss.getD i []) := (hm.rd i hlt).below hbl
      have hsz := hbl.size
      have hl := hs i hlt
      have HE : Hid (gcdV (xss.take (i + 1)) = gI (gcdV (xss.take i)) (val (xss.getD i []))) := gcdV_succ xss i (by rw [hm.lx]; exact hlt)
      generalize hV : vs.getD i (.bool false) = V at *
      generalize xss.getD i [] = ys at *
      clear hV
      go_wp2_with fail
      refine (refgcd_any hown.rd (Nat.le_refl _) hrd hsz (M + i) hlen (by omega) (by omega)).mono ?_
      rintro e w2 ⟨us, cu, vu, lu, a3, c3, rfl, ho3, hb3⟩
      have HU : Hid (val us = gcdV (xss.take (i + 1))) := by unfold Hid; rw [HE.out, vu, hval.out]
      clear vu
      go_wp2
      go_roundw
      case rel => exact ⟨i + 1, us, a3, c3, by omega, by go_num, cu, HU, by omega, rfl, ho3.mono hsz, hbl.trans (hb3.mono hsz)⟩
      case measure => simp [intOf]; omega
    · obtain rfl : i = k := by omega
      go_wp2
      go_ret
      exact ⟨zs, hcan, by rw [hval.out, ← hm.lx, List.take_length], a, c, rfl, hown, hbl⟩

def DivSpec (A B : Int) (qs rs : List Int) (b : Bool) : Prop := (B = 0 ∧ qs = [] ∧ rs = [] ∧ b = false) ∨ (0 < B ∧ b = true ∧ can qs ∧ can rs ∧ A = val qs * B + val rs ∧ val rs < B)

theorem DivSpec.unique {A B : Int} {q r q' r' : List Int} {b b' : Bool} (h : DivSpec A B q r b) (h' : DivSpec A B q' r' b') : q = q' ∧ r = r' ∧ b = b' := by
  rcases h with ⟨e, rfl, rfl, rfl⟩ | ⟨h0, rfl, cq, cr, hv, hl⟩
  · rcases h' with ⟨_, rfl, rfl, rfl⟩ | ⟨h0, _⟩
    · exact ⟨rfl, rfl, rfl⟩
    · omega
  · rcases h' with ⟨e, _⟩ | ⟨_, rfl, cq', cr', hv', hl'⟩
    · omega
    · obtain ⟨e1, e2⟩ := div_unique A B _ _ _ _ hv (val_bound cr.1).1 hl hv' (val_bound cr'.1).1 hl'
      exact ⟨can_inj cq cq' e1, can_inj cr cr' e2, rfl⟩

def Divs (w : World) (A B : Int) (e : Ending) (w' : World) : Prop :=
  ∃ qs rs a c a2 c2 b, e = .returned (.tuple #[.slice a qs.length c, .slice a2 rs.length c2, .bool b]) ∧ Own w.heap.size w' (.slice a qs.length c) qs ∧ Own w.heap.size w' (.slice a2 rs.length c2) rs ∧ Hid (DivSpec A B qs rs b) ∧ Below w.heap.size w w'

theorem divMod_form {B1 B2 : Nat} {w : World} {v1 v2 : Value} {xs ys : List Int} (h1 : Rd B1 w v1 xs) (hB1 : B1 ≤ w.heap.size) (h2 : Rd B2 w v2 ys) (hB2 : B2 ≤ w.heap.size) (hn : xs.length ≤ 1000000) (hm : ys.length ≤ 1000000) :
    Calls Tryd.prog 32 #[v1, v2] w fun e w' => Divs w (val xs) (val ys) e w' := by
  by_cases h0 : val ys = 0
  · refine (divMod_zero h2 h0).mono ?_
    rintro e w' ⟨rfl, rfl⟩
    exact ⟨[], [], none, 0, none, 0, false, rfl, own_nil _ _, own_nil _ _, Or.inl ⟨h0, rfl, rfl, rfl⟩, Below.refl _ _⟩
  · refine (divMod_any h1 hB1 h2 hB2 h0 (by omega) (by omega)).mono ?_
    rintro e w' ⟨qs, rs, a, c, a2, c2, rfl, oq, or, cq, cr, hv, hl, _, _, hb⟩
    exact ⟨qs, rs, a, c, a2, c2, true, rfl, oq, or, Or.inr ⟨by have := (val_bound h2.lim).1; omega, rfl, cq, cr, hv, hl⟩, hb⟩

theorem refDivMod_form {B1 B2 : Nat} {w : World} {v1 v2 : Value} {xs ys : List Int} (h1 : Rd B1 w v1 xs) (hB1 : B1 ≤ w.heap.size) (h2 : Rd B2 w v2 ys) (hB2 : B2 ≤ w.heap.size) (hn : xs.length ≤ 1000000) (hm : ys.length ≤ 1000000) :
    Calls Tryd.prog 33 #[v1, v2] w fun e w' => Divs w (val xs) (val ys) e w' := by
  by_cases h0 : val ys = 0
  · refine (refDivMod_zero h2 hm h0).mono ?_
    rintro e w' ⟨rfl, hb⟩
    exact ⟨[], [], none, 0, none, 0, false, rfl, own_nil _ _, own_nil _ _, Or.inl ⟨h0, rfl, rfl, rfl⟩, hb⟩
  · refine (refDivMod_any h1 hB1 h2 hB2 hn hm h0).mono ?_
    rintro e w' ⟨qs, rs, a, c, a2, c2, rfl, oq, or, cq, cr, hv, hl, hb⟩
    exact ⟨qs, rs, a, c, a2, c2, true, rfl, oq, or, Or.inr ⟨by have := (val_bound h2.lim).1; omega, rfl, cq, cr, hv, hl⟩, hb⟩
end Go.Proofs.YtibciilhfpgjjaaDoor
