/- rat.allRight of two. -/
import Derived.Test.YtibciilhfpgjjadDoorRatTimes
namespace Go.Proofs.YtibciilhfpgjjadDoor
set_option linter.unusedVariables false
set_option linter.unusedSimpArgs false
open Go.RowKit

/-- Two numbers lie in a list. -/
structure Two (w : World) (Lb : Nat) (x0 x1 x2 y0 y1 y2 : Value) : Prop where
  lt : Lb < w.heap.size
  k0 : w.cell? ⟨Lb, 0, none⟩ = some x0
  k1 : w.cell? ⟨Lb, 1, none⟩ = some x1
  k2 : w.cell? ⟨Lb, 2, none⟩ = some x2
  k3 : w.cell? ⟨Lb, 3, none⟩ = some y0
  k4 : w.cell? ⟨Lb, 4, none⟩ = some y1
  k5 : w.cell? ⟨Lb, 5, none⟩ = some y2

theorem Two.below {w w' : World} {Lb : Nat} {x0 x1 x2 y0 y1 y2 : Value} (h : Two w Lb x0 x1 x2 y0 y1 y2) (hb : Below w.heap.size w w') : Two w' Lb x0 x1 x2 y0 y1 y2 :=
  ⟨Nat.lt_of_lt_of_le h.lt hb.size, (hb.cell (p := ⟨Lb, 0, none⟩) h.lt).trans h.k0, (hb.cell (p := ⟨Lb, 1, none⟩) h.lt).trans h.k1, (hb.cell (p := ⟨Lb, 2, none⟩) h.lt).trans h.k2, (hb.cell (p := ⟨Lb, 3, none⟩) h.lt).trans h.k3, (hb.cell (p := ⟨Lb, 4, none⟩) h.lt).trans h.k4, (hb.cell (p := ⟨Lb, 5, none⟩) h.lt).trans h.k5⟩

theorem two_new (w : World) (x0 x1 x2 y0 y1 y2 : Value) (t : TypeId) : Two (w.alloc (.cells #[x0, x1, x2, y0, y1, y2] t)) w.heap.size x0 x1 x2 y0 y1 y2 :=
  ⟨by simp, by simp, by simp, by simp, by simp, by simp, by simp⟩

section
variable {B Lb : Nat} {w : World} {bx cy : Bool} {a1 a2 a3 a4 : Option Addr} {c1 c2 c3 c4 : Nat} {xn xd yn yd : List Int}

set_option maxRecDepth 100000 in
set_option maxHeartbeats 3200000 in
theorem allRight2 (hT : Two w Lb (.bool bx) (.slice a1 xn.length c1) (.slice a2 xd.length c2) (.bool cy) (.slice a3 yn.length c3) (.slice a4 yd.length c4)) (h1 : Rd B w (.slice a1 xn.length c1) xn) (h2 : Rd B w (.slice a2 xd.length c2) xd) (h3 : Rd B w (.slice a3 yn.length c3) yn) (h4 : Rd B w (.slice a4 yd.length c4) yd) (hB : B ≤ w.heap.size) :
    Calls Tryd.prog 22 #[.slice (some ⟨Lb, 0, none⟩) 2 2] w fun e w' => TellsP (RightP bx xn xd ∧ RightP cy yn yd) e ∧ Below w.heap.size w w' := by
  have hT0 := hT
  obtain ⟨lt, k0, k1, k2, k3, k4, k5⟩ := hT
  go_enter Tryd.func22, Tryd.ntmps22
  go_wp2
  refine wp_loop_rounds 3 ?_
  rw [rounds_succ]
  go_wp2_with fail
  have e0 := below_alloc w (.cells #[.bool bx, .slice a1 xn.length c1, .slice a2 xd.length c2] 24)
  have z0 : w.heap.size < (w.alloc (.cells #[.bool bx, .slice a1 xn.length c1, .slice a2 xd.length c2] 24)).heap.size := by simp
  refine (right_rat (h1.below (e0.mono hB)) (h2.below (e0.mono hB)) (by omega)).mono ?_
  rintro e wa ⟨⟨r, rfl, hr⟩, ba⟩
  have b1 : Below w.heap.size w wa := e0.trans (ba.mono (by omega))
  have s1 := b1.size
  clear e0 z0 ba
  cases r with
  | false =>
    have HX : Hid (¬ RightP bx xn xd) := fun h => by have := hr.2 h; cases this
    clear hr
    go_wp2
    go_ret
    exact ⟨TellsP.no (fun h => HX.out h.1), b1⟩
  | true =>
    have HX : Hid (RightP bx xn xd) := hr.1 rfl
    clear hr
    have hT1 := hT0.below b1
    obtain ⟨lt', m0, m1, m2, m3, m4, m5⟩ := hT1
    have f3 := h3.below (b1.mono hB)
    have f4 := h4.below (b1.mono hB)
    clear hT0 k0 k1 k2 k3 k4 k5
    go_wp2
    rw [rounds_succ]
    go_wp2_with fail
    have e0 := below_alloc wa (.cells #[.bool cy, .slice a3 yn.length c3, .slice a4 yd.length c4] 24)
    have z0 : wa.heap.size < (wa.alloc (.cells #[.bool cy, .slice a3 yn.length c3, .slice a4 yd.length c4] 24)).heap.size := by simp
    refine (right_rat (f3.below (e0.mono (by omega))) (f4.below (e0.mono (by omega))) (by omega)).mono ?_
    rintro e wb ⟨⟨r, rfl, hr⟩, bb⟩
    have b2 : Below w.heap.size w wb := b1.trans ((e0.trans (bb.mono (by omega))).mono s1)
    clear e0 z0 bb
    cases r with
    | false =>
      have HY : Hid (¬ RightP cy yn yd) := fun h => by have := hr.2 h; cases this
      clear hr
      go_wp2
      go_ret
      exact ⟨TellsP.no (fun h => HY.out h.2), b2⟩
    | true =>
      have HY : Hid (RightP cy yn yd) := hr.1 rfl
      clear hr
      go_wp2
      rw [rounds_succ]
      go_wp2
      go_ret
      exact ⟨TellsP.yes ⟨HX.out, HY.out⟩, b2⟩
end
end Go.Proofs.YtibciilhfpgjjadDoor
