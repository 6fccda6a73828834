/- Two numbers come in, a number goes out: the variables. rat.Sub, rat.Sign. -/
import Derived.Test.YtmijanocljmaeaaGreatJ4
import Derived.Test.YtmijanocljmaeaaGreatJ5
import Derived.Test.YtmijanocljmaeaaGreatJ2
import Derived.Test.YtmijanocljmaeaaGreatJ3
import Derived.Deep.RegionHeld3
namespace Go.Proofs.YtmijanocljmaeaaGreat
set_option linter.unusedVariables false
set_option linter.unusedSimpArgs false
open Go.RowKit

/-- An answer with an error. -/
theorem gives_err {w w2 : World} {P : Prop} {N D : Int} (hP : ¬ P) (hb : Below w.heap.size w w2) : Gives w P N D (.returned (.tuple #[.agg #[.bool false, .slice none 0 0, .slice none 0 0], .int .i64 22])) w2 :=
 ⟨hb, false, none, 0, 0, none, 0, 0, 22, rfl, Or.inl ⟨hP, rfl, rfl, rfl, rfl, rfl, rfl, rfl, rfl⟩⟩
section
variable {B : Nat} {w : World} {bx cy : Bool} {a1 a2 a3 a4 : Option Addr} {c1 c2 c3 c4 : Nat} {xn xd yn yd : List Int}

end
end Go.Proofs.YtmijanocljmaeaaGreat

/- What a reckoning answers, where the number is known. -/
namespace Go.Proofs.YtmijanocljmaeaaGreat
set_option linter.unusedVariables false
set_option linter.unusedSimpArgs false
open Go.RowKit

/-- Lowest terms are unique, however many limbs. -/
theorem lowest_can {b c : Bool} {ns ds ms es : List Int} {N D : Int} (cn : can ns) (cd : can ds) (hd : 0 < ds.length) (hg : gI (val ns) (val ds) = 1) (h : sg b (val ns) * D = N * val ds) (hD : 0 < D) (cm : can ms) (ce : can es) (he : 0 < es.length) (kg : gI (val ms) (val es) = 1) (k : sg c (val ms) * D = N * val es) : ns = ms ∧ ds = es ∧ (0 < val ns → b = c) := by
 have dp : 0 < val ds := by have := can_low cd hd; have := pw_pos (ds.length - 1); omega
 have ep : 0 < val es := by have := can_low ce he; have := pw_pos (es.length - 1); omega
 have np := (val_bound cn.1).1
 have mp := (val_bound cm.1).1
 have e1 : sg b (val ns) * val es = sg c (val ms) * val ds := by
  refine cancel hD ?_
  have q1 : sg b (val ns) * val es * D = sg b (val ns) * D * val es := by ac_rfl
  have q2 : sg c (val ms) * val ds * D = sg c (val ms) * D * val ds := by ac_rfl
  rw [q1, q2, h, k]
  ac_rfl
 rw [← sg_mul, ← sg_mul] at e1
 have n1 : 0 ≤ val ns * val es := Int.mul_nonneg np (by omega)
 have n2 : 0 ≤ val ms * val ds := Int.mul_nonneg mp (by omega)
 have hab : val ns * val es = val ms * val ds ∧ (0 < val ns * val es → b = c) := by
  unfold sg at e1
  generalize val ns * val es = p at *
  generalize val ms * val ds = q at *
  cases b <;> cases c <;> simp at e1
  · exact ⟨e1, fun _ => rfl⟩
  · exact ⟨by omega, fun _ => by omega⟩
  · exact ⟨by omega, fun _ => by omega⟩
  · exact ⟨by omega, fun _ => rfl⟩
 obtain ⟨n, en⟩ := Int.eq_ofNat_of_zero_le np
 obtain ⟨d, ed⟩ := Int.eq_ofNat_of_zero_le (Int.le_of_lt dp)
 obtain ⟨m, em⟩ := Int.eq_ofNat_of_zero_le mp
 obtain ⟨f, ef⟩ := Int.eq_ofNat_of_zero_le (Int.le_of_lt ep)
 have g1 : Nat.gcd n d = 1 := by
  rw [en, ed] at hg
  unfold gI at hg
  simp only [Int.toNat_natCast] at hg
  omega
 have g2 : Nat.gcd m f = 1 := by
  rw [em, ef] at kg
  unfold gI at kg
  simp only [Int.toNat_natCast] at kg
  omega
 have hm := hab.1
 rw [en, ed, em, ef] at hm
 have hmn : n * f = m * d := by exact_mod_cast hm
 have d1 : d ∣ f := (Nat.Coprime.dvd_of_dvd_mul_left (show Nat.Coprime d n by rw [Nat.coprime_comm]; exact g1) ⟨m, by rw [hmn, Nat.mul_comm]⟩)
 have d2 : f ∣ d := (Nat.Coprime.dvd_of_dvd_mul_left (show Nat.Coprime f m by rw [Nat.coprime_comm]; exact g2) ⟨n, by rw [← hmn, Nat.mul_comm]⟩)
 have hdf : d = f := Nat.dvd_antisymm d1 d2
 subst hdf
 have hd0 : 0 < d := by omega
 have hnm : n = m := Nat.eq_of_mul_eq_mul_right hd0 hmn
 exact ⟨can_inj cn cm (by rw [en, em, hnm]), can_inj cd ce (by rw [ed, ef]), fun h0 => hab.2 (Int.mul_pos h0 ep)⟩

/-- What fits is not too great. -/
theorem not_big {b : Bool} {ns ds : List Int} {N D : Int} (hr : RightP b ns ds) (h : sg b (val ns) * D = N * val ds) (hD : 0 < D) : ¬ Big N D := by
 rintro ⟨c, ms, es, cm, ce, he, kg, k, hl⟩
 obtain ⟨rfl, rfl, _⟩ := lowest_can hr.2.2.1 hr.2.2.2.1 hr.2.2.2.2.2.1 hr.2.2.2.2.2.2 h hD cm ce he kg k
 have := hr.1
 have := hr.2.1
 omega
theorem right_is {b c : Bool} {ns ds ms es : List Int} {N D : Int} (hr : RightP b ns ds) (h : sg b (val ns) * D = N * val ds) (hD : 0 < D) (kr : RightP c ms es) (k : sg c (val ms) * D = N * val es) : c = b ∧ ms = ns ∧ es = ds := by
 refine lowest kr hr (cancel hD ?_)
 have q1 : sg c (val ms) * val ds * D = sg c (val ms) * D * val ds := by ac_rfl
 have q2 : sg b (val ns) * val es * D = sg b (val ns) * D * val es := by ac_rfl
 rw [q1, q2, h, k]
 ac_rfl

/-- A known number is answered. -/
def IsNum' (w : World) (b : Bool) (ns ds : List Int) (e : Ending) (w' : World) : Prop :=
 Below w.heap.size w w' ∧ ∃ a1 c1 a2 c2, e = .returned (.tuple #[.agg #[.bool b, .slice a1 ns.length c1, .slice a2 ds.length c2], .int .i64 0]) ∧ Own w.heap.size w' (.slice a1 ns.length c1) ns ∧ Own w.heap.size w' (.slice a2 ds.length c2) ds
theorem gives_is {w w' : World} {P : Prop} {N D : Int} {e : Ending} {b : Bool} {ns ds : List Int} (h : Gives w P N D e w') (hP : P) (hD : 0 < D) (hr : RightP b ns ds) (hv : sg b (val ns) * D = N * val ds) : IsNum' w b ns ds e w' := by
 obtain ⟨hb, c, x1, n, y1, x2, m, y2, err, rfl, ho⟩ := h
 refine ⟨hb, ?_⟩
 rcases ho.out with ⟨hn, _⟩ | ⟨_, _, _, _, _, _, _, _, _, hbig⟩ | ⟨_, rfl, ms, es, rfl, rfl, on, od, kr, kv⟩
 · exact absurd hP hn
 · exact absurd hbig (not_big hr hv hD)
 · obtain ⟨rfl, rfl, rfl⟩ := right_is hr hv hD kr kv
   exact ⟨x1, y1, x2, y2, rfl, on, od⟩
/-- What a reckoning answers: too great, or a right number. -/
theorem gives_or {w w' : World} {P : Prop} {N D : Int} {e : Ending} (h : Gives w P N D e w') (hP : P) : Below w.heap.size w w' ∧ ((e = .returned (.tuple #[.agg #[.bool false, .slice none 0 0, .slice none 0 0], .int .i64 8]) ∧ Big N D) ∨ ∃ b ns ds a1 c1 a2 c2, e = .returned (.tuple #[.agg #[.bool b, .slice a1 ns.length c1, .slice a2 ds.length c2], .int .i64 0]) ∧ Own w.heap.size w' (.slice a1 ns.length c1) ns ∧ Own w.heap.size w' (.slice a2 ds.length c2) ds ∧ RightP b ns ds ∧ sg b (val ns) * D = N * val ds) := by
 obtain ⟨hb, c, x1, n, y1, x2, m, y2, err, rfl, ho⟩ := h
 refine ⟨hb, ?_⟩
 rcases ho.out with ⟨hn, _⟩ | ⟨_, rfl, rfl, rfl, rfl, rfl, rfl, rfl, rfl, hbig⟩ | ⟨_, rfl, ms, es, rfl, rfl, on, od, kr, kv⟩
 · exact absurd hP hn
 · exact Or.inl ⟨rfl, hbig⟩
 · exact Or.inr ⟨c, ms, es, x1, y1, x2, y2, rfl, on, od, kr, kv⟩
section
variable {B : Nat} {w : World} {bx cy : Bool} {a1 a2 a3 a4 : Option Addr} {c1 c2 c3 c4 : Nat} {xn xd yn yd : List Int}
end
end Go.Proofs.YtmijanocljmaeaaGreat

/- The document's answers of layer 1: Trim, Of, Right, Same. -/
namespace Go.Proofs.YtmijanocljmaeaaGreat
set_option linter.unusedVariables false
set_option linter.unusedSimpArgs false
open Go.RowKit

end Go.Proofs.YtmijanocljmaeaaGreat

/- The document's Compare, Right, Bits; nat.Right; the statements' helpers own and kept. -/
namespace Go.Proofs.YtmijanocljmaeaaGreat
set_option linter.unusedVariables false
set_option linter.unusedSimpArgs false
open Go.RowKit

end Go.Proofs.YtmijanocljmaeaaGreat

/- nat.Right, nat.Small and the document's Right, Small, Bits; the statements' helpers own and kept. -/
namespace Go.Proofs.YtmijanocljmaeaaGreat
set_option linter.unusedVariables false
set_option linter.unusedSimpArgs false
open Go.RowKit


end Go.Proofs.YtmijanocljmaeaaGreat

/- nat.word, nat.Small. -/
namespace Go.Proofs.YtmijanocljmaeaaGreat
set_option linter.unusedVariables false
set_option linter.unusedSimpArgs false
open Go.RowKit

end Go.Proofs.YtmijanocljmaeaaGreat

/- nat.word, nat.Small and the document's Small; the statements' helpers own and kept. -/
namespace Go.Proofs.YtmijanocljmaeaaGreat
set_option linter.unusedVariables false
set_option linter.unusedSimpArgs false
open Go.RowKit

end Go.Proofs.YtmijanocljmaeaaGreat

/- The statements' helpers own (limbs with room behind them) and kept. -/
namespace Go.Proofs.YtmijanocljmaeaaGreat
set_option linter.unusedVariables false
set_option linter.unusedSimpArgs false
open Go.RowKit

end Go.Proofs.YtmijanocljmaeaaGreat

/- The document's limb, Add, Minus. -/
namespace Go.Proofs.YtmijanocljmaeaaGreat
set_option linter.unusedVariables false
set_option linter.unusedSimpArgs false
open Go.RowKit

end Go.Proofs.YtmijanocljmaeaaGreat

/- The document's Minus and Mul. -/
namespace Go.Proofs.YtmijanocljmaeaaGreat
set_option linter.unusedVariables false
set_option linter.unusedSimpArgs false
open Go.RowKit

end Go.Proofs.YtmijanocljmaeaaGreat

/- The document's Mul, Sum, Product. -/
namespace Go.Proofs.YtmijanocljmaeaaGreat
set_option linter.unusedVariables false
set_option linter.unusedSimpArgs false
open Go.RowKit

end Go.Proofs.YtmijanocljmaeaaGreat

/- The document's Sum and Product; sums and products of none. -/
namespace Go.Proofs.YtmijanocljmaeaaGreat
set_option linter.unusedVariables false
set_option linter.unusedSimpArgs false
open Go.RowKit

end Go.Proofs.YtmijanocljmaeaaGreat

/- Plain facts on doubling, halving and dividing limbs bit by bit. -/
namespace Go.Proofs.YtmijanocljmaeaaGreat
set_option linter.unusedVariables false
set_option linter.unusedSimpArgs false
open Go.RowKit

/-- The number without its j lowest bits. -/
def sh (A : Int) (j : Nat) : Int := A / p2 j
end Go.Proofs.YtmijanocljmaeaaGreat

/- The document's Power. -/
namespace Go.Proofs.YtmijanocljmaeaaGreat
set_option linter.unusedVariables false
set_option linter.unusedSimpArgs false
open Go.RowKit

end Go.Proofs.YtmijanocljmaeaaGreat

/- The document's twice, bit and DivMod. -/
namespace Go.Proofs.YtmijanocljmaeaaGreat
set_option linter.unusedVariables false
set_option linter.unusedSimpArgs false
open Go.RowKit

end Go.Proofs.YtmijanocljmaeaaGreat

/- The document's DivMod. -/
namespace Go.Proofs.YtmijanocljmaeaaGreat
set_option linter.unusedVariables false
set_option linter.unusedSimpArgs false
open Go.RowKit

end Go.Proofs.YtmijanocljmaeaaGreat

/- The document's half. -/
namespace Go.Proofs.YtmijanocljmaeaaGreat
set_option linter.unusedVariables false
set_option linter.unusedSimpArgs false
open Go.RowKit

end Go.Proofs.YtmijanocljmaeaaGreat

/- The document's greatest common divisor. -/
namespace Go.Proofs.YtmijanocljmaeaaGreat
set_option linter.unusedVariables false
set_option linter.unusedSimpArgs false
open Go.RowKit

end Go.Proofs.YtmijanocljmaeaaGreat

/- The document's Gcd; both divisions in one form. -/
namespace Go.Proofs.YtmijanocljmaeaaGreat
set_option linter.unusedVariables false
set_option linter.unusedSimpArgs false
open Go.RowKit

end Go.Proofs.YtmijanocljmaeaaGreat

/- The document's numbers: one, Right, Make; the statements' helper same. -/
namespace Go.Proofs.YtmijanocljmaeaaGreat
set_option linter.unusedVariables false
set_option linter.unusedSimpArgs false
open Go.RowKit

theorem refOne_any (w : World) : Calls Tryz.prog 44 #[] w fun e w' => ∃ ds a c, Hid (ds = [(1 : Int)]) ∧ e = .returned (.slice a ds.length c) ∧ Own w.heap.size w' (.slice a ds.length c) ds ∧ Below w.heap.size w w' := by
 have hO : Own w.heap.size (w.alloc (.cells #[.int .u32 1] 121)) (.slice (some ⟨w.heap.size, 0, none⟩) 1 1) [1] := ⟨can_one.1, World.ownsRow_lit w #[.int .u32 1] 1 (Nat.le_refl _) (by unfold maxLen; omega) rfl⟩
 go_enter Tryz.func44, Tryz.ntmps44
 go_wp2
 go_ret
 exact ⟨[1], some ⟨w.heap.size, 0, none⟩, 1, rfl, rfl, hO, below_alloc _ _⟩

end Go.Proofs.YtmijanocljmaeaaGreat

/- The document's Make by nought. -/
namespace Go.Proofs.YtmijanocljmaeaaGreat
set_option linter.unusedVariables false
set_option linter.unusedSimpArgs false
open Go.RowKit

end Go.Proofs.YtmijanocljmaeaaGreat

/- The document's Make. -/
namespace Go.Proofs.YtmijanocljmaeaaGreat
set_option linter.unusedVariables false
set_option linter.unusedSimpArgs false
open Go.RowKit

end Go.Proofs.YtmijanocljmaeaaGreat

/- What makings answer, in one form; the statements' helper same. -/
namespace Go.Proofs.YtmijanocljmaeaaGreat
set_option linter.unusedVariables false
set_option linter.unusedSimpArgs false
open Go.RowKit

section
variable {w : World} {b : Bool} {a1 a2 a3 a4 : Option Addr} {c1 c2 c3 c4 : Nat} {xs ys ns ds : List Int}
end
end Go.Proofs.YtmijanocljmaeaaGreat
