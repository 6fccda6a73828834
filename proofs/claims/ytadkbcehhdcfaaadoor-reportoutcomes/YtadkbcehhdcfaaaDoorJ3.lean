/- (*divider).by at whatever divisor but 0; nat.DivMod at all. nat.word. -/
import Derived.Test.YtadkbcehhdcfaaaDoorJ2
import Derived.Deep.RegionHeld3
import Derived.Handy
namespace Go.Proofs.YtadkbcehhdcfaaaDoor
set_option linter.unusedVariables false
set_option linter.unusedSimpArgs false
open Go.RowKit

theorem Kept2.weak {w w' : World} {B : Nat} (h : Kept2 w w' B none) (r : Option Nat) : Kept2 w w' B r := ⟨h.os, h.tape, h.output, h.size, fun k hk hB _ => h.block k hk hB (fun e => by cases e)⟩
theorem Kept2.undrew {w w' : World} {B : Nat} {r : Option Nat} (h : Kept2 w.drew w' B r) : Kept2 w w' B r := ⟨h.os, h.tape, h.output, h.size, h.block⟩
theorem Kept2.grow' {a w w' : World} {B : Nat} {r : Option Nat} (h : Kept2 a w B r) (k : Below w.heap.size w w') : Kept2 a w' B r :=
  ⟨k.os.trans h.os, k.tape.trans h.tape, k.output.trans h.output, Nat.le_trans h.size k.size, fun i hi hB hr => (k.block i (Nat.lt_of_lt_of_le hi h.size)).trans (h.block i hi hB hr)⟩

end Go.Proofs.YtadkbcehhdcfaaaDoor

/- nat.word: what at most two limbs say; nat.wordGcd: the greatest common divisor of two words. -/
namespace Go.Proofs.YtadkbcehhdcfaaaDoor
set_option linter.unusedVariables false
set_option linter.unusedSimpArgs false
open Go.RowKit

theorem wor_zero_left (x : Int) (h : 0 ≤ x ∧ x < 18446744073709551616) : bits .or .u64 0 x = x := by
  obtain ⟨a, rfl⟩ := Int.eq_ofNat_of_zero_le h.1
  have := bits_or_u64_nat 0 a (by omega) (by omega)
  rw [Nat.zero_or] at this
  exact this
theorem wor_add_right (q v : Int) (hq : 0 ≤ q ∧ q < 4294967296) (hv : 0 ≤ v ∧ v < 4294967296) : bits .or .u64 v (q * 4294967296) = v + q * 4294967296 := by
  obtain ⟨a, rfl⟩ := Int.eq_ofNat_of_zero_le hq.1
  obtain ⟨b, rfl⟩ := Int.eq_ofNat_of_zero_le hv.1
  have e : ((a : Int) * 4294967296) = ((a * 4294967296 : Nat) : Int) := by omega
  rw [e, bits_or_u64_nat _ _ (by omega) (by omega)]
  have h : b ||| a * 4294967296 = a * 4294967296 + b := by
    have := Nat.two_pow_add_eq_or_of_lt (i := 32) (b := b) (by omega) a
    rw [Nat.mul_comm, Nat.or_comm]
    exact this.symm
  rw [h]; omega

/-- The greatest common divisor of numbers from 0 on. -/
def gI (a b : Int) : Int := ((Nat.gcd a.toNat b.toNat : Nat) : Int)
theorem gI_zero (x : Int) (h : 0 ≤ x) : gI x 0 = x := by unfold gI; simp; omega
theorem gI_comm (x y : Int) : gI x y = gI y x := by unfold gI; rw [Nat.gcd_comm]
theorem gI_nonneg (x y : Int) : 0 ≤ gI x y := by unfold gI; omega
theorem gI_step (x y : Int) (hx : 0 ≤ x) (hy : 0 ≤ y) : gI x y = gI y (x % y) := by
  obtain ⟨a, rfl⟩ := Int.eq_ofNat_of_zero_le hx
  obtain ⟨b, rfl⟩ := Int.eq_ofNat_of_zero_le hy
  unfold gI
  have e : ((a : Int) % (b : Int)) = ((a % b : Nat) : Int) := by simp
  rw [e]
  simp only [Int.toNat_natCast]
  rw [Nat.gcd_comm a b, Nat.gcd_rec b a, Nat.gcd_comm]
theorem gI_of (x y q r : Int) (hx : 0 ≤ x) (hy : 0 ≤ y) (h : x = q * y + r) (h0 : 0 ≤ r) (h1 : r < y) : gI x y = gI y r := by
  rw [gI_step x y hx hy]
  have : x % y = r := by rw [h, Int.add_comm, Int.add_mul_emod_self_right, Int.emod_eq_of_lt h0 h1]
  rw [this]
theorem gI_le (x y : Int) (hx : 0 ≤ x) (hy : 0 ≤ y) : gI x y ≤ x + y := by
  unfold gI
  by_cases h : x.toNat = 0
  · rw [h, Nat.gcd_zero_left]; omega
  · have := Nat.gcd_le_left y.toNat (Nat.pos_of_ne_zero h); omega

end Go.Proofs.YtadkbcehhdcfaaaDoor

/- (*common).with and nat.Gcd: the greatest common divisor of numbers. -/
namespace Go.Proofs.YtadkbcehhdcfaaaDoor
set_option linter.unusedVariables false
set_option linter.unusedSimpArgs false
open Go.RowKit

theorem of_word (r : Int) (h0 : 0 ≤ r) (h1 : r < 18446744073709551616) : val (tr [r % 4294967296, r / 4294967296]) = r ∧ can (tr [r % 4294967296, r / 4294967296]) ∧ (tr [r % 4294967296, r / 4294967296]).length ≤ 2 := by
  have hl : lim [r % 4294967296, r / 4294967296] := by
    intro x hx; simp at hx; omega
  refine ⟨by rw [val_tr]; simp only [val]; omega, tr_can hl, ?_⟩
  have := tr_length_le [r % 4294967296, r / 4294967296]
  simpa using this

theorem two_limbs {xs : List Int} (h : lim xs) (hl : xs.length ≤ 2) : 0 ≤ val xs ∧ val xs < 18446744073709551616 := by
  have h1 := val_bound h
  have h2 := pw_mono hl
  have e : pw 2 = 18446744073709551616 := by decide
  omega

/-- Two rows of the call's own are not the same. -/
def Apart (u v : Value) : Prop := ∀ k, u.ownBlock = some k → v.ownBlock ≠ some k
theorem Apart.symm {u v : Value} (h : Apart u v) : Apart v u := fun k hk hv => h k hv hk

end Go.Proofs.YtadkbcehhdcfaaaDoor

/- nat.Gcd: the greatest common divisor of numbers that are handed in as many as one likes. -/
namespace Go.Proofs.YtadkbcehhdcfaaaDoor
set_option linter.unusedVariables false
set_option linter.unusedSimpArgs false
open Go.RowKit

def gcdV (xss : List (List Int)) : Int := xss.foldl (fun a xs => gI a (val xs)) 0
theorem gcdV_succ (xss : List (List Int)) (i : Nat) (h : i < xss.length) : gcdV (xss.take (i + 1)) = gI (gcdV (xss.take i)) (val (xss.getD i [])) := by
  rw [take_succ_getD' xss i [] h]; unfold gcdV; rw [List.foldl_append]; rfl

theorem gI_zero_left (x : Int) (h : 0 ≤ x) : gI 0 x = x := by rw [gI_comm]; exact gI_zero x h

section
variable {B1 B2 B3 : Nat} {w : World} {v1 v2 v3 : Value} {x1 x2 x3 : List Int}
end
end Go.Proofs.YtadkbcehhdcfaaaDoor

/- rat.isOne, rat.one, rat.Right: is a number in lowest terms, and not too great? -/
namespace Go.Proofs.YtadkbcehhdcfaaaDoor
set_option linter.unusedVariables false
set_option linter.unusedSimpArgs false
open Go.RowKit

/-- A call that tells whether P holds. -/
def TellsP (P : Prop) (e : Ending) : Prop := ∃ r, e = .returned (.bool r) ∧ (r = true ↔ P)
theorem TellsP.yes {P : Prop} (h : P) : TellsP P (.returned (.bool true)) := ⟨true, rfl, ⟨fun _ => h, fun _ => rfl⟩⟩
theorem TellsP.no {P : Prop} (h : ¬ P) : TellsP P (.returned (.bool false)) := ⟨false, rfl, ⟨(fun e => by cases e), fun e => absurd e h⟩⟩

theorem rightB_can {xs : List Int} (h : lim xs) : rightB xs = true ↔ can xs := by
  unfold rightB
  rw [decide_eq_true_iff]
  constructor
  · intro e
    have h1 : tr xs = xs := by unfold tr at e ⊢; exact List.take_of_length_le (by rw [List.length_take] at e; omega)
    rw [← h1]; exact tr_can h
  · intro hc
    rw [can_inj (tr_can h) hc (val_tr xs)]

/-- What a right number is. -/
def RightP (b : Bool) (ns ds : List Int) : Prop := ns.length ≤ 32 ∧ ds.length ≤ 32 ∧ can ns ∧ can ds ∧ ¬ (b = true ∧ ns.length = 0) ∧ 0 < ds.length ∧ gI (val ns) (val ds) = 1

theorem gI_one_right (x : Int) : gI x 1 = 1 := by unfold gI; simp

end Go.Proofs.YtadkbcehhdcfaaaDoor

/- Plain facts on greatest common divisors (for the seats without layer 1's laws). -/
namespace Go.Proofs.YtadkbcehhdcfaaaDoor
set_option linter.unusedVariables false
set_option linter.unusedSimpArgs false
open Go.RowKit

theorem gI_dvd (x y : Int) (hx : 0 ≤ x) (hy : 0 ≤ y) : (∃ k, x = k * gI x y ∧ 0 ≤ k) ∧ ∃ k, y = k * gI x y ∧ 0 ≤ k := by
  unfold gI
  obtain ⟨a, ha⟩ := Nat.gcd_dvd_left x.toNat y.toNat
  obtain ⟨b, hb⟩ := Nat.gcd_dvd_right x.toNat y.toNat
  refine ⟨⟨a, ?_, by omega⟩, ⟨b, ?_, by omega⟩⟩
  · rw [← Int.natCast_mul, Nat.mul_comm, ← ha]; omega
  · rw [← Int.natCast_mul, Nat.mul_comm, ← hb]; omega

theorem gI_pos (x y : Int) (hx : 0 ≤ x) (hy : 0 < y) : 0 < gI x y := by
  unfold gI
  have := Nat.gcd_pos_of_pos_right x.toNat (show 0 < y.toNat by omega)
  omega

theorem rest_zero (x q g s k : Int) (h : x = q * g + s) (h0 : 0 ≤ s) (h1 : s < g) (hk : x = k * g) : s = 0 := by
  have e : (q * g + s) % g = s := by rw [Int.add_comm, Int.add_mul_emod_self_right, Int.emod_eq_of_lt h0 h1]
  rw [← h, hk, Int.mul_emod_left] at e
  exact e.symm

theorem gI_rest (x y p t : Int) (hx : 0 ≤ x) (hy : 0 < y) (hp : 0 ≤ p) (ht : 0 ≤ t) (h1 : x = p * gI x y) (h2 : y = t * gI x y) : gI p t = 1 := by
  have hg := gI_pos x y hx hy
  obtain ⟨a, rfl⟩ := Int.eq_ofNat_of_zero_le hp
  obtain ⟨b, rfl⟩ := Int.eq_ofNat_of_zero_le ht
  obtain ⟨g, eg⟩ := Int.eq_ofNat_of_zero_le (Int.le_of_lt hg)
  rw [eg] at h1 h2 hg
  have e1 : x.toNat = a * g := by rw [h1, ← Int.natCast_mul]; exact Int.toNat_natCast _
  have e2 : y.toNat = b * g := by rw [h2, ← Int.natCast_mul]; exact Int.toNat_natCast _
  have e3 : Nat.gcd x.toNat y.toNat = g := by unfold gI at eg; omega
  rw [e1, e2, Nat.gcd_mul_right] at e3
  have e4 : Nat.gcd a b = 1 := by
    have : Nat.gcd a b * g = 1 * g := by rw [e3, Nat.one_mul]
    exact Nat.eq_of_mul_eq_mul_right (by omega) this
  unfold gI
  simp only [Int.toNat_natCast, e4]
  rfl

theorem can_val_zero {xs : List Int} (h : can xs) (h0 : val xs = 0) : xs = [] := List.eq_nil_of_length_eq_zero ((can_zero h).2 h0)
end Go.Proofs.YtadkbcehhdcfaaaDoor

/- rat.limited, rat.Make, rat.withSign. -/
namespace Go.Proofs.YtadkbcehhdcfaaaDoor
set_option linter.unusedVariables false
set_option linter.unusedSimpArgs false
open Go.RowKit

/-- A size with its sign. -/
def sg (b : Bool) (x : Int) : Int := if b then -x else x
theorem sg_mul (b : Bool) (x y : Int) : sg b (x * y) = sg b x * y := by unfold sg; split <;> simp [Int.neg_mul]
theorem sg_zero (b : Bool) : sg b 0 = 0 := by unfold sg; split <;> rfl
theorem sg_false (x : Int) : sg false x = x := rfl

/-- N by D in lowest terms has too many limbs. -/
def Big (N D : Int) : Prop := ∃ b ns ds, can ns ∧ can ds ∧ 0 < ds.length ∧ gI (val ns) (val ds) = 1 ∧ sg b (val ns) * D = N * val ds ∧ (32 < ns.length ∨ 32 < ds.length)

/-- What the making of N by D answers: it is too great, or in lowest terms. -/
def RMakes (w : World) (N D : Int) (e : Ending) (w' : World) : Prop :=
  Below w.heap.size w w' ∧ ((e = .returned (.tuple #[(.agg #[.bool false, .slice none 0 0, .slice none 0 0]), .int .i64 8]) ∧ Big N D) ∨ ∃ b ns ds a1 c1 a2 c2, e = .returned (.tuple #[.agg #[.bool b, .slice a1 ns.length c1, .slice a2 ds.length c2], .int .i64 0]) ∧ Own w.heap.size w' (.slice a1 ns.length c1) ns ∧ Own w.heap.size w' (.slice a2 ds.length c2) ds ∧ RightP b ns ds ∧ sg b (val ns) * D = N * val ds)

/-- A variable of three cells. -/
def Box3 (w : World) (B ty : Nat) (x y z : Value) : Prop := w.heap[B]? = some (.cells #[x, y, z] ty (0, 0))
theorem box3_new (w : World) (x y z : Value) (t : Nat) : Box3 (w.alloc (.cells #[x, y, z] t)) w.heap.size t x y z := heap_alloc_new _ _
theorem Box3.below {w w' : World} {B ty base : Nat} {x y z : Value} (h : Box3 w B ty x y z) (hb : Below base w w') (hB : B < base) : Box3 w' B ty x y z := by
  unfold Box3; rw [hb.block B hB]; exact h
theorem Box3.c0 {w : World} {B ty : Nat} {x y z : Value} (h : Box3 w B ty x y z) : w.cell? ⟨B, 0, none⟩ = some x := by unfold Box3 at h; simp [World.cell?, h]
theorem Box3.c1 {w : World} {B ty : Nat} {x y z : Value} (h : Box3 w B ty x y z) : w.cell? ⟨B, 1, none⟩ = some y := by unfold Box3 at h; simp [World.cell?, h]
theorem Box3.c2 {w : World} {B ty : Nat} {x y z : Value} (h : Box3 w B ty x y z) : w.cell? ⟨B, 2, none⟩ = some z := by unfold Box3 at h; simp [World.cell?, h]
theorem Box3.f0 {w : World} {B ty : Nat} {x y z : Value} (h : Box3 w B ty x y z) : w.frozen? ⟨B, 0, none⟩ = false := by unfold Box3 at h; simp [World.frozen?, h]
theorem Box3.f1 {w : World} {B ty : Nat} {x y z : Value} (h : Box3 w B ty x y z) : w.frozen? ⟨B, 1, none⟩ = false := by unfold Box3 at h; simp [World.frozen?, h]
theorem Box3.f2 {w : World} {B ty : Nat} {x y z : Value} (h : Box3 w B ty x y z) : w.frozen? ⟨B, 2, none⟩ = false := by unfold Box3 at h; simp [World.frozen?, h]

theorem Box3.set {w2 : World} {B ty : Nat} {p q r : Value} (h : Box3 w2 B ty p q r) (x y z : Value) : Box3 (((w2.setCell ⟨B, 0, none⟩ x).setCell ⟨B, 1, none⟩ y).setCell ⟨B, 2, none⟩ z) B ty x y z := by
  unfold Box3 at h ⊢
  simp [World.setCell, Array.getElem?_modify, h]
theorem Below.set3 {base B : Nat} {w w2 : World} (h : Below base w w2) (hB : base ≤ B) (x y z : Value) : Below base w (((w2.setCell ⟨B, 0, none⟩ x).setCell ⟨B, 1, none⟩ y).setCell ⟨B, 2, none⟩ z) :=
  ((h.setCell (p := ⟨B, 0, none⟩) hB x).setCell (p := ⟨B, 1, none⟩) hB y).setCell (p := ⟨B, 2, none⟩) hB z
theorem Own.set3 {base B : Nat} {w2 : World} {v : Value} {xs : List Int} (h : Own base w2 v xs) (hB : B < base) (x y z : Value) : Own base (((w2.setCell ⟨B, 0, none⟩ x).setCell ⟨B, 1, none⟩ y).setCell ⟨B, 2, none⟩ z) v xs :=
  ((h.setCell (a := ⟨B, 0, none⟩) (ownBlock_ne h hB) x).setCell (a := ⟨B, 1, none⟩) (ownBlock_ne h hB) y).setCell (a := ⟨B, 2, none⟩) (ownBlock_ne h hB) z

/-- A number that was made, laid into the variable of the result. -/
theorem rmakes_done {w wR w2 : World} {N D : Int} {b : Bool} {ns ds : List Int} {x1 x2 : Option Addr} {y1 y2 : Nat} (b0 : Below w.heap.size w wR) (s0 : w.heap.size < wR.heap.size) (hb : Below wR.heap.size wR w2) (on : Own wR.heap.size w2 (.slice x1 ns.length y1) ns) (od : Own wR.heap.size w2 (.slice x2 ds.length y2) ds) (hr : RightP b ns ds) (hv : sg b (val ns) * D = N * val ds) :
    RMakes w N D (.returned (.tuple #[.agg #[.bool b, .slice x1 ns.length y1, .slice x2 ds.length y2], .int .i64 0])) (((w2.setCell ⟨w.heap.size, 0, none⟩ (.bool b)).setCell ⟨w.heap.size, 1, none⟩ (.slice x1 ns.length y1)).setCell ⟨w.heap.size, 2, none⟩ (.slice x2 ds.length y2)) :=
  ⟨Below.set3 (b0.trans (hb.mono (Nat.le_of_lt s0))) (Nat.le_refl _) _ _ _, Or.inr ⟨b, ns, ds, x1, y1, x2, y2, rfl, (Own.set3 on s0 _ _ _).mono (Nat.le_of_lt s0), (Own.set3 od s0 _ _ _).mono (Nat.le_of_lt s0), hr, hv⟩⟩
theorem rmakes_none {w wR w2 : World} {N D : Int} (b0 : Below w.heap.size w wR) (s0 : w.heap.size < wR.heap.size) (hb : Below wR.heap.size wR w2) (hbig : Big N D) (x y z : Value) :
    RMakes w N D (.returned (.tuple #[(.agg #[.bool false, .slice none 0 0, .slice none 0 0]), .int .i64 8])) (((w2.setCell ⟨w.heap.size, 0, none⟩ x).setCell ⟨w.heap.size, 1, none⟩ y).setCell ⟨w.heap.size, 2, none⟩ z) :=
  ⟨Below.set3 (b0.trans (hb.mono (Nat.le_of_lt s0))) (Nat.le_refl _) _ _ _, Or.inl ⟨rfl, hbig⟩⟩

end Go.Proofs.YtadkbcehhdcfaaaDoor

/- (*subtractor).less and nat.Minus: a difference, or that it would be below 0. -/
namespace Go.Proofs.YtadkbcehhdcfaaaDoor
set_option linter.unusedVariables false
set_option linter.unusedSimpArgs false
open Go.RowKit

theorem less_step (us ys : List Int) (i : Nat) (c V z c' : Int) (hi : i < us.length) (h : val us - c * pw i = V - val (ys.take i)) (ht : us.getD i 0 - c - ys.getD i 0 = z - c' * 4294967296) :
    val (us.set i z) - c' * pw (i + 1) = V - val (ys.take (i + 1)) := by
  have hy : val (ys.take (i + 1)) = val (ys.take i) + ys.getD i 0 * pw i := by
    by_cases hy : i < ys.length
    · exact val_take_succ ys i hy
    · have e1 : ys.take (i + 1) = ys.take i := by rw [List.take_of_length_le (by omega), List.take_of_length_le (by omega)]
      have e2 : ys.getD i 0 = 0 := by simp [List.getD, List.getElem?_eq_none (Nat.le_of_not_lt hy)]
      rw [e1, e2]; simp
  rw [val_set _ _ _ hi, hy, pw_succ]
  have key := congrArg (fun u => u * pw i) ht
  simp only [Int.add_mul, Int.sub_mul, Int.mul_assoc, Int.mul_comm, Int.mul_left_comm] at *
  omega

/-- What the difference of limbs is in a word of 64 bits, round or not. -/
theorem less_word (V C Y : Int) (hV : 0 ≤ V ∧ V < 4294967296) (hC : 0 ≤ C ∧ C ≤ 1) (hY : 0 ≤ Y ∧ Y < 4294967296) :
    ∃ T z c', IntKind.u64.wrap (IntKind.u64.wrap (V - C) - Y) = T ∧ 0 ≤ T ∧ T < 18446744073709551616 ∧ T % 4294967296 = z ∧ T / 9223372036854775808 = c' ∧ 0 ≤ c' ∧ c' ≤ 1 ∧ (0 ≤ z ∧ z < 4294967296) ∧ V - C - Y = z - c' * 4294967296 := by
  refine ⟨_, _, _, rfl, ?_, ?_, rfl, rfl, ?_, ?_, ?_, ?_⟩
  all_goals (simp only [IntKind.wrap_u64]; omega)

theorem can_len_le {xs ys : List Int} (hx : can xs) (hy : can ys) (h : val ys ≤ val xs) : ys.length ≤ xs.length := by
  by_cases hl : ys.length ≤ xs.length
  · exact hl
  · have := can_len_lt hx hy (by omega); omega

/-- What nat.Minus hands back. -/
def Minuses (w : World) (n : Int) (e : Ending) (w' : World) : Prop :=
  Below w.heap.size w w' ∧ if n < 0 then e = .returned (.tuple #[.slice none 0 0, .bool false]) else ∃ zs a c, can zs ∧ val zs = n ∧ e = .returned (.tuple #[.slice a zs.length c, .bool true]) ∧ Own w.heap.size w' (.slice a zs.length c) zs

end Go.Proofs.YtadkbcehhdcfaaaDoor

/- rat.sum: of two whole numbers with signs; rat.times, rat.plus, rat.by. -/
namespace Go.Proofs.YtadkbcehhdcfaaaDoor
set_option linter.unusedVariables false
set_option linter.unusedSimpArgs false
open Go.RowKit

/-- What rat.sum answers: limbs of S with their sign. -/
def Sums (w : World) (S : Int) (L : Nat) (e : Ending) (w' : World) : Prop :=
  Below w.heap.size w w' ∧ ∃ b zs a c, e = .returned (.tuple #[.bool b, .slice a zs.length c]) ∧ Own w.heap.size w' (.slice a zs.length c) zs ∧ can zs ∧ sg b (val zs) = S ∧ zs.length ≤ L

theorem sg_same (b : Bool) (x y : Int) : sg b (x + y) = sg b x + sg b y := by unfold sg; split <;> omega
theorem sg_diff (b : Bool) (x y : Int) : sg b (x - y) = sg b x + sg (!b) y := by unfold sg; cases b <;> simp <;> omega
theorem sg_diff' (b : Bool) (x y : Int) : sg (!b) (y - x) = sg b x + sg (!b) y := by unfold sg; cases b <;> simp <;> omega

theorem sg_neq (b c : Bool) (x y : Int) : sg (b != c) (x * y) = sg b x * sg c y := by unfold sg; cases b <;> cases c <;> simp [Int.neg_mul, Int.mul_neg]

theorem right_pos {b : Bool} {ns ds : List Int} (h : RightP b ns ds) : 0 < val ds ∧ 0 ≤ val ns := by
  have h1 := can_low h.2.2.2.1 h.2.2.2.2.2.1
  have h2 := pw_pos (ds.length - 1)
  exact ⟨by omega, (val_bound h.2.2.1.1).1⟩

end Go.Proofs.YtadkbcehhdcfaaaDoor

/- rat.times, rat.plus, rat.by. -/
namespace Go.Proofs.YtadkbcehhdcfaaaDoor
set_option linter.unusedVariables false
set_option linter.unusedSimpArgs false
open Go.RowKit

theorem many_of {w : World} {Lb : Nat} {v1 v2 : Value} {x1 x2 : List Int} (lt : Lb < w.heap.size) (k0 : w.cell? ⟨Lb, 0, none⟩ = some v1) (k1 : w.cell? ⟨Lb, 1, none⟩ = some v2) (h1 : Rd w.heap.size w v1 x1) (h2 : Rd w.heap.size w v2 x2) : Many w Lb 2 [v1, v2] [x1, x2] where
  lv := rfl
  lx := rfl
  lt := lt
  cell := fun j hj => by
    match j, hj with
    | 0, _ => exact k0
    | 1, _ => exact k1
  rd := fun j hj => by
    match j, hj with
    | 0, _ => exact h1
    | 1, _ => exact h2

theorem Many.grow {w w' : World} {Lb k : Nat} {vs : List Value} {xss : List (List Int)} (h : Many w Lb k vs xss) (hb : Below w.heap.size w w') : Many w' Lb k vs xss where
  lv := h.lv
  lx := h.lx
  lt := Nat.lt_of_lt_of_le h.lt hb.size
  cell := fun j hj => (hb.cell h.lt).trans (h.cell j hj)
  rd := fun j hj => ((h.rd j hj).below hb).mono hb.size
theorem Makes.undrew {w w' : World} {e : Ending} {xs : List Int} (h : Makes w.drew e w' xs) : Makes w e w' xs := by
  obtain ⟨a, c, he, ho, hb⟩ := h
  exact ⟨a, c, he, ho, ⟨hb.os, hb.tape, hb.output, hb.size, hb.block⟩⟩
theorem below_alloc (w : World) (o : Obj) : Below w.heap.size w (w.alloc o) := (Below.refl _ _).alloc (Nat.le_refl _) _

theorem Box3.other {w2 : World} {B R ty : Nat} {p q r : Value} (h : Box3 w2 B ty p q r) (hne : B ≠ R) (x y z : Value) : Box3 (((w2.setCell ⟨R, 0, none⟩ x).setCell ⟨R, 1, none⟩ y).setCell ⟨R, 2, none⟩ z) B ty p q r := by
  unfold Box3 at h ⊢
  have hne' : ¬ R = B := fun e => hne e.symm
  simp [World.setCell, Array.getElem?_modify, hne', h]

/-- What a making answers, in one form: a number, and whether it is one. -/
def RForm (w : World) (N D : Int) (e : Ending) (w' : World) : Prop :=
  Below w.heap.size w w' ∧ ∃ b x1 n y1 x2 m y2 err, e = .returned (.tuple #[.agg #[.bool b, .slice x1 n y1, .slice x2 m y2], .int .i64 err]) ∧
    Hid ((err = 8 ∧ b = false ∧ x1 = none ∧ n = 0 ∧ y1 = 0 ∧ x2 = none ∧ m = 0 ∧ y2 = 0 ∧ Big N D) ∨ (err = 0 ∧ ∃ ns ds, n = ns.length ∧ m = ds.length ∧ Own w.heap.size w' (.slice x1 n y1) ns ∧ Own w.heap.size w' (.slice x2 m y2) ds ∧ RightP b ns ds ∧ sg b (val ns) * D = N * val ds))
theorem RMakes.form {w w' : World} {N D : Int} {e : Ending} (h : RMakes w N D e w') : RForm w N D e w' := by
  obtain ⟨hb, ⟨rfl, hbig⟩ | ⟨b, ns, ds, x1, y1, x2, y2, rfl, on, od, hr, hv⟩⟩ := h
  · exact ⟨hb, false, none, 0, 0, none, 0, 0, 8, rfl, Or.inl ⟨rfl, rfl, rfl, rfl, rfl, rfl, rfl, rfl, hbig⟩⟩
  · exact ⟨hb, b, x1, ns.length, y1, x2, ds.length, y2, 0, rfl, Or.inr ⟨rfl, ns, ds, rfl, rfl, on, od, hr, hv⟩⟩
theorem hform_mono {w2 : World} {k j : Nat} {N D err : Int} {b : Bool} {x1 x2 : Option Addr} {n m y1 y2 : Nat} (hk : j ≤ k) (h : Hid ((err = 8 ∧ b = false ∧ x1 = none ∧ n = 0 ∧ y1 = 0 ∧ x2 = none ∧ m = 0 ∧ y2 = 0 ∧ Big N D) ∨ (err = 0 ∧ ∃ ns ds, n = ns.length ∧ m = ds.length ∧ Own k w2 (.slice x1 n y1) ns ∧ Own k w2 (.slice x2 m y2) ds ∧ RightP b ns ds ∧ sg b (val ns) * D = N * val ds))) :
    Hid ((err = 8 ∧ b = false ∧ x1 = none ∧ n = 0 ∧ y1 = 0 ∧ x2 = none ∧ m = 0 ∧ y2 = 0 ∧ Big N D) ∨ (err = 0 ∧ ∃ ns ds, n = ns.length ∧ m = ds.length ∧ Own j w2 (.slice x1 n y1) ns ∧ Own j w2 (.slice x2 m y2) ds ∧ RightP b ns ds ∧ sg b (val ns) * D = N * val ds)) := by
  rcases h.out with h | ⟨h1, ns, ds, h2, h3, on, od, h4⟩
  · exact Or.inl h
  · exact Or.inr ⟨h1, ns, ds, h2, h3, on.mono hk, od.mono hk, h4⟩
/-- Such an answer, laid into the variable of the result. -/
theorem rform_done {w wR w2 : World} {N D : Int} {b : Bool} {x1 x2 : Option Addr} {n m y1 y2 R : Nat} {err : Int} (b0 : Below w.heap.size w wR) (hR : w.heap.size ≤ R) (s0 : R < wR.heap.size) (hb : Below wR.heap.size wR w2)
    (h : Hid ((err = 8 ∧ b = false ∧ x1 = none ∧ n = 0 ∧ y1 = 0 ∧ x2 = none ∧ m = 0 ∧ y2 = 0 ∧ Big N D) ∨ (err = 0 ∧ ∃ ns ds, n = ns.length ∧ m = ds.length ∧ Own wR.heap.size w2 (.slice x1 n y1) ns ∧ Own wR.heap.size w2 (.slice x2 m y2) ds ∧ RightP b ns ds ∧ sg b (val ns) * D = N * val ds))) :
    RMakes w N D (.returned (.tuple #[.agg #[.bool b, .slice x1 n y1, .slice x2 m y2], .int .i64 err])) (((w2.setCell ⟨R, 0, none⟩ (.bool b)).setCell ⟨R, 1, none⟩ (.slice x1 n y1)).setCell ⟨R, 2, none⟩ (.slice x2 m y2)) := by
  refine ⟨Below.set3 (b0.trans (hb.mono (by omega))) hR _ _ _, ?_⟩
  rcases h.out with ⟨rfl, rfl, rfl, rfl, rfl, rfl, rfl, rfl, hbig⟩ | ⟨rfl, ns, ds, rfl, rfl, on, od, hr, hv⟩
  · exact Or.inl ⟨rfl, hbig⟩
  · exact Or.inr ⟨b, ns, ds, x1, y1, x2, y2, rfl, (Own.set3 on s0 _ _ _).mono (by omega), (Own.set3 od s0 _ _ _).mono (by omega), hr, hv⟩

section
variable {B : Nat} {w : World} {bx cy : Bool} {a1 a2 a3 a4 : Option Addr} {c1 c2 c3 c4 : Nat} {xn xd yn yd : List Int}

end
end Go.Proofs.YtadkbcehhdcfaaaDoor

/- rat.allRight of two. -/
namespace Go.Proofs.YtadkbcehhdcfaaaDoor
set_option linter.unusedVariables false
set_option linter.unusedSimpArgs false
open Go.RowKit

/-- Two numbers lie in a list. -/
structure Two (w : World) (Lb : Nat) (x0 x1 x2 y0 y1 y2 : Value) : Prop where
  lt : Lb < w.heap.size
  k0 : w.cell? ⟨Lb, 0, none⟩ = some x0
  k1 : w.cell? ⟨Lb, 1, none⟩ = some x1
  k2 : w.cell? ⟨Lb, 2, none⟩ = some x2
  k3 : w.cell? ⟨Lb, 3, none⟩ = some y0
  k4 : w.cell? ⟨Lb, 4, none⟩ = some y1
  k5 : w.cell? ⟨Lb, 5, none⟩ = some y2

theorem Two.below {w w' : World} {Lb : Nat} {x0 x1 x2 y0 y1 y2 : Value} (h : Two w Lb x0 x1 x2 y0 y1 y2) (hb : Below w.heap.size w w') : Two w' Lb x0 x1 x2 y0 y1 y2 :=
  ⟨Nat.lt_of_lt_of_le h.lt hb.size, (hb.cell (p := ⟨Lb, 0, none⟩) h.lt).trans h.k0, (hb.cell (p := ⟨Lb, 1, none⟩) h.lt).trans h.k1, (hb.cell (p := ⟨Lb, 2, none⟩) h.lt).trans h.k2, (hb.cell (p := ⟨Lb, 3, none⟩) h.lt).trans h.k3, (hb.cell (p := ⟨Lb, 4, none⟩) h.lt).trans h.k4, (hb.cell (p := ⟨Lb, 5, none⟩) h.lt).trans h.k5⟩

theorem two_new (w : World) (x0 x1 x2 y0 y1 y2 : Value) (t : TypeId) : Two (w.alloc (.cells #[x0, x1, x2, y0, y1, y2] t)) w.heap.size x0 x1 x2 y0 y1 y2 :=
  ⟨by simp, by simp, by simp, by simp, by simp, by simp, by simp⟩

section
variable {B Lb : Nat} {w : World} {bx cy : Bool} {a1 a2 a3 a4 : Option Addr} {c1 c2 c3 c4 : Nat} {xn xd yn yd : List Int}

end
end Go.Proofs.YtadkbcehhdcfaaaDoor

/- rat.withSign of a right number: the same limbs, in memory of their own. -/
namespace Go.Proofs.YtadkbcehhdcfaaaDoor
set_option linter.unusedVariables false
set_option linter.unusedSimpArgs false
open Go.RowKit

end Go.Proofs.YtadkbcehhdcfaaaDoor

/- rat.fold of two numbers. -/
namespace Go.Proofs.YtadkbcehhdcfaaaDoor
set_option linter.unusedVariables false
set_option linter.unusedSimpArgs false
open Go.RowKit

/-- What a reckoning with two numbers answers: where P does not hold, ErrForm; else it is too great, or a right number that is N by D. -/
def Out (w' : World) (k : Nat) (P : Prop) (N D : Int) (b : Bool) (x1 : Option Addr) (n y1 : Nat) (x2 : Option Addr) (m y2 : Nat) (err : Int) : Prop :=
  (¬ P ∧ err = 22 ∧ b = false ∧ x1 = none ∧ n = 0 ∧ y1 = 0 ∧ x2 = none ∧ m = 0 ∧ y2 = 0) ∨ (P ∧ err = 8 ∧ b = false ∧ x1 = none ∧ n = 0 ∧ y1 = 0 ∧ x2 = none ∧ m = 0 ∧ y2 = 0 ∧ Big N D) ∨
    (P ∧ err = 0 ∧ ∃ ns ds, n = ns.length ∧ m = ds.length ∧ Own k w' (.slice x1 n y1) ns ∧ Own k w' (.slice x2 m y2) ds ∧ RightP b ns ds ∧ sg b (val ns) * D = N * val ds)
def Gives (w : World) (P : Prop) (N D : Int) (e : Ending) (w' : World) : Prop :=
  Below w.heap.size w w' ∧ ∃ b x1 n y1 x2 m y2 err, e = .returned (.tuple #[.agg #[.bool b, .slice x1 n y1, .slice x2 m y2], .int .i64 err]) ∧ Hid (Out w' w.heap.size P N D b x1 n y1 x2 m y2 err)

theorem Out.turn {w1 w2 : World} {k j : Nat} {P : Prop} {N D err : Int} {b : Bool} {x1 x2 : Option Addr} {n m y1 y2 : Nat} (h : Out w1 k P N D b x1 n y1 x2 m y2 err) (hO : ∀ v xs, Own k w1 v xs → Own j w2 v xs) : Out w2 j P N D b x1 n y1 x2 m y2 err := by
  rcases h with h | h | ⟨hp, he, ns, ds, h2, h3, on, od, h4⟩
  · exact Or.inl h
  · exact Or.inr (Or.inl h)
  · exact Or.inr (Or.inr ⟨hp, he, ns, ds, h2, h3, hO _ _ on, hO _ _ od, h4⟩)

end Go.Proofs.YtadkbcehhdcfaaaDoor

/- rat.fold of two numbers, by rat.times. -/
namespace Go.Proofs.YtadkbcehhdcfaaaDoor
set_option linter.unusedVariables false
set_option linter.unusedSimpArgs false
open Go.RowKit

section
variable {B Lb : Nat} {w : World} {bx cy : Bool} {a1 a2 a3 a4 : Option Addr} {c1 c2 c3 c4 : Nat} {xn xd yn yd : List Int}

end
end Go.Proofs.YtadkbcehhdcfaaaDoor
