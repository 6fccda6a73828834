/- rat.wholeNextTo, rat.Floor: the whole numbers next to a number. -/
import Derived.Test.YtonjbpnpknpbeaaGreatDoorJ6
import Derived.Test.YtonjbpnpknpbeaaGreatDoorJ5
import Derived.Test.YtonjbpnpknpbeaaGreatDoorJ1
import Derived.Laws.AppendOwnNone
namespace Go.Proofs.YtonjbpnpknpbeaaGreatDoor
set_option linter.unusedVariables false
set_option linter.unusedSimpArgs false
open Go.RowKit

/-- A result's variable. -/
structure RVar (w : World) (k : Nat) : Prop where
  lt : k < w.heap.size
  box : Box3 w k 24 (.bool false) (.slice none 0 0) (.slice none 0 0)
theorem RVar.below {w w' : World} {k : Nat} (h : RVar w k) (hb : Below w.heap.size w w') : RVar w' k := ⟨Nat.lt_of_lt_of_le h.lt hb.size, h.box.below hb h.lt⟩
theorem rvar_new (w : World) : RVar (w.alloc (.cells #[.bool false, .slice none 0 0, .slice none 0 0] 24)) w.heap.size := ⟨by simp, box3_new _ _ _ _ _⟩

/-- The size of the whole number next to a number: further away from 0, or nearer. -/
def wholeM (f : Bool) (n d : Int) : Int := n / d + if f = true ∧ ¬ n % d = 0 then 1 else 0

theorem div_unique {n d q r : Int} (h : n = q * d + r) (h0 : 0 ≤ r) (h1 : r < d) : q = n / d ∧ r = n % d := by
  have hd : 0 < d := by omega
  have e1 : n / d = q := by
    rw [h, Int.add_comm, Int.add_mul_ediv_right _ _ (by omega), Int.ediv_eq_zero_of_lt h0 h1]
    omega
  refine ⟨e1.symm, ?_⟩
  have e2 := Int.emod_def n d
  rw [e1] at e2
  rw [e2, h, Int.mul_comm d]
  omega

theorem floor_whole (b : Bool) (n d : Int) (hn : 0 ≤ n) (hd : 0 < d) : sg b (wholeM b n d) = sg b n / d := by
  have hm0 := Int.emod_nonneg n (show d ≠ 0 by omega)
  have hm1 := Int.emod_lt_of_pos n hd
  have he : n / d * d + n % d = n := by rw [Int.mul_comm]; exact Int.mul_ediv_add_emod n d
  unfold wholeM sg
  cases b with
  | false => simp
  | true =>
    by_cases h0 : n % d = 0
    · simp only [h0, not_true_eq_false, and_false, if_false, if_true, Int.add_zero]
      exact (div_unique (r := 0) (by rw [Int.neg_mul]; omega) (by omega) hd).1
    · simp only [h0, not_false_eq_true, and_true, if_true]
      refine (div_unique (r := d - n % d) ?_ (by omega) (by omega)).1
      rw [Int.neg_mul, Int.add_mul]
      omega

theorem one_val : val [(1 : Int)] = 1 := by decide
theorem can_add_one {q r : List Int} (c : can r) : (0 < r.length ↔ ¬ val r = 0) := by
  have := can_zero c
  omega

section
variable {B : Nat} {w : World} {bx : Bool} {a1 a2 : Option Addr} {c1 c2 : Nat} {xn xd : List Int}

end
end Go.Proofs.YtonjbpnpknpbeaaGreatDoor

/- rat.OfInt at every int. -/
namespace Go.Proofs.YtonjbpnpknpbeaaGreatDoor
set_option linter.unusedVariables false
set_option linter.unusedSimpArgs false
open Go.RowKit

theorem of_can (n : Int) (h0 : 0 ≤ n) (h1 : n < 18446744073709551616) : can (tr [n % 4294967296, n / 4294967296]) ∧ val (tr [n % 4294967296, n / 4294967296]) = n ∧ (tr [n % 4294967296, n / 4294967296]).length ≤ 2 := by
  refine ⟨tr_can (fun x hx => by simp at hx; omega), ?_, ?_⟩
  · rw [val_tr]; simp [val]; omega
  · have := tr_length_le [n % 4294967296, n / 4294967296]
    simpa using this
theorem of_num (n : Int) (h0 : 0 ≤ n) (h1 : n < 18446744073709551616) (w : World) : Calls Tryz.prog 36 #[.int .u64 n] w fun e w' => ∃ ns, can ns ∧ Hid (val ns = n) ∧ ns.length ≤ 2 ∧ Makes w e w' ns := by
  refine (of_any n h0 h1 w).mono ?_
  intro e w' h
  have hc := of_can n h0 h1
  exact ⟨_, hc.1, hc.2.1, hc.2.2, h⟩

/-- A whole number as a number. -/
def WholeIs (k : Int) (b : Bool) (ns ds : List Int) : Prop := b = decide (k < 0) ∧ can ns ∧ val ns = (if k < 0 then -k else k) ∧ ns.length ≤ 2 ∧ ds = [1]
theorem WholeIs.right {k : Int} {b : Bool} {ns ds : List Int} (h : WholeIs k b ns ds) : RightP b ns ds := by
  obtain ⟨rfl, cn, vn, ln, rfl⟩ := h
  refine ⟨by omega, by simp, cn, can_one, ?_, by simp, by rw [one_val]; exact gI_one_right _⟩
  rintro ⟨hb, hz⟩
  rw [(can_zero cn).1 hz] at vn
  rw [decide_eq_true_iff] at hb
  rw [if_pos hb] at vn
  omega
theorem WholeIs.sg {k : Int} {b : Bool} {ns ds : List Int} (h : WholeIs k b ns ds) : sg b (val ns) = k ∧ val ds = 1 := by
  obtain ⟨rfl, cn, vn, ln, rfl⟩ := h
  refine ⟨?_, one_val⟩
  rw [vn]
  by_cases hk : k < 0
  · rw [decide_eq_true hk, if_pos hk]; simp [Go.Proofs.YtonjbpnpknpbeaaGreatDoor.sg]
  · rw [decide_eq_false hk, if_neg hk]; rfl
/-- A whole number's answer. -/
def WholeNum (w : World) (k : Int) (e : Ending) (w' : World) : Prop :=
  Below w.heap.size w w' ∧ ∃ b ns ds a1 c1 a2 c2, Hid (WholeIs k b ns ds) ∧ e = .returned (.agg #[.bool b, .slice a1 ns.length c1, .slice a2 ds.length c2]) ∧ Own w.heap.size w' (.slice a1 ns.length c1) ns ∧ Own w.heap.size w' (.slice a2 ds.length c2) ds

set_option maxRecDepth 100000 in
set_option maxHeartbeats 3200000 in
theorem ofInt_any (k : Int) (h0 : -9223372036854775808 ≤ k) (h1 : k < 9223372036854775808) (w : World) : Calls Tryz.prog 17 #[.int .i64 k] w fun e w' => WholeNum w k e w' := by
  have R := rvar_new w
  have g := below_alloc w (.cells #[.bool false, .slice none 0 0, .slice none 0 0] 24)
  go_enter Tryz.func17, Tryz.ntmps17
  by_cases hk : k < 0
  · have hkb : decide (k < 0) = true := decide_eq_true hk
    have hw : IntKind.u64.wrap (-IntKind.u64.wrap k) = -k := by rw [IntKind.wrap_u64, IntKind.wrap_u64]; omega
    go_wp2_with fail
    generalize hA : w.alloc (.cells #[.bool false, .slice none 0 0, .slice none 0 0] 24) = v at *
    clear hA
    refine (of_num (-k) (by omega) (by omega) _).mono ?_
    rintro e wa ⟨ns, cn, vn, ln, x1, y1, rfl, o1, ka⟩
    go_wp2_with fail
    refine (one_any _).mono ?_
    rintro e wb ⟨x2, y2, hb, o2, kb⟩
    obtain ⟨ds, hds⟩ : ∃ ds : List Int, ds = [1] := ⟨_, rfl⟩
    rw [← hds] at hb o2
    subst hb
    have HD : Hid (ds = [1]) := hds
    clear hds
    have t : Below v.heap.size v wb := ka.trans (kb.mono ka.size)
    have Rb := R.below t
    have q0 := Rb.box.c0
    have q1 := Rb.box.c1
    have q2 := Rb.box.c2
    have p0 := Rb.box.f0
    have p1 := Rb.box.f1
    have p2 := Rb.box.f2
    go_wp2
    have hR3 := Rb.box.set (.bool true) (.slice x1 ns.length y1) (.slice x2 ds.length y2)
    have r0 := hR3.c0
    have r1 := hR3.c1
    have r2 := hR3.c2
    refine bodyPost_ret (v := .agg #[.bool true, .slice x1 ns.length y1, .slice x2 ds.length y2]) (by simp [results, Tryz.results17, go_sem, r0, r1, r2]) rfl ?_
    exact ⟨Below.set3 (g.trans (t.mono g.size)) (Nat.le_refl _) _ _ _, true, ns, ds, x1, y1, x2, y2, ⟨hkb.symm, cn, by rw [vn.out, if_pos hk], ln, HD.out⟩, rfl, (Own.set3 (o1.below kb (Nat.le_refl _)) R.lt _ _ _).mono g.size, (Own.set3 (o2.mono ka.size) R.lt _ _ _).mono g.size⟩
  · have hkb : decide (k < 0) = false := decide_eq_false hk
    go_wp2_with fail
    generalize hA : w.alloc (.cells #[.bool false, .slice none 0 0, .slice none 0 0] 24) = v at *
    clear hA
    refine (of_num k (by omega) (by omega) _).mono ?_
    rintro e wa ⟨ns, cn, vn, ln, x1, y1, rfl, o1, ka⟩
    go_wp2_with fail
    refine (one_any _).mono ?_
    rintro e wb ⟨x2, y2, hb, o2, kb⟩
    obtain ⟨ds, hds⟩ : ∃ ds : List Int, ds = [1] := ⟨_, rfl⟩
    rw [← hds] at hb o2
    subst hb
    have HD : Hid (ds = [1]) := hds
    clear hds
    have t : Below v.heap.size v wb := ka.trans (kb.mono ka.size)
    have Rb := R.below t
    have q0 := Rb.box.c0
    have q1 := Rb.box.c1
    have q2 := Rb.box.c2
    have p0 := Rb.box.f0
    have p1 := Rb.box.f1
    have p2 := Rb.box.f2
    go_wp2
    have hR3 := Rb.box.set (.bool false) (.slice x1 ns.length y1) (.slice x2 ds.length y2)
    have r0 := hR3.c0
    have r1 := hR3.c1
    have r2 := hR3.c2
    refine bodyPost_ret (v := .agg #[.bool false, .slice x1 ns.length y1, .slice x2 ds.length y2]) (by simp [results, Tryz.results17, go_sem, r0, r1, r2]) rfl ?_
    exact ⟨Below.set3 (g.trans (t.mono g.size)) (Nat.le_refl _) _ _ _, false, ns, ds, x1, y1, x2, y2, ⟨hkb.symm, cn, by rw [vn.out, if_neg (by omega)], ln, HD.out⟩, rfl, (Own.set3 (o1.below kb (Nat.le_refl _)) R.lt _ _ _).mono g.size, (Own.set3 (o2.mono ka.size) R.lt _ _ _).mono g.size⟩
end Go.Proofs.YtonjbpnpknpbeaaGreatDoor

/- rat.powerOf. -/
namespace Go.Proofs.YtonjbpnpknpbeaaGreatDoor
set_option linter.unusedVariables false
set_option linter.unusedSimpArgs false
open Go.RowKit

theorem pow_huge (A : Int) (N : Nat) (hA : 2 ≤ A) (hN : 1024 ≤ N) : pw 32 ≤ A ^ N := by
  rw [pw_p2]
  have h1 : p2 (32 * 32) ≤ p2 N := p2_mono hN
  have h2 : (2 : Int) ^ N ≤ A ^ N := (pow_le_pow (by omega) hA N).1
  unfold p2 at *
  omega
theorem bits_small {A : Int} {b : Nat} (h : isBits A b) (hb : b < 2) : A = 0 ∨ A = 1 := by
  rcases h with ⟨rfl, _⟩ | ⟨h1, h2, h3⟩
  · exact Or.inl rfl
  · obtain rfl : b = 1 := by omega
    have e1 : p2 (1 - 1) = 1 := by decide
    have e2 : p2 1 = 2 := by decide
    omega
theorem bits_great {A : Int} {b : Nat} (h : isBits A b) (hb : ¬ b < 2) : 2 ≤ A := by
  rcases h with ⟨rfl, h⟩ | ⟨h1, h2, h3⟩
  · omega
  · have := p2_mono (j := 1) (k := b - 1) (by omega)
    have e2 : p2 1 = 2 := by decide
    omega
theorem pow_unit {A : Int} (h : A = 0 ∨ A = 1) (N : Nat) (hN : 0 < N) : A ^ N = A := by
  obtain ⟨k, rfl⟩ : ∃ k, N = k + 1 := ⟨N - 1, by omega⟩
  rcases h with rfl | rfl
  · rw [Int.pow_succ, Int.mul_zero]
  · exact one_pow' _
theorem one_lt_pw : (1 : Int) < pw 32 := by
  have := pw_mono (j := 1) (k := 32) (by omega)
  have e : pw 1 = 4294967296 := by decide
  omega

/-- What rat.powerOf answers. -/
def PowGives (w : World) (A : Int) (N : Nat) (e : Ending) (w' : World) : Prop :=
  Below w.heap.size w w' ∧ ((pw 32 ≤ A ^ N ∧ e = .returned (.tuple #[.slice none 0 0, .bool false])) ∨ (A ^ N < pw 32 ∧ ∃ zs a c, can zs ∧ val zs = A ^ N ∧ e = .returned (.tuple #[.slice a zs.length c, .bool true]) ∧ Own w.heap.size w' (.slice a zs.length c) zs))

end Go.Proofs.YtonjbpnpknpbeaaGreatDoor

/- Plain facts on how many sets of k things n things have. -/
namespace Go.Proofs.YtonjbpnpknpbeaaGreatDoor
set_option linter.unusedVariables false
set_option linter.unusedSimpArgs false

/-- How many sets of k things n things have. -/
def binom : Nat → Nat → Nat
  | _, 0 => 1
  | 0, _ + 1 => 0
  | n + 1, k + 1 => binom n k + binom n (k + 1)
theorem binom_zero (n : Nat) : binom n 0 = 1 := by cases n <;> rfl
theorem binom_succ (n k : Nat) : binom (n + 1) (k + 1) = binom n k + binom n (k + 1) := rfl
theorem binom_none (k : Nat) : binom 0 (k + 1) = 0 := rfl
theorem binom_lt {n : Nat} : ∀ {k : Nat}, n < k → binom n k = 0 := by
  induction n with
  | zero => intro k h; obtain ⟨j, rfl⟩ : ∃ j, k = j + 1 := ⟨k - 1, by omega⟩; rfl
  | succ n ih =>
    intro k h
    obtain ⟨j, rfl⟩ : ∃ j, k = j + 1 := ⟨k - 1, by omega⟩
    rw [binom_succ, ih (by omega), ih (by omega)]
theorem binom_absorb (n : Nat) : ∀ k, (k + 1) * binom (n + 1) (k + 1) = (n + 1) * binom n k := by
  induction n with
  | zero =>
    intro k
    cases k with
    | zero => rfl
    | succ k => rw [binom_succ, binom_none, binom_none]; simp
  | succ n ih =>
    intro k
    cases k with
    | zero =>
      have h := ih 0
      rw [binom_zero] at h
      rw [binom_succ, binom_zero]
      omega
    | succ j =>
      have h1 := ih j
      have h2 := ih (j + 1)
      rw [binom_succ (n + 1) (j + 1), Nat.mul_add, h2, Nat.add_mul (j + 1) 1, h1]
      have e : (n + 1) * binom n j + (n + 1) * binom n (j + 1) = (n + 1) * binom (n + 1) (j + 1) := by rw [binom_succ n j, Nat.mul_add]
      rw [Nat.add_mul (n + 1) 1]
      omega
theorem binom_sym (n : Nat) : ∀ a b, a + b = n → binom n a = binom n b := by
  induction n with
  | zero => 
    intro a b h
    have h1 : a = 0 ∧ b = 0 := by omega
    rw [h1.1, h1.2]
  | succ n ih =>
    intro a b h
    cases a with
    | zero =>
      obtain rfl : b = n + 1 := by omega
      rw [binom_zero, binom_succ, ih n 0 (by omega), binom_zero, binom_lt (by omega)]
    | succ a =>
      cases b with
      | zero =>
        obtain rfl : a = n := by omega
        rw [binom_zero, binom_succ, ih a 0 (by omega), binom_zero, binom_lt (by omega)]
      | succ b =>
        rw [binom_succ, binom_succ, ih a (b + 1) (by omega), ih (a + 1) b (by omega), Nat.add_comm]
theorem binom_le (n : Nat) : ∀ k, binom n k ≤ 2 ^ n := by
  induction n with
  | zero => intro k; cases k with | zero => exact Nat.le_refl _ | succ k => exact Nat.zero_le _
  | succ n ih =>
    intro k
    cases k with
    | zero => rw [binom_zero]; exact Nat.one_le_two_pow
    | succ k => rw [binom_succ, Nat.pow_succ]; have := ih k; have := ih (k + 1); omega
/-- From the sets of i things of m + i to those of one more of one more. -/
theorem binom_step (m i : Nat) : binom (m + i) i * (m + (i + 1)) = binom (m + (i + 1)) (i + 1) * (i + 1) := by
  have h := binom_absorb (m + i) i
  rw [Nat.mul_comm (binom (m + (i + 1)) (i + 1)), show m + (i + 1) = m + i + 1 by omega, h, Nat.mul_comm]
theorem binom_grow (m i : Nat) : binom (m + i) i ≤ binom (m + (i + 1)) (i + 1) := by
  rw [show m + (i + 1) = m + i + 1 by omega, binom_succ]
  omega
end Go.Proofs.YtonjbpnpknpbeaaGreatDoor

/- rat.choose. -/
namespace Go.Proofs.YtonjbpnpknpbeaaGreatDoor
set_option linter.unusedVariables false
set_option linter.unusedSimpArgs false
open Go.RowKit

theorem binom_mono (M : Nat) {j F : Nat} (h : j ≤ F) : binom (M + j) j ≤ binom (M + F) F := by
  induction F with
  | zero =>
    have hj : j = 0 := by omega
    rw [hj]
    exact Nat.le_refl _
  | succ F ih =>
    by_cases hj : j = F + 1
    · subst hj; exact Nat.le_refl _
    · exact Nat.le_trans (ih (by omega)) (binom_grow M F)

/-- Has a number at most 32 limbs, or more? (Said by name: the walk reckons a bare power.) -/
structure Fits (N : Nat) : Prop where
  is : (N : Int) < pw 32
structure Great (N : Nat) : Prop where
  is : pw 32 ≤ (N : Int)

/-- What rat.choose answers. -/
def Chooses (w : World) (N : Nat) (e : Ending) (w' : World) : Prop :=
  Below w.heap.size w w' ∧ ((pw 32 ≤ (N : Int) ∧ e = errOf 8) ∨ ((N : Int) < pw 32 ∧ ∃ zs ds a1 c1 a2 c2, can zs ∧ val zs = (N : Int) ∧ Hid (ds = [(1 : Int)]) ∧ e = .returned (.tuple #[.agg #[.bool false, .slice a1 zs.length c1, .slice a2 ds.length c2], .int .i64 0]) ∧ Own w.heap.size w' (.slice a1 zs.length c1) zs ∧ Own w.heap.size w' (.slice a2 ds.length c2) ds))

theorem one_num (w : World) : Calls Tryz.prog 37 #[] w fun e w' => ∃ ds a c, Hid (ds = [(1 : Int)]) ∧ e = .returned (.slice a ds.length c) ∧ Own w.heap.size w' (.slice a ds.length c) ds ∧ Below w.heap.size w w' :=
  (one_any w).mono (fun e w' ⟨a, c, he, ho, hb⟩ => ⟨[1], a, c, rfl, he, ho, hb⟩)

end Go.Proofs.YtonjbpnpknpbeaaGreatDoor

/- rat.isCount. -/
namespace Go.Proofs.YtonjbpnpknpbeaaGreatDoor
set_option linter.unusedVariables false
set_option linter.unusedSimpArgs false
open Go.RowKit

/-- Is a right number whole and not below 0? -/
def IsCount (b : Bool) (ds : List Int) : Prop := ds = [1] ∧ b = false

end Go.Proofs.YtonjbpnpknpbeaaGreatDoor

/- rat.Binomial of two right whole numbers that are not below 0. -/
namespace Go.Proofs.YtonjbpnpknpbeaaGreatDoor
set_option linter.unusedVariables false
set_option linter.unusedSimpArgs false
open Go.RowKit

section
variable {w : World} {a1 a2 a3 a4 : Option Addr} {c1 c2 c3 c4 : Nat} {xn xd yn yd : List Int}
end
end Go.Proofs.YtonjbpnpknpbeaaGreatDoor

/- The document's numbers copied, turned, and without their sign. -/
namespace Go.Proofs.YtonjbpnpknpbeaaGreatDoor
set_option linter.unusedVariables false
set_option linter.unusedSimpArgs false
open Go.RowKit

/-- A number that is answered, in memory of its own. -/
def NumAns (w : World) (b : Bool) (ns ds : List Int) (e : Ending) (w' : World) : Prop :=
  Below w.heap.size w w' ∧ ∃ x1 y1 x2 y2, e = .returned (.agg #[.bool b, .slice x1 ns.length y1, .slice x2 ds.length y2]) ∧ Own w.heap.size w' (.slice x1 ns.length y1) ns ∧ Own w.heap.size w' (.slice x2 ds.length y2) ds

section
variable {w : World} {b : Bool} {a1 a2 : Option Addr} {c1 c2 : Nat} {ns ds : List Int}
theorem in1_new (w : World) (h1 : Rd w.heap.size w (.slice a1 ns.length c1) ns) (h2 : Rd w.heap.size w (.slice a2 ds.length c2) ds) :
    NVar ((w.alloc (.cells #[.bool b, .slice a1 ns.length c1, .slice a2 ds.length c2] 24)).alloc (.cells #[.bool false, .slice none 0 0, .slice none 0 0] 24)) w.heap.size b a1 ns c1 a2 ds c2 ∧ RVar ((w.alloc (.cells #[.bool b, .slice a1 ns.length c1, .slice a2 ds.length c2] 24)).alloc (.cells #[.bool false, .slice none 0 0, .slice none 0 0] 24)) (w.heap.size + 1) ∧ Below w.heap.size w ((w.alloc (.cells #[.bool b, .slice a1 ns.length c1, .slice a2 ds.length c2] 24)).alloc (.cells #[.bool false, .slice none 0 0, .slice none 0 0] 24)) := by
  have X := nvar_new (b := b) h1 h2
  have R := rvar_new (w.alloc (.cells #[.bool b, .slice a1 ns.length c1, .slice a2 ds.length c2] 24))
  have ka := below_alloc (w.alloc (.cells #[.bool b, .slice a1 ns.length c1, .slice a2 ds.length c2] 24)) (.cells #[.bool false, .slice none 0 0, .slice none 0 0] 24)
  rw [World.size_alloc] at R
  exact ⟨X.below ka, R, (below_alloc w _).alloc (by simp) _⟩

set_option maxRecDepth 100000 in
set_option maxHeartbeats 8000000 in
theorem refCopied_any (h1 : Rd w.heap.size w (.slice a1 ns.length c1) ns) (h2 : Rd w.heap.size w (.slice a2 ds.length c2) ds) (l1 : ns.length ≤ 10000) (l2 : ds.length ≤ 10000) (C : Hid (can ns ∧ can ds)) :
    Calls Tryz.prog 56 #[.agg #[.bool b, .slice a1 ns.length c1, .slice a2 ds.length c2]] w fun e w' => NumAns w b ns ds e w' := by
  have t1 : Hid (tr ns = ns) := can_inj (tr_can h1.lim) C.out.1 (val_tr ns)
  have t2 : Hid (tr ds = ds) := can_inj (tr_can h2.lim) C.out.2 (val_tr ds)
  obtain ⟨X, R, g⟩ := in1_new (b := b) w h1 h2
  have s1 : w.heap.size ≤ w.heap.size + 1 := by omega
  go_enter Tryz.func56, Tryz.ntmps56
  go_wp2
  generalize hA : (w.alloc (.cells #[.bool b, .slice a1 ns.length c1, .slice a2 ds.length c2] 24)).alloc (.cells #[.bool false, .slice none 0 0, .slice none 0 0] 24) = v at *
  clear hA
  have hcells : ∀ {w' : World}, Below v.heap.size v w' → w'.cell? ⟨w.heap.size, 0, none⟩ = some (.bool b) ∧ w'.cell? ⟨w.heap.size, 1, none⟩ = some (.slice a1 ns.length c1) ∧ w'.cell? ⟨w.heap.size, 2, none⟩ = some (.slice a2 ds.length c2) := fun hb => (X.below hb).cells
  obtain ⟨X0, X1, X2⟩ := X.cells
  have d1 : Rd v.heap.size v.drew (.slice a1 ns.length c1) ns := X.rn
  have hn : w.heap.size ≠ w.heap.size + 1 := by omega
  go_region_held3 (fun w' => w'.cell? ⟨w.heap.size, 0, none⟩ = some (.bool b) ∧ w'.cell? ⟨w.heap.size, 1, none⟩ = some (.slice a1 ns.length c1) ∧ w'.cell? ⟨w.heap.size, 2, none⟩ = some (.slice a2 ds.length c2))
    (first | (go_keep; done) | exact tw | exact tw2 | exact tws)
    (first
      | (go_at_call_of 57 (Value.slice a1 ns.length c1); refine (refTrim_rd d1 (by omega)).mono ?_; intro e wa hm; rw [t1.out] at hm; obtain ⟨x1, y1, rfl, o1, ba⟩ := Makes.undrew hm; have tw := hcells ba; have e2 := (X.below ba).rd)
      | (have j := ba; go_at_call_of 57 (Value.slice a2 ds.length c2); refine (refTrim_rd e2 (by omega)).mono ?_; intro e wb hm; rw [t2.out] at hm; obtain ⟨x2, y2, rfl, o2, bb⟩ := hm; have bPb := ba.trans (bb.mono ba.size); have tw2 := hcells bPb; have XB := (X.below bPb).box; have RB := R.below bPb; have tws := And.intro (XB.other hn (.bool b) (.slice x1 ns.length y1) (.slice x2 ds.length y2)).c0 (And.intro (XB.other hn (.bool b) (.slice x1 ns.length y1) (.slice x2 ds.length y2)).c1 (XB.other hn (.bool b) (.slice x1 ns.length y1) (.slice x2 ds.length y2)).c2); have q0 := RB.box.c0; have q1 := RB.box.c1; have q2 := RB.box.c2; have p0 := RB.box.f0; have p1 := RB.box.f1; have p2 := RB.box.f2))
  all_goals
    have o1c : Own v.heap.size wb (.slice x1 ns.length y1) ns := o1.below bb (Nat.le_refl _)
    have o2c : Own v.heap.size wb (.slice x2 ds.length y2) ds := o2.mono ba.size
    go_wp2
    have hR3 := RB.box.set (.bool b) (.slice x1 ns.length y1) (.slice x2 ds.length y2)
    have r0 := hR3.c0
    have r1 := hR3.c1
    have r2 := hR3.c2
    refine bodyPost_ret (v := .agg #[.bool b, .slice x1 ns.length y1, .slice x2 ds.length y2]) (by simp [results, Tryz.results56, go_sem, r0, r1, r2]) rfl ?_
    exact ⟨Below.set3 (g.trans (bPb.mono g.size)) s1 _ _ _, x1, y1, x2, y2, rfl, (Own.set3 o1c R.lt _ _ _).mono g.size, (Own.set3 o2c R.lt _ _ _).mono g.size⟩
end
end Go.Proofs.YtonjbpnpknpbeaaGreatDoor

/- The document's Copy. -/
namespace Go.Proofs.YtonjbpnpknpbeaaGreatDoor
set_option linter.unusedVariables false
set_option linter.unusedSimpArgs false
open Go.RowKit

theorem rd_parts {B : Nat} {w : World} {a : Option Addr} {c : Nat} {xs : List Int} (h : Rd B w (.slice a xs.length c) xs) : (a = none ∧ xs = [] ∧ c = 0) ∨ ∃ ad, a = some ad ∧ ∀ j u, (xs.map (Value.int .u32))[j]? = some u → w.cell? (ad.add j) = some u := by
  obtain ⟨_, a', c', e, h1, h2, h3, h4⟩ := h
  have ea : a' = a ∧ c' = c := by cases e; exact ⟨rfl, rfl⟩
  obtain ⟨rfl, rfl⟩ := ea
  cases a' with
  | none =>
    have := h3 rfl
    subst this
    exact Or.inl ⟨rfl, List.eq_nil_of_length_eq_zero (by omega), rfl⟩
  | some ad =>
    refine Or.inr ⟨ad, rfl, ?_⟩
    rcases h4 with h4 | ⟨b, off, e2, _, hc⟩
    · have : xs = [] := List.eq_nil_of_length_eq_zero h4
      subst this
      intro j u h; simp at h
    · cases e2
      exact cells_news hc
/-- Limbs that are appended to none: their copy. -/
theorem append_nil_rd {B : Nat} {w : World} {ops : Array Oper} {rest : List Oper} {o : Oper} {a : Act} {Q : Exit → Act → World → Prop} {a1 : Option Addr} {c1 : Nat} {ns : List Int} (hgd : o.guard = none) (s x : Operand)
    (ho : o.op = .call { callee := .builtin .append, args := #[s, x], argTypes := #[22, 22] }) (hs : a.eval s = .slice none 0 0) (hx : a.eval x = .slice a1 ns.length c1) (hR : Rd B w (.slice a1 ns.length c1) ns) (hl : ns.length * 4 ≤ 140737488355328)
    (h : ∀ x1 y1 w', Own w.heap.size w' (.slice x1 ns.length y1) ns → Below w.heap.size w w' → wpList Tryz.prog ops Q rest (a.put o.dst (.slice x1 ns.length y1)) w') : wpList Tryz.prog ops Q (o :: rest) a w := by
  obtain ⟨i0, hi, hz0, hz1, hz2⟩ := info_parts info_u32
  have hlim := hR.lim
  rcases rd_parts hR with ⟨rfl, rfl, rfl⟩ | ⟨ad, rfl, hN⟩
  · exact wpList_append_own_none hgd s x 22 ho w.heap.size 70 i0 1 Tryz.underlying22 hi (.slice none 0 0) 0 [] hs (World.ownsRow_nil _ _ _ _) hx (h none 0 w ⟨lim_nil, World.ownsRow_nil _ _ _ _⟩ (Below.refl _ _))
  · refine wpList_append_own _ hgd s x 22 ho w.heap.size 70 i0 (.int .u32 0) 1 4 Tryz.underlying22 hi hz0 hz1 hz2 rfl (by decide) (.slice none 0 0) 0 [] hs (World.ownsRow_nil _ _ _ _) ad ns.length c1 (ns.map (Value.int .u32)) hx (by rw [List.length_map]; omega) hN (ints_oneCell _ _) ?_ ?_ (Nat.le_refl _) ?_
    · unfold maxLen; omega
    · omega
    intro v' w2 hown hgrow _
    rw [Nat.zero_add, List.nil_append] at hown
    have o1 : Own w.heap.size w2 v' ns := ⟨hlim, hown⟩
    obtain ⟨x1, y1, rfl⟩ := o1.form
    exact h x1 y1 w2 o1 ((Below.refl _ _).grown hgrow (Nat.le_refl _) (fun k h => by cases h))
theorem Box3.set1 {w : World} {B ty : Nat} {p q r : Value} (h : Box3 w B ty p q r) (x : Value) : Box3 (w.setCell ⟨B, 1, none⟩ x) B ty p x r := by
  unfold Box3 at h ⊢
  simp [World.setCell, Array.getElem?_modify, h]
theorem Box3.set2 {w : World} {B ty : Nat} {p q r : Value} (h : Box3 w B ty p q r) (x : Value) : Box3 (w.setCell ⟨B, 2, none⟩ x) B ty p q x := by
  unfold Box3 at h ⊢
  simp [World.setCell, Array.getElem?_modify, h]
section
variable {w : World} {b : Bool} {a1 a2 : Option Addr} {c1 c2 : Nat} {ns ds : List Int}
set_option maxRecDepth 100000 in
set_option maxHeartbeats 16000000 in
theorem refCopy_any (h1 : Rd w.heap.size w (.slice a1 ns.length c1) ns) (h2 : Rd w.heap.size w (.slice a2 ds.length c2) ds) (l1 : ns.length * 4 ≤ 140737488355328) (l2 : ds.length * 4 ≤ 140737488355328) :
    Calls Tryz.prog 4 #[.agg #[.bool b, .slice a1 ns.length c1, .slice a2 ds.length c2]] w fun e w' => NumAns w b ns ds e w' := by
  obtain ⟨X, R, g⟩ := in1_new (b := b) w h1 h2
  have s1 : w.heap.size ≤ w.heap.size + 1 := by omega
  clear h1 h2
  have t1 := below_alloc ((w.alloc (.cells #[.bool b, .slice a1 ns.length c1, .slice a2 ds.length c2] 24)).alloc (.cells #[.bool false, .slice none 0 0, .slice none 0 0] 24)) (.cells #[.bool b, .slice none 0 0, .slice none 0 0] 24)
  have hvs : ((w.alloc (.cells #[.bool b, .slice a1 ns.length c1, .slice a2 ds.length c2] 24)).alloc (.cells #[.bool false, .slice none 0 0, .slice none 0 0] 24)).heap.size = w.heap.size + 1 + 1 := by rw [World.size_alloc, World.size_alloc]
  have Yb := box3_new ((w.alloc (.cells #[.bool b, .slice a1 ns.length c1, .slice a2 ds.length c2] 24)).alloc (.cells #[.bool false, .slice none 0 0, .slice none 0 0] 24)) (.bool b) (.slice none 0 0) (.slice none 0 0) 24
  rw [hvs] at Yb
  have Ylt : w.heap.size + 1 + 1 < (((w.alloc (.cells #[.bool b, .slice a1 ns.length c1, .slice a2 ds.length c2] 24)).alloc (.cells #[.bool false, .slice none 0 0, .slice none 0 0] 24)).alloc (.cells #[.bool b, .slice none 0 0, .slice none 0 0] 24)).heap.size := by rw [World.size_alloc _ (.cells #[.bool b, .slice none 0 0, .slice none 0 0] 24), hvs]; omega
  have x0 := X.k0
  obtain ⟨X0, X1, X2⟩ := (X.below t1).cells
  have y0 := Yb.c0
  have y1 := Yb.c1
  have y2 := Yb.c2
  have z0 := Yb.f0
  have z1 := Yb.f1
  have z2 := Yb.f2
  go_enter Tryz.func4, Tryz.ntmps4
  go_wp2_with (at_builtin; refine append_nil_rd rfl _ _ rfl rfl rfl (X.below t1).rn l1 ?_)
  intro x5 y5 w2 o1' k1'
  have o1 : Own (((w.alloc (.cells #[.bool b, .slice a1 ns.length c1, .slice a2 ds.length c2] 24)).alloc (.cells #[.bool false, .slice none 0 0, .slice none 0 0] 24)).alloc (.cells #[.bool b, .slice none 0 0, .slice none 0 0] 24)).heap.size w2 (.slice x5 ns.length y5) ns := by simpa using o1'
  have k1 : Below (((w.alloc (.cells #[.bool b, .slice a1 ns.length c1, .slice a2 ds.length c2] 24)).alloc (.cells #[.bool false, .slice none 0 0, .slice none 0 0] 24)).alloc (.cells #[.bool b, .slice none 0 0, .slice none 0 0] 24)).heap.size (((w.alloc (.cells #[.bool b, .slice a1 ns.length c1, .slice a2 ds.length c2] 24)).alloc (.cells #[.bool false, .slice none 0 0, .slice none 0 0] 24)).alloc (.cells #[.bool b, .slice none 0 0, .slice none 0 0] 24)) w2 := by simpa using k1'
  clear o1' k1'
  generalize hA : ((w.alloc (.cells #[.bool b, .slice a1 ns.length c1, .slice a2 ds.length c2] 24)).alloc (.cells #[.bool false, .slice none 0 0, .slice none 0 0] 24)) = v at *
  clear hA
  generalize hA : v.alloc (.cells #[.bool b, .slice none 0 0, .slice none 0 0] 24) = v1 at *
  clear hA x0 X0 X1 X2 y0 y1 y2 z0 z1 z2
  have Y2 := Yb.below k1 Ylt
  have z1 := Y2.f1
  have y1 := Y2.c1
  have t2 : Below v.heap.size v (w2.setCell ⟨w.heap.size + 1 + 1, 1, none⟩ (.slice x5 ns.length y5)) := (t1.trans (k1.mono t1.size)).setCell (p := ⟨w.heap.size + 1 + 1, 1, none⟩) (Nat.le_of_eq hvs) _
  have Y3 := Y2.set1 (.slice x5 ns.length y5)
  have o2 : Own v1.heap.size (w2.setCell ⟨w.heap.size + 1 + 1, 1, none⟩ (.slice x5 ns.length y5)) (.slice x5 ns.length y5) ns := o1.setCell (a := ⟨w.heap.size + 1 + 1, 1, none⟩) (ownBlock_ne o1 Ylt) _
  have s2 : v1.heap.size ≤ (w2.setCell ⟨w.heap.size + 1 + 1, 1, none⟩ (.slice x5 ns.length y5)).heap.size := by
    have := k1.size
    simpa [World.setCell] using this
  have y2 := Y3.c2
  obtain ⟨X0, X1, X2⟩ := (X.below t2).cells
  go_wp2_with (at_builtin; refine append_nil_rd rfl _ _ rfl rfl rfl (X.below t2).rd l2 ?_)
  intro x6 y6 w4 o3' k3'
  have o3 : Own (w2.setCell ⟨w.heap.size + 1 + 1, 1, none⟩ (.slice x5 ns.length y5)).heap.size w4 (.slice x6 ds.length y6) ds := by simpa using o3'
  have k3 : Below (w2.setCell ⟨w.heap.size + 1 + 1, 1, none⟩ (.slice x5 ns.length y5)).heap.size (w2.setCell ⟨w.heap.size + 1 + 1, 1, none⟩ (.slice x5 ns.length y5)) w4 := by simpa using k3'
  clear o3' k3'
  generalize hA : w2.setCell ⟨w.heap.size + 1 + 1, 1, none⟩ (.slice x5 ns.length y5) = w3 at *
  clear hA z1 y1 y2 X0 X1 X2 o1 k1 Y2
  have Ylt3 : w.heap.size + 1 + 1 < w3.heap.size := Nat.lt_of_lt_of_le Ylt s2
  have Y4 := Y3.below k3 Ylt3
  have z2 := Y4.f2
  have y3 := Y4.c2
  have o4 := o2.below k3 (Nat.le_refl _)
  have Y5 := Y4.set2 (.slice x6 ds.length y6)
  have t3 : Below v.heap.size v (w4.setCell ⟨w.heap.size + 1 + 1, 2, none⟩ (.slice x6 ds.length y6)) := (t2.trans (k3.mono t2.size)).setCell (p := ⟨w.heap.size + 1 + 1, 2, none⟩) (Nat.le_of_eq hvs) _
  have o5 : Own v1.heap.size (w4.setCell ⟨w.heap.size + 1 + 1, 2, none⟩ (.slice x6 ds.length y6)) (.slice x5 ns.length y5) ns := o4.setCell (a := ⟨w.heap.size + 1 + 1, 2, none⟩) (ownBlock_ne o4 Ylt) _
  have o6 : Own w3.heap.size (w4.setCell ⟨w.heap.size + 1 + 1, 2, none⟩ (.slice x6 ds.length y6)) (.slice x6 ds.length y6) ds := o3.setCell (a := ⟨w.heap.size + 1 + 1, 2, none⟩) (ownBlock_ne o3 Ylt3) _
  have y0 := Y5.c0
  have y1 := Y5.c1
  have y2 := Y5.c2
  have R5 := R.below t3
  have q0 := R5.box.c0
  have q1 := R5.box.c1
  have q2 := R5.box.c2
  have p0 := R5.box.f0
  have p1 := R5.box.f1
  have p2 := R5.box.f2
  go_wp2
  have hR3 := R5.box.set (.bool b) (.slice x5 ns.length y5) (.slice x6 ds.length y6)
  have r0 := hR3.c0
  have r1 := hR3.c1
  have r2 := hR3.c2
  have RL1 : w.heap.size + 1 < v1.heap.size := Nat.lt_of_lt_of_le R.lt t1.size
  have RL3 : w.heap.size + 1 < w3.heap.size := Nat.lt_of_lt_of_le RL1 s2
  have hw1 : w.heap.size ≤ v1.heap.size := Nat.le_trans g.size t1.size
  refine bodyPost_ret (v := .agg #[.bool b, .slice x5 ns.length y5, .slice x6 ds.length y6]) (by simp [results, Tryz.results4, go_sem, r0, r1, r2]) rfl ?_
  exact ⟨Below.set3 (g.trans (t3.mono g.size)) s1 _ _ _, x5, y5, x6, y6, rfl, (Own.set3 o5 RL1 _ _ _).mono hw1, (Own.set3 o6 RL3 _ _ _).mono (Nat.le_trans hw1 s2)⟩
end
end Go.Proofs.YtonjbpnpknpbeaaGreatDoor

/- Answers in one form; a variable of a number is given another number. -/
namespace Go.Proofs.YtonjbpnpknpbeaaGreatDoor
set_option linter.unusedVariables false
set_option linter.unusedSimpArgs false
open Go.RowKit

/-- What is told of N by D, where P is asked: an error, or the number. -/
def OutSpec (P : Prop) (N D : Int) (b : Bool) (ns ds : List Int) (err : Int) : Prop :=
  (¬ P ∧ err = 22 ∧ b = false ∧ ns = [] ∧ ds = []) ∨ (P ∧ err = 8 ∧ b = false ∧ ns = [] ∧ ds = [] ∧ Big N D) ∨ (P ∧ err = 0 ∧ RightP b ns ds ∧ sg b (val ns) * D = N * val ds)
theorem OutSpec.unique {P : Prop} {N D : Int} {b c : Bool} {ns ds ms es : List Int} {e f : Int} (hD : P → 0 < D) (h : OutSpec P N D b ns ds e) (k : OutSpec P N D c ms es f) : c = b ∧ ms = ns ∧ es = ds ∧ f = e := by
  rcases h with ⟨hp, rfl, rfl, rfl, rfl⟩ | ⟨hp, rfl, rfl, rfl, rfl, hb⟩ | ⟨hp, rfl, hr, hv⟩ <;> rcases k with ⟨kp, rfl, rfl, rfl, rfl⟩ | ⟨kp, rfl, rfl, rfl, rfl, kb⟩ | ⟨kp, rfl, kr, kv⟩
  · exact ⟨rfl, rfl, rfl, rfl⟩
  · exact absurd kp hp
  · exact absurd kp hp
  · exact absurd hp kp
  · exact ⟨rfl, rfl, rfl, rfl⟩
  · exact absurd hb (not_big kr kv (hD hp))
  · exact absurd hp kp
  · exact absurd kb (not_big hr hv (hD hp))
  · obtain ⟨rfl, rfl, rfl⟩ := right_is hr hv (hD hp) kr kv
    exact ⟨rfl, rfl, rfl, rfl⟩
theorem Gives.spec {w w' : World} {P : Prop} {N D : Int} {e : Ending} (h : Gives w P N D e w') : ∃ b ns ds err, Hid (OutSpec P N D b ns ds err) ∧ RAns w b ns ds err e w' := by
  obtain ⟨hb, b, x1, n, y1, x2, m, y2, err, rfl, hO⟩ := h
  rcases hO.out with ⟨hp, rfl, rfl, rfl, rfl, rfl, rfl, rfl, rfl⟩ | ⟨hp, rfl, rfl, rfl, rfl, rfl, rfl, rfl, rfl, hbig⟩ | ⟨hp, rfl, ns, ds, rfl, rfl, on, od, hr, hv⟩
  · exact ⟨false, [], [], 22, Or.inl ⟨hp, rfl, rfl, rfl, rfl⟩, hb, none, 0, none, 0, rfl, nil_rd _, nil_rd _⟩
  · exact ⟨false, [], [], 8, Or.inr (Or.inl ⟨hp, rfl, rfl, rfl, rfl, hbig⟩), hb, none, 0, none, 0, rfl, nil_rd _, nil_rd _⟩
  · exact ⟨b, ns, ds, 0, Or.inr (Or.inr ⟨hp, rfl, hr, hv⟩), hb, x1, y1, x2, y2, rfl, on.rd, od.rd⟩
/-- Two answers of the same: the second one has the first one's numbers. -/
theorem Gives.same {w w' : World} {P : Prop} {N D : Int} {e : Ending} {b : Bool} {ns ds : List Int} {err : Int} (hD : P → 0 < D) (HS : Hid (OutSpec P N D b ns ds err)) (h : Gives w P N D e w') : RAns w b ns ds err e w' := by
  obtain ⟨c, ms, es, f, HK, hr⟩ := h.spec
  obtain ⟨rfl, rfl, rfl, rfl⟩ := OutSpec.unique hD HS.out HK.out
  exact hr
theorem Gives.of {w w' : World} {P : Prop} {N D M E : Int} {e : Ending} (h : Gives w P N D e w') (hE : P → M = N ∧ E = D) : Gives w P M E e w' := by
  obtain ⟨k1, c, z1, n, z2, z3, m, z4, er, he, hO⟩ := h
  refine ⟨k1, c, z1, n, z2, z3, m, z4, er, he, ?_⟩
  rcases hO.out with h | ⟨h, h2⟩ | ⟨h, h2⟩
  · exact Or.inl h
  · obtain ⟨rfl, rfl⟩ := hE h; exact Or.inr (Or.inl ⟨h, h2⟩)
  · obtain ⟨rfl, rfl⟩ := hE h; exact Or.inr (Or.inr ⟨h, h2⟩)

section
variable {w : World} {b c : Bool} {a1 a2 a3 a4 : Option Addr} {c1 c2 c3 c4 : Nat} {ns ds ms es : List Int} {j k ty : Nat} {x1 x2 : Option Addr} {n1 n2 m1 m2 : Nat}
theorem cell_set3 (h : j ≠ k) (o : Nat) (x y z : Value) : (((w.setCell ⟨k, 0, none⟩ x).setCell ⟨k, 1, none⟩ y).setCell ⟨k, 2, none⟩ z).cell? ⟨j, o, none⟩ = w.cell? ⟨j, o, none⟩ := by
  have hne : ¬ k = j := fun e => h e.symm
  simp [World.setCell, World.cell?, Array.getElem?_modify, hne]
theorem Rd.put {B : Nat} {v : Value} {xs : List Int} (h : Rd B w v xs) (hk : Box3 w k ty (.bool b) (.slice x1 n1 m1) (.slice x2 n2 m2)) (x y z : Value) : Rd B (((w.setCell ⟨k, 0, none⟩ x).setCell ⟨k, 1, none⟩ y).setCell ⟨k, 2, none⟩ z) v xs := by
  obtain ⟨hl, a, cap, hv, h1, h2, h3, h4⟩ := h
  refine ⟨hl, a, cap, hv, h1, h2, h3, ?_⟩
  rcases h4 with h4 | ⟨b', off, ha, hb, hc⟩
  · exact Or.inl h4
  · by_cases h0 : xs.length = 0
    · exact Or.inl h0
    · refine Or.inr ⟨b', off, ha, hb, fun i hi => ?_⟩
      rw [cell_set3 ?_]
      · exact hc i hi
      · rintro rfl
        have h5 := hc 0 (by omega)
        unfold Box3 at hk
        rw [Nat.add_zero] at h5
        match off, h5 with
        | 0, h5 => simp [World.cell?, hk] at h5
        | 1, h5 => simp [World.cell?, hk] at h5
        | 2, h5 => simp [World.cell?, hk] at h5
        | o + 3, h5 => simp [World.cell?, hk] at h5
theorem NVar.put (P : NVar w k b a1 ns c1 a2 ds c2) (h1 : Rd w.heap.size w (.slice a3 ms.length c3) ms) (h2 : Rd w.heap.size w (.slice a4 es.length c4) es) :
    NVar (((w.setCell ⟨k, 0, none⟩ (.bool c)).setCell ⟨k, 1, none⟩ (.slice a3 ms.length c3)).setCell ⟨k, 2, none⟩ (.slice a4 es.length c4)) k c a3 ms c3 a4 es c4 := by
  have szz : (((w.setCell ⟨k, 0, none⟩ (.bool c)).setCell ⟨k, 1, none⟩ (.slice a3 ms.length c3)).setCell ⟨k, 2, none⟩ (.slice a4 es.length c4)).heap.size = w.heap.size := by simp [World.setCell]
  refine ⟨by rw [szz]; exact P.lt, P.box.set _ _ _, ?_, ?_⟩
  · rw [szz]; exact h1.put P.box _ _ _
  · rw [szz]; exact h2.put P.box _ _ _
theorem NVar.by' (X : NVar w j b a1 ns c1 a2 ds c2) (P : NVar w k c a3 ms c3 a4 es c4) (h : j ≠ k) (x y z : Value) : NVar (((w.setCell ⟨k, 0, none⟩ x).setCell ⟨k, 1, none⟩ y).setCell ⟨k, 2, none⟩ z) j b a1 ns c1 a2 ds c2 := by
  have szz : (((w.setCell ⟨k, 0, none⟩ x).setCell ⟨k, 1, none⟩ y).setCell ⟨k, 2, none⟩ z).heap.size = w.heap.size := by simp [World.setCell]
  refine ⟨by rw [szz]; exact X.lt, X.box.other h _ _ _, ?_, ?_⟩
  · rw [szz]; exact X.rn.put P.box _ _ _
  · rw [szz]; exact X.rd.put P.box _ _ _
end
end Go.Proofs.YtonjbpnpknpbeaaGreatDoor

/- rat.Neg, Abs, Ceil. -/
namespace Go.Proofs.YtonjbpnpknpbeaaGreatDoor
set_option linter.unusedVariables false
set_option linter.unusedSimpArgs false
open Go.RowKit

/-- A right number with another sign is right. -/
theorem right_with {b : Bool} {ns ds : List Int} (c : Bool) (h : RightP b ns ds) : RightP (c && decide (0 < ns.length)) ns ds ∧ sg (c && decide (0 < ns.length)) (val ns) = sg c (val ns) := by
  obtain ⟨l1, l2, c1, c2, hb, hd, hg⟩ := h
  by_cases h0 : ns.length = 0
  · have hv := (can_zero c1).1 h0
    have hf : (c && decide (0 < ns.length)) = false := by rw [h0]; simp
    rw [hf]
    refine ⟨⟨l1, l2, c1, c2, ?_, hd, hg⟩, ?_⟩
    · rintro ⟨h, _⟩; cases h
    · rw [hv, sg_zero, sg_zero]
  · have hf : (c && decide (0 < ns.length)) = c := by rw [decide_eq_true (by omega)]; simp
    rw [hf]
    exact ⟨⟨l1, l2, c1, c2, fun h => h0 h.2, hd, hg⟩, rfl⟩
theorem sg_neg (b : Bool) (x : Int) : sg b (-x) = -(sg b x) := by unfold sg; cases b <;> simp
theorem ceil_whole (b : Bool) (n d : Int) (hn : 0 ≤ n) (hd : 0 < d) : sg b (wholeM (!b) n d) = -((-(sg b n)) / d) := by
  have h := floor_whole (!b) n d hn hd
  rw [sg_not, sg_not] at h
  omega
theorem big_neg {N D : Int} (h : Big N D) : Big (-N) D := by
  obtain ⟨b, ns, ds, h1, h2, h3, h4, h5, h6⟩ := h
  exact ⟨!b, ns, ds, h1, h2, h3, h4, by rw [sg_not, Int.neg_mul, Int.neg_mul, h5], h6⟩
/-- A right number is told. -/
theorem gives_num {w wF : World} {P : Prop} {N D : Int} {b : Bool} {ns ds : List Int} {x1 x2 : Option Addr} {y1 y2 : Nat} (hP : P) (hb : Below w.heap.size w wF) (on : Own w.heap.size wF (.slice x1 ns.length y1) ns) (od : Own w.heap.size wF (.slice x2 ds.length y2) ds) (hr : RightP b ns ds) (hv : sg b (val ns) * D = N * val ds) :
    Gives w P N D (.returned (.tuple #[.agg #[.bool b, .slice x1 ns.length y1, .slice x2 ds.length y2], .int .i64 0])) wF :=
  ⟨hb, b, x1, ns.length, y1, x2, ds.length, y2, 0, rfl, Or.inr (Or.inr ⟨hP, rfl, ns, ds, rfl, rfl, on, od, hr, hv⟩)⟩

section
variable {w : World} {b : Bool} {a1 a2 : Option Addr} {c1 c2 : Nat} {ns ds : List Int}
end
end Go.Proofs.YtonjbpnpknpbeaaGreatDoor

/- rat.IsInt, ToInt. -/
namespace Go.Proofs.YtonjbpnpknpbeaaGreatDoor
set_option linter.unusedVariables false
set_option linter.unusedSimpArgs false
open Go.RowKit

/-- Is a number right and whole? -/
def IsWhole (b : Bool) (ns ds : List Int) : Prop := RightP b ns ds ∧ ds = [1]
/-- What is told of a whole number as an int. -/
def IntTold (P : Prop) (z n : Int) (ok : Bool) : Prop := (ok = true ∧ P ∧ -9223372036854775808 ≤ z ∧ z < 9223372036854775808 ∧ n = z) ∨ (ok = false ∧ n = 0 ∧ ¬ (P ∧ -9223372036854775808 ≤ z ∧ z < 9223372036854775808))
theorem IntTold.unique {P : Prop} {z n m : Int} {ok fine : Bool} (h : IntTold P z n ok) (k : IntTold P z m fine) : m = n ∧ fine = ok := by
  rcases h with ⟨rfl, hp, h1, h2, rfl⟩ | ⟨rfl, rfl, h⟩ <;> rcases k with ⟨rfl, kp, k1, k2, rfl⟩ | ⟨rfl, rfl, k⟩
  · exact ⟨rfl, rfl⟩
  · exact absurd ⟨hp, h1, h2⟩ k
  · exact absurd ⟨kp, k1, k2⟩ h
  · exact ⟨rfl, rfl⟩

section
variable {w : World} {b : Bool} {a1 a2 : Option Addr} {c1 c2 : Nat} {ns ds : List Int}
end
end Go.Proofs.YtonjbpnpknpbeaaGreatDoor

/- The document's Sign, OfInt, IsInt. -/
namespace Go.Proofs.YtonjbpnpknpbeaaGreatDoor
set_option linter.unusedVariables false
set_option linter.unusedSimpArgs false
open Go.RowKit

theorem refOf_num (n : Int) (h0 : 0 ≤ n) (h1 : n < 18446744073709551616) (w : World) : Calls Tryz.prog 52 #[.int .u64 n] w fun e w' => ∃ ns, can ns ∧ Hid (val ns = n) ∧ ns.length ≤ 2 ∧ Makes w e w' ns := by
  refine (refOf_any n h0 h1 w).mono ?_
  intro e w' h
  have hc := of_can n h0 h1
  exact ⟨_, hc.1, hc.2.1, hc.2.2, h⟩

section
variable {w : World} {bx : Bool} {a1 a2 : Option Addr} {c1 c2 : Nat} {xn xd : List Int}
end

set_option maxRecDepth 100000 in
set_option maxHeartbeats 3200000 in
theorem refOfInt_any (k : Int) (h0 : -9223372036854775808 ≤ k) (h1 : k < 9223372036854775808) (w : World) : Calls Tryz.prog 26 #[.int .i64 k] w fun e w' => WholeNum w k e w' := by
  have R := rvar_new w
  have g := below_alloc w (.cells #[.bool false, .slice none 0 0, .slice none 0 0] 24)
  go_enter Tryz.func26, Tryz.ntmps26
  by_cases hk : k < 0
  · have hkb : decide (k < 0) = true := decide_eq_true hk
    have hw : IntKind.u64.wrap (-IntKind.u64.wrap k) = -k := by rw [IntKind.wrap_u64, IntKind.wrap_u64]; omega
    go_wp2_with fail
    generalize hA : w.alloc (.cells #[.bool false, .slice none 0 0, .slice none 0 0] 24) = v at *
    clear hA
    refine (refOf_num (-k) (by omega) (by omega) _).mono ?_
    rintro e wa ⟨ns, cn, vn, ln, x1, y1, rfl, o1, ka⟩
    go_wp2_with fail
    refine (refOne_any _).mono ?_
    rintro e wb ⟨ds, x2, y2, HD, rfl, o2, kb⟩
    have t : Below v.heap.size v wb := ka.trans (kb.mono ka.size)
    have Rb := R.below t
    have q0 := Rb.box.c0
    have q1 := Rb.box.c1
    have q2 := Rb.box.c2
    have p0 := Rb.box.f0
    have p1 := Rb.box.f1
    have p2 := Rb.box.f2
    go_wp2
    have hR3 := Rb.box.set (.bool true) (.slice x1 ns.length y1) (.slice x2 ds.length y2)
    have r0 := hR3.c0
    have r1 := hR3.c1
    have r2 := hR3.c2
    refine bodyPost_ret (v := .agg #[.bool true, .slice x1 ns.length y1, .slice x2 ds.length y2]) (by simp [results, Tryz.results26, go_sem, r0, r1, r2]) rfl ?_
    exact ⟨Below.set3 (g.trans (t.mono g.size)) (Nat.le_refl _) _ _ _, true, ns, ds, x1, y1, x2, y2, ⟨hkb.symm, cn, by rw [vn.out, if_pos hk], ln, HD.out⟩, rfl, (Own.set3 (o1.below kb (Nat.le_refl _)) R.lt _ _ _).mono g.size, (Own.set3 (o2.mono ka.size) R.lt _ _ _).mono g.size⟩
  · have hkb : decide (k < 0) = false := decide_eq_false hk
    go_wp2_with fail
    generalize hA : w.alloc (.cells #[.bool false, .slice none 0 0, .slice none 0 0] 24) = v at *
    clear hA
    refine (refOf_num k (by omega) (by omega) _).mono ?_
    rintro e wa ⟨ns, cn, vn, ln, x1, y1, rfl, o1, ka⟩
    go_wp2_with fail
    refine (refOne_any _).mono ?_
    rintro e wb ⟨ds, x2, y2, HD, rfl, o2, kb⟩
    have t : Below v.heap.size v wb := ka.trans (kb.mono ka.size)
    have Rb := R.below t
    have q0 := Rb.box.c0
    have q1 := Rb.box.c1
    have q2 := Rb.box.c2
    have p0 := Rb.box.f0
    have p1 := Rb.box.f1
    have p2 := Rb.box.f2
    go_wp2
    have hR3 := Rb.box.set (.bool false) (.slice x1 ns.length y1) (.slice x2 ds.length y2)
    have r0 := hR3.c0
    have r1 := hR3.c1
    have r2 := hR3.c2
    refine bodyPost_ret (v := .agg #[.bool false, .slice x1 ns.length y1, .slice x2 ds.length y2]) (by simp [results, Tryz.results26, go_sem, r0, r1, r2]) rfl ?_
    exact ⟨Below.set3 (g.trans (t.mono g.size)) (Nat.le_refl _) _ _ _, false, ns, ds, x1, y1, x2, y2, ⟨hkb.symm, cn, by rw [vn.out, if_neg (by omega)], ln, HD.out⟩, rfl, (Own.set3 (o1.below kb (Nat.le_refl _)) R.lt _ _ _).mono g.size, (Own.set3 (o2.mono ka.size) R.lt _ _ _).mono g.size⟩

theorem one_cmp {ds os : List Int} (ho : os = [1]) (cd : can ds) : cmpI (val ds) (val os) = 0 ↔ ds = [1] := by
  subst ho
  rw [cmpI_zero', one_val]
  constructor
  · intro h
    exact can_inj cd can_one (by rw [h, one_val])
  · rintro rfl
    exact one_val
section
variable {w : World} {b : Bool} {a1 a2 : Option Addr} {c1 c2 : Nat} {ns ds : List Int}
end
end Go.Proofs.YtonjbpnpknpbeaaGreatDoor

/- ref01.Same of any two lists. -/
namespace Go.Proofs.YtonjbpnpknpbeaaGreatDoor
set_option linter.unusedVariables false
set_option linter.unusedSimpArgs false
open Go.RowKit

set_option maxHeartbeats 1600000 in
theorem same_no (b1 o1 c1 b2 o2 c2 n : Nat) (xs ys : List Int) (w : World) (hb : n ≤ 9223372036854775807)
    (k1 : ∀ j, j < n → w.cell? ⟨b1, o1 + j, none⟩ = some (.int .u32 (xs.getD j 0)))
    (k2 : ∀ j, j < n → w.cell? ⟨b2, o2 + j, none⟩ = some (.int .u32 (ys.getD j 0))) (hne : ¬ ∀ j, j < n → xs.getD j 0 = ys.getD j 0) :
    Calls Tryz.prog 34 #[.slice (some ⟨b1, o1, none⟩) n c1, .slice (some ⟨b2, o2, none⟩) n c2] w fun e w' => e = .returned (.bool false) ∧ Below w.heap.size w w' := by
  have K1 : Hid (∀ j, j < n → w.cell? ⟨b1, o1 + j, none⟩ = some (.int .u32 (xs.getD j 0))) := k1
  have K2 : Hid (∀ j, j < n → w.cell? ⟨b2, o2 + j, none⟩ = some (.int .u32 (ys.getD j 0))) := k2
  have HN : Hid (¬ ∀ j, j < n → xs.getD j 0 = ys.getD j 0) := hne
  clear k1 k2 hne
  go_enter Tryz.func34, Tryz.ntmps34
  go_wp2
  go_loopw [5] (fun s wr => (∃ q, wr = w.drewN q) ∧ ∃ j : Nat, j ≤ n ∧ s = .int .i64 j ∧ Hid (∀ i, i < j → xs.getD i 0 = ys.getD i 0)) (fun s _ => n - (intOf s).toNat)
  case atStart => exact ⟨⟨0, rfl⟩, 0, Nat.zero_le _, rfl, fun i hi => by omega⟩
  case round =>
    obtain ⟨⟨q, rfl⟩, j, hj, rfl, HE⟩ := hrel
    by_cases hlt : j < n
    · have g1 := K1.out j hlt
      have g2 := K2.out j hlt
      by_cases hpp : xs.getD j 0 = ys.getD j 0
      · have HE2 : Hid (∀ i, i < j + 1 → xs.getD i 0 = ys.getD i 0) := by
          intro i hi
          by_cases h : i = j
          · subst h; exact hpp
          · exact HE.out i (by omega)
        rw [← hpp] at g2
        clear hpp
        generalize xs.getD j 0 = p at *
        go_wp2
        go_quiet (fail)
        go_wp2
        go_roundw
        case rel => exact ⟨⟨_, rfl⟩, j + 1, by omega, by go_num, HE2⟩
        case measure => simp [intOf]; omega
      · generalize xs.getD j 0 = p at *
        generalize ys.getD j 0 = p' at *
        have hpb : (p != p') = true := by rw [bne_iff_ne]; exact hpp
        have hpc : (p == p') = false := by rw [beq_eq_false_iff_ne]; exact hpp
        go_wp2
        go_quiet (fail)
        go_wp2
        go_ret
        exact ⟨rfl, below_drewN' (below_drewN' (Below.refl _ _) _) _⟩
    · exact absurd (fun i hi => HE.out i (by omega)) HN.out

set_option maxHeartbeats 800000 in
theorem same_len (a1 a2 : Option Addr) (n m c1 c2 : Nat) (w : World) (h : ¬ n = m) :
    Calls Tryz.prog 34 #[.slice a1 n c1, .slice a2 m c2] w fun e w' => e = .returned (.bool false) ∧ w = w' := by
  have hb : ((n : Int) != (m : Int)) = true := by rw [bne_iff_ne]; omega
  have hc : ((n : Int) == (m : Int)) = false := by rw [beq_eq_false_iff_ne]; omega
  go_enter Tryz.func34, Tryz.ntmps34
  go_wp2
  go_ret
  exact ⟨rfl, rfl⟩

theorem refSame_any {B B' : Nat} {w : World} {v1 v2 : Value} {xs ys : List Int} (h1 : Rd B w v1 xs) (h2 : Rd B' w v2 ys) :
    Calls Tryz.prog 34 #[v1, v2] w fun e w' => e = .returned (.bool (decide (xs = ys))) ∧ Below w.heap.size w w' := by
  by_cases hxy : xs = ys
  · subst hxy
    rw [decide_eq_true rfl]
    exact same_rd h1 h2
  · rw [decide_eq_false hxy]
    obtain ⟨_, a1, c1, rfl, i1, j1, _, f1⟩ := h1
    obtain ⟨_, a2, c2, rfl, i2, j2, _, f2⟩ := h2
    by_cases hl : xs.length = ys.length
    · by_cases h0 : xs.length = 0
      · exact absurd ((List.length_eq_zero_iff.1 h0).trans (List.length_eq_zero_iff.1 (hl ▸ h0)).symm) hxy
      · rcases f1 with f1 | ⟨b1, o1, rfl, _, k1⟩
        · exact absurd f1 h0
        rcases f2 with f2 | ⟨b2, o2, rfl, _, k2⟩
        · exact absurd (hl.trans f2) h0
        rw [← hl]
        refine (same_no b1 o1 c1 b2 o2 c2 xs.length xs ys w (by omega) k1 (fun j hj => k2 j (by omega)) ?_).mono ?_
        · intro h
          refine hxy (List.ext_getElem hl fun i h1 h2 => ?_)
          have := h i h1
          simpa [List.getD, h1, h2] using this
        · exact fun e w' h => h
    · refine (same_len a1 a2 xs.length ys.length c1 c2 w hl).mono ?_
      rintro e w' ⟨rfl, rfl⟩
      exact ⟨rfl, Below.refl _ _⟩
end Go.Proofs.YtonjbpnpknpbeaaGreatDoor

/- The document's ToInt. -/
namespace Go.Proofs.YtonjbpnpknpbeaaGreatDoor
set_option linter.unusedVariables false
set_option linter.unusedSimpArgs false
open Go.RowKit

theorem least_can : can [0, 2147483648] := by
  refine ⟨?_, Or.inr (by decide)⟩
  intro x hx
  rcases List.mem_cons.1 hx with rfl | hx
  · omega
  · rcases List.mem_cons.1 hx with rfl | hx
    · omega
    · cases hx
theorem least_rd (w : World) : Rd (w.alloc (.cells #[.int .u32 0, .int .u32 2147483648] 70)).heap.size (w.alloc (.cells #[.int .u32 0, .int .u32 2147483648] 70)) (.slice (some ⟨w.heap.size, 0, none⟩) 2 2) [0, 2147483648] := by
  refine ⟨least_can.1, some ⟨w.heap.size, 0, none⟩, 2, rfl, by simp, by omega, (fun h => by cases h), Or.inr ⟨w.heap.size, 0, rfl, by simp, fun j hj => ?_⟩⟩
  have hh := heap_alloc_new w (.cells #[.int .u32 0, .int .u32 2147483648] 70)
  match j, hj with
  | 0, _ => unfold World.cell?; dsimp only; rw [hh]; rfl
  | 1, _ => unfold World.cell?; dsimp only; rw [hh]; rfl
section
variable {w : World} {b : Bool} {a1 a2 : Option Addr} {c1 c2 : Nat} {ns ds : List Int}
end
end Go.Proofs.YtonjbpnpknpbeaaGreatDoor

/- The walk over RatInts: whole numbers are told as ints. -/
namespace Go.Proofs.YtonjbpnpknpbeaaGreatDoor
set_option linter.unusedVariables false
set_option linter.unusedSimpArgs false
open Go.RowKit

theorem WholeIs.unique {k : Int} {b c : Bool} {ns ds ms es : List Int} (h : WholeIs k b ns ds) (h' : WholeIs k c ms es) : c = b ∧ ms = ns ∧ es = ds := by
  obtain ⟨hb, cn, vn, _, hd⟩ := h
  obtain ⟨hb', cn', vn', _, hd'⟩ := h'
  exact ⟨by rw [hb, hb'], can_inj cn' cn (by rw [vn, vn']), by rw [hd, hd']⟩
theorem told_whole {k n : Int} {ok b : Bool} {ns ds : List Int} (h : WholeIs k b ns ds) (h0 : -9223372036854775808 ≤ k) (h1 : k < 9223372036854775808) (ht : IntTold (IsWhole b ns ds) (sg b (val ns)) n ok) : n = k ∧ ok = true := by
  have hs := h.sg
  rw [hs.1] at ht
  rcases ht with ⟨hk, _, _, _, hn⟩ | ⟨_, _, hno⟩
  · exact ⟨hn, hk⟩
  · exact absurd ⟨⟨h.right, h.2.2.2.2⟩, h0, h1⟩ hno
theorem signs_same {P : Prop} {b : Bool} {ns : List Int} {r s : Int} (h : Hid ((¬ P → r = 0) ∧ (P → r = cmpI (sg b (val ns)) 0))) (k : Hid ((¬ P → s = 0) ∧ (P → s = cmpI (sg b (val ns)) 0))) : s = r := by
  by_cases hP : P
  · rw [h.out.2 hP, k.out.2 hP]
  · rw [h.out.1 hP, k.out.1 hP]

theorem tabIs_drew' {w v : World} (h : Lib.TabIs Tryz.prog w "internal/strconv.uint64pow10" .u64 Lib.pow10Tab) (g : Below w.heap.size w v) : Lib.TabIs Tryz.prog v.drew "internal/strconv.uint64pow10" .u64 Lib.pow10Tab := tabIs_below (tabIs_below h g) (⟨rfl, rfl, rfl, Nat.le_refl _, fun _ _ => rfl⟩ : Below v.heap.size v v.drew)

end Go.Proofs.YtonjbpnpknpbeaaGreatDoor

/- The document's signed: a below or not, and b, together. -/
namespace Go.Proofs.YtonjbpnpknpbeaaGreatDoor
set_option linter.unusedVariables false
set_option linter.unusedSimpArgs false
open Go.RowKit

/-- Limbs and a sign are answered: together they are N. -/
def Signed (w : World) (N : Int) (L : Nat) (e : Ending) (w' : World) : Prop :=
  Below w.heap.size w w' ∧ ∃ zs a c b, e = .returned (.tuple #[.slice a zs.length c, .bool b]) ∧ can zs ∧ zs.length ≤ L ∧ Hid (sg b (val zs) = N) ∧ Own w.heap.size w' (.slice a zs.length c) zs

theorem cmp_ge {a b : Int} (h : b ≤ a) : decide (cmpI a b ≥ 0) = true := by
  rw [decide_eq_true_iff]; unfold cmpI; split
  · omega
  · split <;> omega
theorem cmp_nge {a b : Int} (h : a < b) : decide (cmpI a b ≥ 0) = false := by
  rw [decide_eq_false_iff_not, cmpI_lt h]; omega

section
variable {w : World} {b u : Bool} {a1 a2 : Option Addr} {c1 c2 : Nat} {xs ys : List Int}
set_option maxRecDepth 100000 in
set_option maxHeartbeats 3200000 in
theorem refSigned_any (h1 : Rd w.heap.size w (.slice a1 xs.length c1) xs) (h2 : Rd w.heap.size w (.slice a2 ys.length c2) ys) (L : Nat) (l1 : xs.length ≤ L) (l2 : ys.length ≤ L) (hL : L ≤ 1000000) (cx : can xs) (cy : can ys) :
    Calls Tryz.prog 42 #[.slice a1 xs.length c1, .bool b, .slice a2 ys.length c2, .bool u] w fun e w' => Signed w (sg b (val xs) + sg u (val ys)) (L + 1) e w' := by
  have HC : Hid (can xs ∧ can ys ∧ 0 ≤ val xs ∧ 0 ≤ val ys) := ⟨cx, cy, (val_bound cx.1).1, (val_bound cy.1).1⟩
  clear cx cy
  go_enter Tryz.func42, Tryz.ntmps42
  by_cases hbu : b = u
  · subst hbu
    have hbb : (b == b) = true := by simp
    go_wp2_with fail
    refine (refAdd_any h1 (Nat.le_refl _) h2 (Nat.le_refl _) (by omega) (by omega)).mono ?_
    rintro e wa ⟨zs, cz, vz, lz, a, c, rfl, o, k⟩
    have HV : Hid (sg b (val zs) = sg b (val xs) + sg b (val ys)) := by
      unfold Hid; rw [vz]; unfold sg; split <;> omega
    clear vz
    go_wp2
    refine bodyPost_ret (v := .tuple #[.slice a zs.length c, .bool b]) (by simp [results, Tryz.results42, go_sem]) rfl ?_
    exact ⟨k, zs, a, c, b, rfl, cz, by omega, HV, o⟩
  · have hbb : (b == u) = false := by rw [beq_eq_false_iff_ne]; exact hbu
    have HS : Hid (sg b (val xs) + sg u (val ys) = sg b (val xs - val ys) ∧ sg b (val xs) + sg u (val ys) = sg u (val ys - val xs)) := by
      unfold Hid sg
      cases b <;> cases u <;> simp at hbu ⊢ <;> omega
    clear hbu
    go_wp2_with fail
    refine (refCompare_rd h1 h2 (Nat.le_refl _) (by omega) (by omega)).mono ?_
    rintro e wa ⟨rfl, ka⟩
    replace h1 := (h1.below ka).mono ka.size
    replace h2 := (h2.below ka).mono ka.size
    by_cases hle : val ys ≤ val xs
    · have HL : Hid (val ys ≤ val xs) := hle
      have hcm := cmp_ge hle
      clear hle
      generalize hq : cmpI (val xs) (val ys) = q at *
      clear hq
      go_wp2_with fail
      refine (refMinus_any h1 (Nat.le_refl _) h2 (Nat.le_refl _) (by omega) (by omega)).mono ?_
      rintro e wb ⟨kb, hm⟩
      rw [if_neg (by have := HL.out; omega)] at hm
      obtain ⟨zs, a, c, cz, vz, rfl, oz⟩ := hm
      have lz : zs.length ≤ L := by
        have h5 := (can_len_pw HC.out.1 L).1 l1
        rw [can_len_pw cz, vz]
        have := HC.out
        omega
      have HV : Hid (sg b (val zs) = sg b (val xs) + sg u (val ys)) := by unfold Hid; rw [HS.out.1, vz]
      clear vz
      go_wp2
      refine bodyPost_ret (v := .tuple #[.slice a zs.length c, .bool b]) (by simp [results, Tryz.results42, go_sem]) rfl ?_
      exact ⟨ka.trans (kb.mono ka.size), zs, a, c, b, rfl, cz, by omega, HV, oz.mono ka.size⟩
    · have HL : Hid (val xs < val ys) := by unfold Hid; omega
      have hcm := cmp_nge HL.out
      clear hle
      generalize hq : cmpI (val xs) (val ys) = q at *
      clear hq
      go_wp2_with fail
      refine (refMinus_any h2 (Nat.le_refl _) h1 (Nat.le_refl _) (by omega) (by omega)).mono ?_
      rintro e wb ⟨kb, hm⟩
      rw [if_neg (by have := HL.out; omega)] at hm
      obtain ⟨zs, a, c, cz, vz, rfl, oz⟩ := hm
      have lz : zs.length ≤ L := by
        have h5 := (can_len_pw HC.out.2.1 L).1 l2
        rw [can_len_pw cz, vz]
        have := HC.out
        omega
      have HV : Hid (sg u (val zs) = sg b (val xs) + sg u (val ys)) := by unfold Hid; rw [HS.out.2, vz]
      clear vz
      go_wp2
      refine bodyPost_ret (v := .tuple #[.slice a zs.length c, .bool u]) (by simp [results, Tryz.results42, go_sem]) rfl ?_
      exact ⟨ka.trans (kb.mono ka.size), zs, a, c, u, rfl, cz, by omega, HV, oz.mono ka.size⟩
end
end Go.Proofs.YtonjbpnpknpbeaaGreatDoor

/- The document's Compare. -/
namespace Go.Proofs.YtonjbpnpknpbeaaGreatDoor
set_option linter.unusedVariables false
set_option linter.unusedSimpArgs false
open Go.RowKit

theorem signed_cmp {b : Bool} {zs : List Int} {A B : Int} (cz : can zs) (h : sg b (val zs) = A - B) : (zs.length = 0 → cmpI A B = 0) ∧ (¬ zs.length = 0 → b = true → cmpI A B = -1) ∧ (¬ zs.length = 0 → b = false → cmpI A B = 1) := by
  have hz := can_zero cz
  have hp := (val_bound cz.1).1
  refine ⟨fun h0 => ?_, fun h0 hb => ?_, fun h0 hb => ?_⟩
  · rw [hz.1 h0, sg_zero] at h; exact cmpI_eq (by omega)
  · subst hb
    have h1 : ¬ val zs = 0 := fun e => h0 (hz.2 e)
    have h2 : sg true (val zs) = -(val zs) := by simp [sg]
    exact cmpI_lt (by omega)
  · subst hb
    have h1 : ¬ val zs = 0 := fun e => h0 (hz.2 e)
    rw [sg_false] at h
    exact cmpI_gt (by omega)

section
variable {w : World} {bx cy : Bool} {a1 a2 a3 a4 : Option Addr} {c1 c2 c3 c4 : Nat} {xn xd yn yd : List Int}
end
end Go.Proofs.YtonjbpnpknpbeaaGreatDoor

/- rat.allRight of three. -/
namespace Go.Proofs.YtonjbpnpknpbeaaGreatDoor
set_option linter.unusedVariables false
set_option linter.unusedSimpArgs false
open Go.RowKit

/-- Three numbers lie in a list. -/
structure Three (w : World) (Lb : Nat) (x0 x1 x2 y0 y1 y2 z0 z1 z2 : Value) : Prop where
  lt : Lb < w.heap.size
  k0 : w.cell? ⟨Lb, 0, none⟩ = some x0
  k1 : w.cell? ⟨Lb, 1, none⟩ = some x1
  k2 : w.cell? ⟨Lb, 2, none⟩ = some x2
  k3 : w.cell? ⟨Lb, 3, none⟩ = some y0
  k4 : w.cell? ⟨Lb, 4, none⟩ = some y1
  k5 : w.cell? ⟨Lb, 5, none⟩ = some y2
  k6 : w.cell? ⟨Lb, 6, none⟩ = some z0
  k7 : w.cell? ⟨Lb, 7, none⟩ = some z1
  k8 : w.cell? ⟨Lb, 8, none⟩ = some z2
theorem Three.below {w w' : World} {Lb : Nat} {x0 x1 x2 y0 y1 y2 z0 z1 z2 : Value} (h : Three w Lb x0 x1 x2 y0 y1 y2 z0 z1 z2) (hb : Below w.heap.size w w') : Three w' Lb x0 x1 x2 y0 y1 y2 z0 z1 z2 :=
  ⟨Nat.lt_of_lt_of_le h.lt hb.size, (hb.cell (p := ⟨Lb, 0, none⟩) h.lt).trans h.k0, (hb.cell (p := ⟨Lb, 1, none⟩) h.lt).trans h.k1, (hb.cell (p := ⟨Lb, 2, none⟩) h.lt).trans h.k2, (hb.cell (p := ⟨Lb, 3, none⟩) h.lt).trans h.k3, (hb.cell (p := ⟨Lb, 4, none⟩) h.lt).trans h.k4, (hb.cell (p := ⟨Lb, 5, none⟩) h.lt).trans h.k5, (hb.cell (p := ⟨Lb, 6, none⟩) h.lt).trans h.k6, (hb.cell (p := ⟨Lb, 7, none⟩) h.lt).trans h.k7, (hb.cell (p := ⟨Lb, 8, none⟩) h.lt).trans h.k8⟩
theorem three_new (w : World) (x0 x1 x2 y0 y1 y2 z0 z1 z2 : Value) (t : TypeId) : Three (w.alloc (.cells #[x0, x1, x2, y0, y1, y2, z0, z1, z2] t)) w.heap.size x0 x1 x2 y0 y1 y2 z0 z1 z2 :=
  ⟨by simp, by simp, by simp, by simp, by simp, by simp, by simp, by simp, by simp, by simp⟩
section
variable {Lb : Nat}
variable {w : World} {bt bx cy : Bool} {a1 a2 a3 a4 a5 a6 : Option Addr} {c1 c2 c3 c4 c5 c6 : Nat} {tn td xn xd yn yd : List Int}
set_option maxRecDepth 100000 in
set_option maxHeartbeats 6400000 in
theorem allRight3 (hT : Three w Lb (.bool bt) (.slice a5 tn.length c5) (.slice a6 td.length c6) (.bool bx) (.slice a1 xn.length c1) (.slice a2 xd.length c2) (.bool cy) (.slice a3 yn.length c3) (.slice a4 yd.length c4)) (h1 : Rd w.heap.size w (.slice a5 tn.length c5) tn) (h2 : Rd w.heap.size w (.slice a6 td.length c6) td) (h3 : Rd w.heap.size w (.slice a1 xn.length c1) xn) (h4 : Rd w.heap.size w (.slice a2 xd.length c2) xd) (h5 : Rd w.heap.size w (.slice a3 yn.length c3) yn) (h6 : Rd w.heap.size w (.slice a4 yd.length c4) yd) :
    Calls Tryz.prog 28 #[.slice (some ⟨Lb, 0, none⟩) 3 3] w fun e w' => TellsP (RightP bt tn td ∧ RightP bx xn xd ∧ RightP cy yn yd) e ∧ Below w.heap.size w w' := by
  have hT0 := hT
  have b0 := Below.refl w.heap.size w
  obtain ⟨lt, k0, k1, k2, k3, k4, k5, k6, k7, k8⟩ := hT
  go_enter Tryz.func28, Tryz.ntmps28
  go_wp2
  refine wp_loop_rounds 4 ?_
  rw [rounds_succ]
  go_wp2_with fail
  have e0 := below_alloc w (.cells #[.bool bt, .slice a5 tn.length c5, .slice a6 td.length c6] 24)
  have f1 := (h1.below e0).mono e0.size
  have f2 := (h2.below e0).mono e0.size
  refine (right_rat f1 f2 (Nat.le_refl _)).mono ?_
  rintro e wa ⟨⟨r, rfl, hr⟩, ba'⟩
  have ba := e0.trans (ba'.mono e0.size)
  clear e0 f1 f2 ba'
  replace b0 := b0.trans (ba.mono b0.size)
  replace h3 := (h3.below ba).mono ba.size
  replace h4 := (h4.below ba).mono ba.size
  replace h5 := (h5.below ba).mono ba.size
  replace h6 := (h6.below ba).mono ba.size
  cases r with
  | false =>
    have HX : Hid (¬ RightP bt tn td) := fun h => by have := hr.2 h; cases this
    clear hr
    go_wp2
    go_ret
    exact ⟨TellsP.no (fun h => HX.out h.1), b0⟩
  | true =>
    have H0 : Hid (RightP bt tn td) := hr.1 rfl
    clear hr
    replace hT0 := hT0.below ba
    clear k0 k1 k2 k3 k4 k5 k6 k7 k8 lt
    have hT9 := hT0
    obtain ⟨lt, k0, k1, k2, k3, k4, k5, k6, k7, k8⟩ := hT9
    clear ba
    go_wp2
    rw [rounds_succ]
    go_wp2_with fail
    have e0 := below_alloc wa (.cells #[.bool bx, .slice a1 xn.length c1, .slice a2 xd.length c2] 24)
    have f1 := (h3.below e0).mono e0.size
    have f2 := (h4.below e0).mono e0.size
    refine (right_rat f1 f2 (Nat.le_refl _)).mono ?_
    rintro e wb ⟨⟨r, rfl, hr⟩, ba'⟩
    have ba := e0.trans (ba'.mono e0.size)
    clear e0 f1 f2 ba'
    replace b0 := b0.trans (ba.mono b0.size)
    replace h5 := (h5.below ba).mono ba.size
    replace h6 := (h6.below ba).mono ba.size
    cases r with
    | false =>
      have HX : Hid (¬ RightP bx xn xd) := fun h => by have := hr.2 h; cases this
      clear hr
      go_wp2
      go_ret
      exact ⟨TellsP.no (fun h => HX.out h.2.1), b0⟩
    | true =>
      have H1 : Hid (RightP bx xn xd) := hr.1 rfl
      clear hr
      replace hT0 := hT0.below ba
      clear k0 k1 k2 k3 k4 k5 k6 k7 k8 lt
      have hT9 := hT0
      obtain ⟨lt, k0, k1, k2, k3, k4, k5, k6, k7, k8⟩ := hT9
      clear ba
      go_wp2
      rw [rounds_succ]
      go_wp2_with fail
      have e0 := below_alloc wb (.cells #[.bool cy, .slice a3 yn.length c3, .slice a4 yd.length c4] 24)
      have f1 := (h5.below e0).mono e0.size
      have f2 := (h6.below e0).mono e0.size
      refine (right_rat f1 f2 (Nat.le_refl _)).mono ?_
      rintro e wc ⟨⟨r, rfl, hr⟩, ba'⟩
      have ba := e0.trans (ba'.mono e0.size)
      clear e0 f1 f2 ba'
      replace b0 := b0.trans (ba.mono b0.size)
      cases r with
      | false =>
        have HX : Hid (¬ RightP cy yn yd) := fun h => by have := hr.2 h; cases this
        clear hr
        go_wp2
        go_ret
        exact ⟨TellsP.no (fun h => HX.out h.2.2), b0⟩
      | true =>
        have H2 : Hid (RightP cy yn yd) := hr.1 rfl
        clear hr
        go_wp2
        rw [rounds_succ]
        go_wp2
        go_ret
        exact ⟨TellsP.yes ⟨H0.out, H1.out, H2.out⟩, b0⟩
end
end Go.Proofs.YtonjbpnpknpbeaaGreatDoor

/- What a sum, and a product, of three answers: two such answers are one. -/
namespace Go.Proofs.YtonjbpnpknpbeaaGreatDoor
set_option linter.unusedVariables false
set_option linter.unusedSimpArgs false
open Go.RowKit

/-- What one step makes of two numbers: a sum, or a product. -/
def stepN (plus bx : Bool) (xn xd : List Int) (cy : Bool) (yn yd : List Int) : Int :=
  if plus = true then sg bx (val xn) * val yd + sg cy (val yn) * val xd else sg bx (val xn) * sg cy (val yn)
/-- Two steps, one behind the other. -/
def FoldSpec (P : Prop) (plus bx : Bool) (xn xd : List Int) (cy : Bool) (yn yd : List Int) (dz : Bool) (zn zd : List Int) (b : Bool) (ns ds : List Int) (err : Int) : Prop :=
  (¬ P ∧ err = 22 ∧ b = false ∧ ns = [] ∧ ds = []) ∨
  (P ∧ Big (stepN plus bx xn xd cy yn yd) (val xd * val yd) ∧ err = 8 ∧ b = false ∧ ns = [] ∧ ds = []) ∨
  (P ∧ ∃ b1 n1 d1, RightP b1 n1 d1 ∧ sg b1 (val n1) * (val xd * val yd) = stepN plus bx xn xd cy yn yd * val d1 ∧ OutSpec True (stepN plus b1 n1 d1 dz zn zd) (val d1 * val zd) b ns ds err)
theorem FoldSpec.unique {P : Prop} {plus bx cy dz : Bool} {xn xd yn yd zn zd : List Int} {b c : Bool} {ns ds ms es : List Int} {e f : Int} (hD : P → 0 < val xd ∧ 0 < val yd ∧ 0 < val zd) (h : FoldSpec P plus bx xn xd cy yn yd dz zn zd b ns ds e) (k : FoldSpec P plus bx xn xd cy yn yd dz zn zd c ms es f) : c = b ∧ ms = ns ∧ es = ds ∧ f = e := by
  rcases h with ⟨hp, rfl, rfl, rfl, rfl⟩ | ⟨hp, hb, rfl, rfl, rfl, rfl⟩ | ⟨hp, b1, n1, d1, hr, hv, ho⟩
  · rcases k with ⟨kp, rfl, rfl, rfl, rfl⟩ | ⟨kp, _⟩ | ⟨kp, _⟩
    · exact ⟨rfl, rfl, rfl, rfl⟩
    all_goals exact absurd kp hp
  · have hd := Int.mul_pos (hD hp).1 (hD hp).2.1
    rcases k with ⟨kp, _⟩ | ⟨kp, kb, rfl, rfl, rfl, rfl⟩ | ⟨kp, c1, m1, e1, kr, kv, ko⟩
    · exact absurd hp kp
    · exact ⟨rfl, rfl, rfl, rfl⟩
    · exact absurd hb (not_big kr kv hd)
  · have hd := Int.mul_pos (hD hp).1 (hD hp).2.1
    rcases k with ⟨kp, _⟩ | ⟨kp, kb, rfl, rfl, rfl, rfl⟩ | ⟨kp, c1, m1, e1, kr, kv, ko⟩
    · exact absurd hp kp
    · exact absurd kb (not_big hr hv hd)
    · obtain ⟨rfl, rfl, rfl⟩ := right_is hr hv hd kr kv
      exact OutSpec.unique (fun _ => Int.mul_pos (right_pos hr).1 (hD hp).2.2) ho ko
theorem fold_same {w w' : World} {P : Prop} {plus bx cy dz : Bool} {xn xd yn yd zn zd : List Int} {e : Ending} {b : Bool} {ns ds : List Int} {err : Int} (hD : P → 0 < val xd ∧ 0 < val yd ∧ 0 < val zd) (HS : Hid (FoldSpec P plus bx xn xd cy yn yd dz zn zd b ns ds err)) (h : ∃ c ms es f, Hid (FoldSpec P plus bx xn xd cy yn yd dz zn zd c ms es f) ∧ RAns w c ms es f e w') : RAns w b ns ds err e w' := by
  obtain ⟨c, ms, es, f, HK, hr⟩ := h
  obtain ⟨rfl, rfl, rfl, rfl⟩ := FoldSpec.unique hD HS.out HK.out
  exact hr
theorem Three.by' {w : World} {Lb k : Nat} {x0 x1 x2 y0 y1 y2 z0 z1 z2 u0 u1 u2 : Value} (h : Three w Lb x0 x1 x2 y0 y1 y2 z0 z1 z2) (hk : Lb ≠ k) : Three (((w.setCell ⟨k, 0, none⟩ u0).setCell ⟨k, 1, none⟩ u1).setCell ⟨k, 2, none⟩ u2) Lb x0 x1 x2 y0 y1 y2 z0 z1 z2 := by
  refine ⟨by simpa [World.setCell] using h.lt, ?_, ?_, ?_, ?_, ?_, ?_, ?_, ?_, ?_⟩ <;> rw [cell_set3 hk]
  · exact h.k0
  · exact h.k1
  · exact h.k2
  · exact h.k3
  · exact h.k4
  · exact h.k5
  · exact h.k6
  · exact h.k7
  · exact h.k8
theorem NVar.result {w : World} {k j : Nat} {b : Bool} {a1 a2 : Option Addr} {ns ds : List Int} {c1 c2 : Nat} (A : NVar w k b a1 ns c1 a2 ds c2) (R : RVar w j) (x y z : Value) : Rd (((w.setCell ⟨j, 0, none⟩ x).setCell ⟨j, 1, none⟩ y).setCell ⟨j, 2, none⟩ z).heap.size (((w.setCell ⟨j, 0, none⟩ x).setCell ⟨j, 1, none⟩ y).setCell ⟨j, 2, none⟩ z) (.slice a1 ns.length c1) ns ∧ Rd (((w.setCell ⟨j, 0, none⟩ x).setCell ⟨j, 1, none⟩ y).setCell ⟨j, 2, none⟩ z).heap.size (((w.setCell ⟨j, 0, none⟩ x).setCell ⟨j, 1, none⟩ y).setCell ⟨j, 2, none⟩ z) (.slice a2 ds.length c2) ds := by
  have szz : (((w.setCell ⟨j, 0, none⟩ x).setCell ⟨j, 1, none⟩ y).setCell ⟨j, 2, none⟩ z).heap.size = w.heap.size := by simp [World.setCell]
  rw [szz]
  exact ⟨A.rn.put R.box _ _ _, A.rd.put R.box _ _ _⟩
theorem Rd.put' {w : World} {k ty n1 n2 m1 m2 : Nat} {b : Bool} {x1 x2 : Option Addr} {v : Value} {xs : List Int} (h : Rd w.heap.size w v xs) (hk : Box3 w k ty (.bool b) (.slice x1 n1 m1) (.slice x2 n2 m2)) (x y z : Value) : Rd (((w.setCell ⟨k, 0, none⟩ x).setCell ⟨k, 1, none⟩ y).setCell ⟨k, 2, none⟩ z).heap.size (((w.setCell ⟨k, 0, none⟩ x).setCell ⟨k, 1, none⟩ y).setCell ⟨k, 2, none⟩ z) v xs := by
  have szz : (((w.setCell ⟨k, 0, none⟩ x).setCell ⟨k, 1, none⟩ y).setCell ⟨k, 2, none⟩ z).heap.size = w.heap.size := by simp [World.setCell]
  rw [szz]
  exact h.put hk x y z
end Go.Proofs.YtonjbpnpknpbeaaGreatDoor
