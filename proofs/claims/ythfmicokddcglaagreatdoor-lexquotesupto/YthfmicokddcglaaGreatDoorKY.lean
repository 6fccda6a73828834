/- rat.wholeNextTo, rat.Floor: the whole numbers next to a number. -/
import Derived.Test.YthfmicokddcglaaGreatDoorJ6
import Derived.Test.YthfmicokddcglaaGreatDoorJ7
import Derived.Test.YthfmicokddcglaaGreatDoorJ5
import Derived.Test.YthfmicokddcglaaGreatDoorJ1
namespace Go.Proofs.YthfmicokddcglaaGreatDoor
set_option linter.unusedVariables false
set_option linter.unusedSimpArgs false
open Go.RowKit

/-- A result's variable. -/
structure RVar (w : World) (k : Nat) : Prop where
  lt : k < w.heap.size
  box : Box3 w k 42 (.bool false) (.slice none 0 0) (.slice none 0 0)
theorem RVar.below {w w' : World} {k : Nat} (h : RVar w k) (hb : Below w.heap.size w w') : RVar w' k := ⟨Nat.lt_of_lt_of_le h.lt hb.size, h.box.below hb h.lt⟩
theorem rvar_new (w : World) : RVar (w.alloc (.cells #[.bool false, .slice none 0 0, .slice none 0 0] 42)) w.heap.size := ⟨by simp, box3_new _ _ _ _ _⟩

/-- The size of the whole number next to a number: further away from 0, or nearer. -/
def wholeM (f : Bool) (n d : Int) : Int := n / d + if f = true ∧ ¬ n % d = 0 then 1 else 0

theorem div_unique {n d q r : Int} (h : n = q * d + r) (h0 : 0 ≤ r) (h1 : r < d) : q = n / d ∧ r = n % d := by
  have hd : 0 < d := by omega
  have e1 : n / d = q := by
    rw [h, Int.add_comm, Int.add_mul_ediv_right _ _ (by omega), Int.ediv_eq_zero_of_lt h0 h1]
    omega
  refine ⟨e1.symm, ?_⟩
  have e2 := Int.emod_def n d
  rw [e1] at e2
  rw [e2, h, Int.mul_comm d]
  omega

theorem floor_whole (b : Bool) (n d : Int) (hn : 0 ≤ n) (hd : 0 < d) : sg b (wholeM b n d) = sg b n / d := by
  have hm0 := Int.emod_nonneg n (show d ≠ 0 by omega)
  have hm1 := Int.emod_lt_of_pos n hd
  have he : n / d * d + n % d = n := by rw [Int.mul_comm]; exact Int.mul_ediv_add_emod n d
  unfold wholeM sg
  cases b with
  | false => simp
  | true =>
    by_cases h0 : n % d = 0
    · simp only [h0, not_true_eq_false, and_false, if_false, if_true, Int.add_zero]
      exact (div_unique (r := 0) (by rw [Int.neg_mul]; omega) (by omega) hd).1
    · simp only [h0, not_false_eq_true, and_true, if_true]
      refine (div_unique (r := d - n % d) ?_ (by omega) (by omega)).1
      rw [Int.neg_mul, Int.add_mul]
      omega

theorem one_val : val [(1 : Int)] = 1 := by decide
theorem can_add_one {q r : List Int} (c : can r) : (0 < r.length ↔ ¬ val r = 0) := by
  have := can_zero c
  omega

section
variable {B : Nat} {w : World} {bx : Bool} {a1 a2 : Option Addr} {c1 c2 : Nat} {xn xd : List Int}

end
end Go.Proofs.YthfmicokddcglaaGreatDoor

/- rat.OfInt at every int. -/
namespace Go.Proofs.YthfmicokddcglaaGreatDoor
set_option linter.unusedVariables false
set_option linter.unusedSimpArgs false
open Go.RowKit

theorem of_can (n : Int) (h0 : 0 ≤ n) (h1 : n < 18446744073709551616) : can (tr [n % 4294967296, n / 4294967296]) ∧ val (tr [n % 4294967296, n / 4294967296]) = n ∧ (tr [n % 4294967296, n / 4294967296]).length ≤ 2 := by
  refine ⟨tr_can (fun x hx => by simp at hx; omega), ?_, ?_⟩
  · rw [val_tr]; simp [val]; omega
  · have := tr_length_le [n % 4294967296, n / 4294967296]
    simpa using this
theorem of_num (n : Int) (h0 : 0 ≤ n) (h1 : n < 18446744073709551616) (w : World) : Calls Tryz.prog 70 #[.int .u64 n] w fun e w' => ∃ ns, can ns ∧ Hid (val ns = n) ∧ ns.length ≤ 2 ∧ Makes w e w' ns := by
  refine (of_any n h0 h1 w).mono ?_
  intro e w' h
  have hc := of_can n h0 h1
  exact ⟨_, hc.1, hc.2.1, hc.2.2, h⟩

/-- A whole number as a number. -/
def WholeIs (k : Int) (b : Bool) (ns ds : List Int) : Prop := b = decide (k < 0) ∧ can ns ∧ val ns = (if k < 0 then -k else k) ∧ ns.length ≤ 2 ∧ ds = [1]
theorem WholeIs.right {k : Int} {b : Bool} {ns ds : List Int} (h : WholeIs k b ns ds) : RightP b ns ds := by
  obtain ⟨rfl, cn, vn, ln, rfl⟩ := h
  refine ⟨by omega, by simp, cn, can_one, ?_, by simp, by rw [one_val]; exact gI_one_right _⟩
  rintro ⟨hb, hz⟩
  rw [(can_zero cn).1 hz] at vn
  rw [decide_eq_true_iff] at hb
  rw [if_pos hb] at vn
  omega
theorem WholeIs.sg {k : Int} {b : Bool} {ns ds : List Int} (h : WholeIs k b ns ds) : sg b (val ns) = k ∧ val ds = 1 := by
  obtain ⟨rfl, cn, vn, ln, rfl⟩ := h
  refine ⟨?_, one_val⟩
  rw [vn]
  by_cases hk : k < 0
  · rw [decide_eq_true hk, if_pos hk]; simp [Go.Proofs.YthfmicokddcglaaGreatDoor.sg]
  · rw [decide_eq_false hk, if_neg hk]; rfl
/-- A whole number's answer. -/
def WholeNum (w : World) (k : Int) (e : Ending) (w' : World) : Prop :=
  Below w.heap.size w w' ∧ ∃ b ns ds a1 c1 a2 c2, Hid (WholeIs k b ns ds) ∧ e = .returned (.agg #[.bool b, .slice a1 ns.length c1, .slice a2 ds.length c2]) ∧ Own w.heap.size w' (.slice a1 ns.length c1) ns ∧ Own w.heap.size w' (.slice a2 ds.length c2) ds

set_option maxRecDepth 100000 in
set_option maxHeartbeats 3200000 in
theorem ofInt_any (k : Int) (h0 : -9223372036854775808 ≤ k) (h1 : k < 9223372036854775808) (w : World) : Calls Tryz.prog 99 #[.int .i64 k] w fun e w' => WholeNum w k e w' := by
  have R := rvar_new w
  have g := below_alloc w (.cells #[.bool false, .slice none 0 0, .slice none 0 0] 42)
  go_enter Tryz.func99, Tryz.ntmps99
  by_cases hk : k < 0
  · have hkb : decide (k < 0) = true := decide_eq_true hk
    have hw : IntKind.u64.wrap (-IntKind.u64.wrap k) = -k := by rw [IntKind.wrap_u64, IntKind.wrap_u64]; omega
    go_wp2_with fail
    generalize hA : w.alloc (.cells #[.bool false, .slice none 0 0, .slice none 0 0] 42) = v at *
    clear hA
    refine (of_num (-k) (by omega) (by omega) _).mono ?_
    rintro e wa ⟨ns, cn, vn, ln, x1, y1, rfl, o1, ka⟩
    go_wp2_with fail
    refine (one_any _).mono ?_
    rintro e wb ⟨x2, y2, hb, o2, kb⟩
    obtain ⟨ds, hds⟩ : ∃ ds : List Int, ds = [1] := ⟨_, rfl⟩
    rw [← hds] at hb o2
    subst hb
    have HD : Hid (ds = [1]) := hds
    clear hds
    have t : Below v.heap.size v wb := ka.trans (kb.mono ka.size)
    have Rb := R.below t
    have q0 := Rb.box.c0
    have q1 := Rb.box.c1
    have q2 := Rb.box.c2
    have p0 := Rb.box.f0
    have p1 := Rb.box.f1
    have p2 := Rb.box.f2
    go_wp2
    have hR3 := Rb.box.set (.bool true) (.slice x1 ns.length y1) (.slice x2 ds.length y2)
    have r0 := hR3.c0
    have r1 := hR3.c1
    have r2 := hR3.c2
    refine bodyPost_ret (v := .agg #[.bool true, .slice x1 ns.length y1, .slice x2 ds.length y2]) (by simp [results, Tryz.results99, go_sem, r0, r1, r2]) rfl ?_
    exact ⟨Below.set3 (g.trans (t.mono g.size)) (Nat.le_refl _) _ _ _, true, ns, ds, x1, y1, x2, y2, ⟨hkb.symm, cn, by rw [vn.out, if_pos hk], ln, HD.out⟩, rfl, (Own.set3 (o1.below kb (Nat.le_refl _)) R.lt _ _ _).mono g.size, (Own.set3 (o2.mono ka.size) R.lt _ _ _).mono g.size⟩
  · have hkb : decide (k < 0) = false := decide_eq_false hk
    go_wp2_with fail
    generalize hA : w.alloc (.cells #[.bool false, .slice none 0 0, .slice none 0 0] 42) = v at *
    clear hA
    refine (of_num k (by omega) (by omega) _).mono ?_
    rintro e wa ⟨ns, cn, vn, ln, x1, y1, rfl, o1, ka⟩
    go_wp2_with fail
    refine (one_any _).mono ?_
    rintro e wb ⟨x2, y2, hb, o2, kb⟩
    obtain ⟨ds, hds⟩ : ∃ ds : List Int, ds = [1] := ⟨_, rfl⟩
    rw [← hds] at hb o2
    subst hb
    have HD : Hid (ds = [1]) := hds
    clear hds
    have t : Below v.heap.size v wb := ka.trans (kb.mono ka.size)
    have Rb := R.below t
    have q0 := Rb.box.c0
    have q1 := Rb.box.c1
    have q2 := Rb.box.c2
    have p0 := Rb.box.f0
    have p1 := Rb.box.f1
    have p2 := Rb.box.f2
    go_wp2
    have hR3 := Rb.box.set (.bool false) (.slice x1 ns.length y1) (.slice x2 ds.length y2)
    have r0 := hR3.c0
    have r1 := hR3.c1
    have r2 := hR3.c2
    refine bodyPost_ret (v := .agg #[.bool false, .slice x1 ns.length y1, .slice x2 ds.length y2]) (by simp [results, Tryz.results99, go_sem, r0, r1, r2]) rfl ?_
    exact ⟨Below.set3 (g.trans (t.mono g.size)) (Nat.le_refl _) _ _ _, false, ns, ds, x1, y1, x2, y2, ⟨hkb.symm, cn, by rw [vn.out, if_neg (by omega)], ln, HD.out⟩, rfl, (Own.set3 (o1.below kb (Nat.le_refl _)) R.lt _ _ _).mono g.size, (Own.set3 (o2.mono ka.size) R.lt _ _ _).mono g.size⟩
end Go.Proofs.YthfmicokddcglaaGreatDoor

/- rat.powerOf. -/
namespace Go.Proofs.YthfmicokddcglaaGreatDoor
set_option linter.unusedVariables false
set_option linter.unusedSimpArgs false
open Go.RowKit

theorem pow_huge (A : Int) (N : Nat) (hA : 2 ≤ A) (hN : 1024 ≤ N) : pw 32 ≤ A ^ N := by
  rw [pw_p2]
  have h1 : p2 (32 * 32) ≤ p2 N := p2_mono hN
  have h2 : (2 : Int) ^ N ≤ A ^ N := (pow_le_pow (by omega) hA N).1
  unfold p2 at *
  omega
theorem bits_small {A : Int} {b : Nat} (h : isBits A b) (hb : b < 2) : A = 0 ∨ A = 1 := by
  rcases h with ⟨rfl, _⟩ | ⟨h1, h2, h3⟩
  · exact Or.inl rfl
  · obtain rfl : b = 1 := by omega
    have e1 : p2 (1 - 1) = 1 := by decide
    have e2 : p2 1 = 2 := by decide
    omega
theorem bits_great {A : Int} {b : Nat} (h : isBits A b) (hb : ¬ b < 2) : 2 ≤ A := by
  rcases h with ⟨rfl, h⟩ | ⟨h1, h2, h3⟩
  · omega
  · have := p2_mono (j := 1) (k := b - 1) (by omega)
    have e2 : p2 1 = 2 := by decide
    omega
theorem pow_unit {A : Int} (h : A = 0 ∨ A = 1) (N : Nat) (hN : 0 < N) : A ^ N = A := by
  obtain ⟨k, rfl⟩ : ∃ k, N = k + 1 := ⟨N - 1, by omega⟩
  rcases h with rfl | rfl
  · rw [Int.pow_succ, Int.mul_zero]
  · exact one_pow' _
theorem one_lt_pw : (1 : Int) < pw 32 := by
  have := pw_mono (j := 1) (k := 32) (by omega)
  have e : pw 1 = 4294967296 := by decide
  omega

/-- What rat.powerOf answers. -/
def PowGives (w : World) (A : Int) (N : Nat) (e : Ending) (w' : World) : Prop :=
  Below w.heap.size w w' ∧ ((pw 32 ≤ A ^ N ∧ e = .returned (.tuple #[.slice none 0 0, .bool false])) ∨ (A ^ N < pw 32 ∧ ∃ zs a c, can zs ∧ val zs = A ^ N ∧ e = .returned (.tuple #[.slice a zs.length c, .bool true]) ∧ Own w.heap.size w' (.slice a zs.length c) zs))

end Go.Proofs.YthfmicokddcglaaGreatDoor

/- Plain facts on how many sets of k things n things have. -/
namespace Go.Proofs.YthfmicokddcglaaGreatDoor
set_option linter.unusedVariables false
set_option linter.unusedSimpArgs false

/-- How many sets of k things n things have. -/
def binom : Nat → Nat → Nat
  | _, 0 => 1
  | 0, _ + 1 => 0
  | n + 1, k + 1 => binom n k + binom n (k + 1)
theorem binom_zero (n : Nat) : binom n 0 = 1 := by cases n <;> rfl
theorem binom_succ (n k : Nat) : binom (n + 1) (k + 1) = binom n k + binom n (k + 1) := rfl
theorem binom_none (k : Nat) : binom 0 (k + 1) = 0 := rfl
theorem binom_lt {n : Nat} : ∀ {k : Nat}, n < k → binom n k = 0 := by
  induction n with
  | zero => intro k h; obtain ⟨j, rfl⟩ : ∃ j, k = j + 1 := ⟨k - 1, by omega⟩; rfl
  | succ n ih =>
    intro k h
    obtain ⟨j, rfl⟩ : ∃ j, k = j + 1 := ⟨k - 1, by omega⟩
    rw [binom_succ, ih (by omega), ih (by omega)]
theorem binom_absorb (n : Nat) : ∀ k, (k + 1) * binom (n + 1) (k + 1) = (n + 1) * binom n k := by
  induction n with
  | zero =>
    intro k
    cases k with
    | zero => rfl
    | succ k => rw [binom_succ, binom_none, binom_none]; simp
  | succ n ih =>
    intro k
    cases k with
    | zero =>
      have h := ih 0
      rw [binom_zero] at h
      rw [binom_succ, binom_zero]
      omega
    | succ j =>
      have h1 := ih j
      have h2 := ih (j + 1)
      rw [binom_succ (n + 1) (j + 1), Nat.mul_add, h2, Nat.add_mul (j + 1) 1, h1]
      have e : (n + 1) * binom n j + (n + 1) * binom n (j + 1) = (n + 1) * binom (n + 1) (j + 1) := by rw [binom_succ n j, Nat.mul_add]
      rw [Nat.add_mul (n + 1) 1]
      omega
theorem binom_sym (n : Nat) : ∀ a b, a + b = n → binom n a = binom n b := by
  induction n with
  | zero => 
    intro a b h
    have h1 : a = 0 ∧ b = 0 := by omega
    rw [h1.1, h1.2]
  | succ n ih =>
    intro a b h
    cases a with
    | zero =>
      obtain rfl : b = n + 1 := by omega
      rw [binom_zero, binom_succ, ih n 0 (by omega), binom_zero, binom_lt (by omega)]
    | succ a =>
      cases b with
      | zero =>
        obtain rfl : a = n := by omega
        rw [binom_zero, binom_succ, ih a 0 (by omega), binom_zero, binom_lt (by omega)]
      | succ b =>
        rw [binom_succ, binom_succ, ih a (b + 1) (by omega), ih (a + 1) b (by omega), Nat.add_comm]
theorem binom_le (n : Nat) : ∀ k, binom n k ≤ 2 ^ n := by
  induction n with
  | zero => intro k; cases k with | zero => exact Nat.le_refl _ | succ k => exact Nat.zero_le _
  | succ n ih =>
    intro k
    cases k with
    | zero => rw [binom_zero]; exact Nat.one_le_two_pow
    | succ k => rw [binom_succ, Nat.pow_succ]; have := ih k; have := ih (k + 1); omega
/-- From the sets of i things of m + i to those of one more of one more. -/
theorem binom_step (m i : Nat) : binom (m + i) i * (m + (i + 1)) = binom (m + (i + 1)) (i + 1) * (i + 1) := by
  have h := binom_absorb (m + i) i
  rw [Nat.mul_comm (binom (m + (i + 1)) (i + 1)), show m + (i + 1) = m + i + 1 by omega, h, Nat.mul_comm]
theorem binom_grow (m i : Nat) : binom (m + i) i ≤ binom (m + (i + 1)) (i + 1) := by
  rw [show m + (i + 1) = m + i + 1 by omega, binom_succ]
  omega
end Go.Proofs.YthfmicokddcglaaGreatDoor

/- rat.choose. -/
namespace Go.Proofs.YthfmicokddcglaaGreatDoor
set_option linter.unusedVariables false
set_option linter.unusedSimpArgs false
open Go.RowKit

theorem binom_mono (M : Nat) {j F : Nat} (h : j ≤ F) : binom (M + j) j ≤ binom (M + F) F := by
  induction F with
  | zero =>
    have hj : j = 0 := by omega
    rw [hj]
    exact Nat.le_refl _
  | succ F ih =>
    by_cases hj : j = F + 1
    · subst hj; exact Nat.le_refl _
    · exact Nat.le_trans (ih (by omega)) (binom_grow M F)

/-- Has a number at most 32 limbs, or more? (Said by name: the walk reckons a bare power.) -/
structure Fits (N : Nat) : Prop where
  is : (N : Int) < pw 32
structure Great (N : Nat) : Prop where
  is : pw 32 ≤ (N : Int)

/-- What rat.choose answers. -/
def Chooses (w : World) (N : Nat) (e : Ending) (w' : World) : Prop :=
  Below w.heap.size w w' ∧ ((pw 32 ≤ (N : Int) ∧ e = errOf 8) ∨ ((N : Int) < pw 32 ∧ ∃ zs ds a1 c1 a2 c2, can zs ∧ val zs = (N : Int) ∧ Hid (ds = [(1 : Int)]) ∧ e = .returned (.tuple #[.agg #[.bool false, .slice a1 zs.length c1, .slice a2 ds.length c2], .int .i64 0]) ∧ Own w.heap.size w' (.slice a1 zs.length c1) zs ∧ Own w.heap.size w' (.slice a2 ds.length c2) ds))

theorem one_num (w : World) : Calls Tryz.prog 73 #[] w fun e w' => ∃ ds a c, Hid (ds = [(1 : Int)]) ∧ e = .returned (.slice a ds.length c) ∧ Own w.heap.size w' (.slice a ds.length c) ds ∧ Below w.heap.size w w' :=
  (one_any w).mono (fun e w' ⟨a, c, he, ho, hb⟩ => ⟨[1], a, c, rfl, he, ho, hb⟩)

end Go.Proofs.YthfmicokddcglaaGreatDoor

/- rat.isCount. -/
namespace Go.Proofs.YthfmicokddcglaaGreatDoor
set_option linter.unusedVariables false
set_option linter.unusedSimpArgs false
open Go.RowKit

/-- Is a right number whole and not below 0? -/
def IsCount (b : Bool) (ds : List Int) : Prop := ds = [1] ∧ b = false

end Go.Proofs.YthfmicokddcglaaGreatDoor

/- rat.Binomial of two right whole numbers that are not below 0. -/
namespace Go.Proofs.YthfmicokddcglaaGreatDoor
set_option linter.unusedVariables false
set_option linter.unusedSimpArgs false
open Go.RowKit

section
variable {w : World} {a1 a2 a3 a4 : Option Addr} {c1 c2 c3 c4 : Nat} {xn xd yn yd : List Int}
end
end Go.Proofs.YthfmicokddcglaaGreatDoor
