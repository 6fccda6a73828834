/- Plain facts on doubling, halving and dividing limbs bit by bit. -/
import Derived.Test.YtibciilhfpgjjaaDoorGcds
import Derived.Test.YtibciilhfpgjjaaDoorRef9
import Derived.Test.YtibciilhfpgjjaaDoorPowers
import Derived.Deep.RegionHeld3
namespace Go.Proofs.YtibciilhfpgjjaaDoor
set_option linter.unusedVariables false
set_option linter.unusedSimpArgs false
open Go.RowKit

theorem bits_or_u32_nat' (a b : Nat) (ha : a < 4294967296) (hb : b < 4294967296) : bits .or .u32 (a : Int) (b : Int) = ((a ||| b : Nat) : Int) := by
  have hx : a ||| b < 2 ^ 32 := Nat.or_lt_two_pow (by omega) (by omega)
  have h1 : (BitVec.ofInt 32 (a : Int)).toNat = a := by
    rw [BitVec.ofInt_natCast, BitVec.toNat_ofNat]; exact Nat.mod_eq_of_lt (by omega)
  have h2 : (BitVec.ofInt 32 (b : Int)).toNat = b := by
    rw [BitVec.ofInt_natCast, BitVec.toNat_ofNat]; exact Nat.mod_eq_of_lt (by omega)
  show IntKind.u32.wrap ((BitVec.ofInt 32 (a : Int) ||| BitVec.ofInt 32 (b : Int)).toNat : Int) = _
  rw [BitVec.toNat_or, h1, h2, IntKind.wrap_u32]
  omega

/-- Two times a limb, and a bit below. -/
theorem or_bit (x c : Int) (hx : 0 ≤ x ∧ x < 4294967296) (hc : 0 ≤ c ∧ c ≤ 1) : bits .or .u32 (x * 2 % 4294967296) c = x * 2 % 4294967296 + c := by
  obtain ⟨k, hk⟩ : ∃ k : Nat, x * 2 % 4294967296 = ((k * 2 : Nat) : Int) := ⟨(x % 2147483648).toNat, by omega⟩
  obtain ⟨d, rfl⟩ := Int.eq_ofNat_of_zero_le hc.1
  rw [hk, bits_or_u32_nat' _ _ (by omega) (by omega)]
  have h : k * 2 ||| d = k * 2 + d := by
    have := Nat.two_pow_add_eq_or_of_lt (i := 1) (b := d) (by omega) k
    rw [Nat.mul_comm]
    exact this.symm
  rw [h]; omega

/-- Half a limb, and a bit above. -/
theorem or_high (x c : Int) (hx : 0 ≤ x ∧ x < 4294967296) (hc : 0 ≤ c ∧ c ≤ 1) : bits .or .u32 (x / 2) (c * 2147483648) = x / 2 + c * 2147483648 := by
  obtain ⟨k, hk⟩ : ∃ k : Nat, x / 2 = (k : Int) := ⟨(x / 2).toNat, by omega⟩
  obtain ⟨d, rfl⟩ := Int.eq_ofNat_of_zero_le hc.1
  have e : ((d : Int) * 2147483648) = ((d * 2147483648 : Nat) : Int) := by omega
  rw [hk, e, bits_or_u32_nat' _ _ (by omega) (by omega)]
  have h : k ||| d * 2147483648 = k + d * 2147483648 := by
    have := Nat.two_pow_add_eq_or_of_lt (i := 31) (b := k) (by omega) d
    rw [Nat.or_comm, Nat.mul_comm, ← this]; omega
  rw [h]; omega

theorem and_one_u32 (x : Int) (h0 : 0 ≤ x) (h1 : x < 4294967296) : bits .and .u32 x 1 = x % 2 :=
  bits_mask .u32 32 (by decide) (fun n a b => by rw [IntKind.wrap_u32]; omega) 1 (by decide) x h0 (by omega)
theorem and_one_u64 (x : Int) (h0 : 0 ≤ x) (h1 : x < 4294967296) : bits .and .u64 x 1 = x % 2 :=
  bits_mask .u64 64 (by decide) (fun n a b => by rw [IntKind.wrap_u64]; omega) 1 (by decide) x h0 (by omega)

theorem twice_step (us xs : List Int) (i : Nat) (c z c' m : Int) (hl : us.length = i) (hi : i < xs.length) (h : val us + c * pw i = 2 * val (xs.take i) + m) (ht : 2 * xs.getD i 0 + c = z + c' * 4294967296) :
    val (us ++ [z]) + c' * pw (i + 1) = 2 * val (xs.take (i + 1)) + m := by
  rw [val_append, hl, val_take_succ xs i hi, pw_succ]
  simp only [val]
  have key := congrArg (fun u => u * pw i) ht
  simp only [Int.mul_zero, Int.add_zero] at *
  simp only [Int.add_mul, Int.mul_add, Int.sub_mul, Int.mul_assoc, Int.mul_comm, Int.mul_left_comm] at *
  omega

theorem half_step (us xs : List Int) (i : Nat) (z m : Int) (hl : us.length = i) (hi : i < xs.length) (h : 2 * val us + m = val (xs.take i) + xs.getD i 0 % 2 * pw i) (ht : 2 * z = xs.getD i 0 - xs.getD i 0 % 2 + xs.getD (i + 1) 0 % 2 * 4294967296) :
    2 * val (us ++ [z]) + m = val (xs.take (i + 1)) + xs.getD (i + 1) 0 % 2 * pw (i + 1) := by
  rw [val_append, hl, val_take_succ xs i hi, pw_succ]
  simp only [val]
  generalize xs.getD i 0 % 2 = r at *
  generalize xs.getD (i + 1) 0 % 2 = s at *
  generalize xs.getD i 0 = x at *
  have key := congrArg (fun u => u * pw i) ht
  simp only [Int.mul_zero, Int.add_zero] at *
  simp only [Int.add_mul, Int.mul_add, Int.sub_mul, Int.mul_assoc, Int.mul_comm, Int.mul_left_comm] at *
  omega

theorem val_mod2 (xs : List Int) : val xs % 2 = xs.getD 0 0 % 2 := by
  cases xs with
  | nil => rfl
  | cons x xs => simp only [val, List.getD_cons_zero]; omega

/-- Half of limbs. -/
theorem half_end (us xs : List Int) (h : 2 * val us + xs.getD 0 0 % 2 = val (xs.take xs.length) + xs.getD xs.length 0 % 2 * pw xs.length) : val us = val xs / 2 := by
  have e : xs.getD xs.length 0 = 0 := by simp [List.getD]
  rw [e, List.take_length, ← val_mod2] at h
  simp at h
  omega

/-- The number without its j lowest bits. -/
def sh (A : Int) (j : Nat) : Int := A / p2 j
theorem sh_zero (A : Int) : sh A 0 = A := by unfold sh p2; simp
theorem sh_bits {A : Int} {b : Nat} (h : isBits A b) : sh A b = 0 := by
  unfold sh
  rcases h with ⟨rfl, _⟩ | ⟨h1, h2, h3⟩
  · simp
  · exact Int.ediv_eq_zero_of_lt (by have := p2_pos (b - 1); omega) h3
theorem sh_succ (A : Int) (j : Nat) : sh A (j + 1) = sh A j / 2 := by
  unfold sh
  rw [p2_succ, Int.mul_comm, ← Int.ediv_ediv_of_nonneg (Int.le_of_lt (p2_pos j))]
theorem sh_step (A : Int) (j : Nat) : sh A j = 2 * sh A (j + 1) + sh A j % 2 := by rw [sh_succ]; omega
theorem sh_nonneg {A : Int} (h : 0 ≤ A) (j : Nat) : 0 ≤ sh A j := Int.ediv_nonneg h (Int.le_of_lt (p2_pos j))
theorem sh_le {A : Int} (h : 0 ≤ A) (j : Nat) : sh A j ≤ A := Int.ediv_le_self _ h

theorem sh_bit {xs : List Int} (h : lim xs) (i : Nat) (hi : i / 32 < xs.length) : sh (val xs) i % 2 = xs.getD (i / 32) 0 / 2 ^ (i % 32) % 2 := by
  have hx := lim_getD h (i / 32)
  have e1 := val_split xs (i / 32 + 1) (by omega)
  rw [val_take_succ xs _ hi, pw_succ] at e1
  have hb := val_bound (lim_take h (i / 32))
  rw [List.length_take, Nat.min_eq_left (by omega)] at hb
  have hp := pw_pos (i / 32)
  have e2 : p2 i = pw (i / 32) * 2 ^ (i % 32) := by
    rw [pw_p2]; unfold p2; rw [← Int.pow_add]; congr 1; omega
  unfold sh
  rw [e2, ← Int.ediv_ediv_of_nonneg (Int.le_of_lt hp)]
  generalize val (xs.drop (i / 32 + 1)) = D at *
  generalize xs.getD (i / 32) 0 = X at *
  generalize val (xs.take (i / 32)) = L at *
  have e3 : val xs / pw (i / 32) = X + 4294967296 * D := by
    have e4 : val xs = L + pw (i / 32) * (X + 4294967296 * D) := by
      rw [e1]; simp only [Int.add_mul, Int.mul_add, Int.mul_assoc, Int.mul_comm, Int.mul_left_comm]; omega
    rw [e4, Int.add_mul_ediv_left _ _ (by omega), Int.ediv_eq_zero_of_lt hb.1 hb.2]; omega
  rw [e3]
  have hj : i % 32 < 32 := Nat.mod_lt _ (by omega)
  generalize i % 32 = j at *
  obtain ⟨d, hd⟩ : ∃ d, 31 = j + d := ⟨31 - j, by omega⟩
  have e5 : (4294967296 : Int) = 2 ^ j * (2 * 2 ^ d) := by
    have : (2 : Int) ^ j * 2 ^ d = 2 ^ 31 := by rw [← Int.pow_add, ← hd]
    have e6 : (2 : Int) ^ j * (2 * 2 ^ d) = 2 * (2 ^ j * 2 ^ d) := by simp only [Int.mul_assoc, Int.mul_comm, Int.mul_left_comm]
    rw [e6, this]; rfl
  have hp2 : (0 : Int) < 2 ^ j := Int.pow_pos (by omega)
  rw [e5, Int.mul_assoc, Int.add_mul_ediv_left _ _ (by omega), Int.mul_assoc]
  omega

/-- One step of a division bit by bit. -/
theorem divBit_step (A B q r b : Int) (j : Nat) (h : sh A (j + 1) = q * B + r) (hb : b = sh A j % 2) :
    sh A j = (2 * q) * B + (2 * r + b) ∧ sh A j = (2 * q + 1) * B + (2 * r + b - B) := by
  have := sh_step A j
  rw [h, ← hb] at this
  rw [this]
  simp only [Int.add_mul, Int.mul_add, Int.mul_assoc]
  constructor <;> omega

theorem div_unique (A B q r q' r' : Int) (h : A = q * B + r) (h0 : 0 ≤ r) (h1 : r < B) (h' : A = q' * B + r') (h0' : 0 ≤ r') (h1' : r' < B) : q = q' ∧ r = r' := by
  have e : ∀ q r : Int, A = q * B + r → 0 ≤ r → r < B → r = A % B ∧ q = A / B := by
    intro q r h h0 h1
    rw [h]
    constructor
    · rw [Int.add_comm, Int.add_mul_emod_self_right, Int.emod_eq_of_lt h0 h1]
    · rw [Int.add_comm, Int.add_mul_ediv_right _ _ (by omega), Int.ediv_eq_zero_of_lt h0 h1]; omega
  obtain ⟨a1, a2⟩ := e q r h h0 h1
  obtain ⟨b1, b2⟩ := e q' r' h' h0' h1'
  exact ⟨a2.trans b2.symm, a1.trans b1.symm⟩

/-- The greatest divisor of two even numbers; of an even and an odd one; of a difference. -/
theorem gI_even2 (x y : Int) (hx : 0 ≤ x) (hy : 0 ≤ y) (h1 : x % 2 = 0) (h2 : y % 2 = 0) : gI x y = 2 * gI (x / 2) (y / 2) := by
  unfold gI
  have e1 : x.toNat = 2 * (x / 2).toNat := by omega
  have e2 : y.toNat = 2 * (y / 2).toNat := by omega
  rw [e1, e2, Nat.gcd_mul_left]; omega
theorem gI_even (x y : Int) (hx : 0 ≤ x) (hy : 0 ≤ y) (h1 : x % 2 = 0) (h2 : ¬ y % 2 = 0) : gI x y = gI (x / 2) y := by
  unfold gI
  have e1 : x.toNat = 2 * (x / 2).toNat := by omega
  have hc : Nat.Coprime 2 y.toNat := by
    have : y.toNat % 2 = 1 := by omega
    unfold Nat.Coprime
    rw [Nat.gcd_rec, this]
    rfl
  rw [e1, Nat.Coprime.gcd_mul_left_cancel _ hc]
theorem gI_even' (x y : Int) (hx : 0 ≤ x) (hy : 0 ≤ y) (h1 : y % 2 = 0) (h2 : ¬ x % 2 = 0) : gI x y = gI x (y / 2) := by
  rw [gI_comm, gI_even y x hy hx h1 h2, gI_comm]
theorem gI_sub (x y : Int) (hy : 0 ≤ y) (h : y ≤ x) : gI x y = gI (x - y) y := by
  unfold gI
  have e : x.toNat = (x - y).toNat + y.toNat := by omega
  rw [e, Nat.gcd_add_self_left]
theorem gI_sub' (x y : Int) (hx : 0 ≤ x) (h : x ≤ y) : gI x y = gI x (y - x) := by
  rw [gI_comm, gI_sub y x hx h, gI_comm]
theorem gI_p2 (t : Nat) (x y : Int) (hx : 0 ≤ x) (hy : 0 ≤ y) : gI (p2 t * x) (p2 t * y) = p2 t * gI x y := by
  obtain ⟨a, rfl⟩ := Int.eq_ofNat_of_zero_le hx
  obtain ⟨b, rfl⟩ := Int.eq_ofNat_of_zero_le hy
  have e : p2 t = ((2 ^ t : Nat) : Int) := by unfold p2; simp
  unfold gI
  rw [e, ← Int.natCast_mul, ← Int.natCast_mul]
  simp only [Int.toNat_natCast]
  rw [Nat.gcd_mul_left, Int.natCast_mul]
end Go.Proofs.YtibciilhfpgjjaaDoor

/- The document's Power. -/
namespace Go.Proofs.YtibciilhfpgjjaaDoor
set_option linter.unusedVariables false
set_option linter.unusedSimpArgs false
open Go.RowKit

/-- What a power with a limit answers: nothing where it has more limbs, else its limbs. -/
def PowersTo (w : World) (V : Int) (M : Nat) (e : Ending) (w' : World) : Prop :=
  Below w.heap.size w w' ∧ (pw M ≤ V → e = .returned (.tuple #[.slice none 0 0, .bool false])) ∧
    (V < pw M → ∃ zs a c, can zs ∧ val zs = V ∧ e = .returned (.tuple #[.slice a zs.length c, .bool true]) ∧ Own w.heap.size w' (.slice a zs.length c) zs)

theorem PowersTo.yes {w w' : World} {V : Int} {M : Nat} {zs : List Int} {a : Option Addr} {c : Nat} (hb : Below w.heap.size w w') (hz : can zs) (hv : val zs = V) (hl : zs.length ≤ M) (ho : Own w.heap.size w' (.slice a zs.length c) zs) :
    PowersTo w V M (.returned (.tuple #[.slice a zs.length c, .bool true])) w' :=
  ⟨hb, fun h => by have := (can_len_pw hz M).1 hl; omega, fun _ => ⟨zs, a, c, hz, hv, rfl, ho⟩⟩

theorem PowersTo.no {w w' : World} {V : Int} {M : Nat} (hb : Below w.heap.size w w') (hv : pw M ≤ V) : PowersTo w V M (.returned (.tuple #[.slice none 0 0, .bool false])) w' :=
  ⟨hb, fun _ => rfl, fun h => by omega⟩

theorem pow_grow {X : Int} (h : 1 ≤ X) {j k : Nat} (hjk : j ≤ k) : X ^ j ≤ X ^ k := by
  induction hjk with
  | refl => exact Int.le_refl _
  | step _ ih =>
    rw [Int.pow_succ]
    have h0 : 0 ≤ X ^ j := Int.pow_nonneg (by omega)
    rename_i m _
    have h1 : X ^ m * 1 ≤ X ^ m * X := Int.mul_le_mul_of_nonneg_left h (by omega)
    omega

theorem pow_next (X : Int) (n k : Nat) (h : 0 < k) (hk : k ≤ n) : X ^ (n - k) * X = X ^ (n - (k - 1)) := by
  rw [← Int.pow_succ]; congr 1; omega

theorem long_pw {zs : List Int} (h : can zs) (M : Nat) (hl : ¬ zs.length ≤ M) : pw M ≤ val zs := by
  have := (can_len_pw h M).2
  by_cases hv : val zs < pw M
  · exact absurd (this hv) hl
  · omega

theorem own_nil (base : Nat) (w : World) : Own base w (.slice none 0 0) [] := ⟨lim_nil, World.ownsRow_nil _ _ _ _⟩

set_option maxRecDepth 100000 in
set_option maxHeartbeats 1600000 in
theorem refPower_walk {B : Nat} {w : World} {v : Value} {xs : List Int} (n M : Nat) (V : Int) (h : Rd B w v xs) (hB : B ≤ w.heap.size) (hl : xs.length ≤ 1000000) (hn : n < 9223372036854775808) (hM : M ≤ 1000000) (hV : Hid (V = val xs ^ n)) :
    Calls Tryd.prog 37 #[v, .int .i64 n, .int .i64 M] w fun e w' => PowersTo w V M e w' := by
  have hO1 : Own w.heap.size (w.alloc (.cells #[.int .u32 1] 39)) (.slice (some ⟨w.heap.size, 0, none⟩) 1 1) [1] := ⟨can_one.1, World.ownsRow_lit w #[.int .u32 1] 1 (Nat.le_refl _) (by unfold maxLen; omega) rfl⟩
  have b0 : Below w.heap.size w (w.alloc (.cells #[.int .u32 1] 39)) := (Below.refl _ _).alloc (Nat.le_refl _) _
  have h' := h.below (b0.mono hB)
  have s0 := b0.size
  have ct := tr_can h.lim
  have hle := tr_length_le xs
  have hv := val_tr xs
  rw [← hv] at hV
  go_enter Tryd.func37, Tryd.ntmps37
  go_wp2_with fail
  refine (refTrim_rd h' (by omega)).mono ?_
  rintro e wa ⟨a1, q1, rfl, o1, ba⟩
  have sa := ba.size
  have op : Own w.heap.size wa (.slice (some ⟨w.heap.size, 0, none⟩) [(1 : Int)].length 1) [1] := hO1.below ba (Nat.le_refl _)
  have bw : Below w.heap.size w wa := b0.trans (ba.mono s0)
  have ob : Own w.heap.size wa (.slice a1 (tr xs).length q1) (tr xs) := o1.mono s0
  have hs : w.heap.size ≤ wa.heap.size := bw.size
  clear hO1 b0 h' ba o1 hv s0 sa
  generalize tr xs = us at *
  clear h
  have one_end : ∀ {M : Nat}, ¬ M = 0 → [(1 : Int)].length ≤ M := fun h => by simp; omega
  by_cases h0 : us.length = 0
  · have e : us = [] := List.eq_nil_of_length_eq_zero h0
    subst e
    by_cases hn0 : n = 0
    · subst hn0
      have HV : Hid (V = 1) := by unfold Hid; rw [hV.out]; simp
      by_cases hM0 : M = 0
      · subst hM0
        go_wp2
        refine wp_loop_rounds 1 ?_
        rw [rounds_succ]
        go_wp2
        go_ret2
        exact PowersTo.no bw (by rw [HV.out]; decide)
      · go_wp2
        refine wp_loop_rounds 1 ?_
        rw [rounds_succ]
        go_wp2
        go_ret2
        exact PowersTo.yes bw can_one (by rw [HV.out]; decide) (one_end hM0) op
    · have HV : Hid (V = 0) := by
        unfold Hid; rw [hV.out]
        obtain ⟨k, rfl⟩ : ∃ k, n = k + 1 := ⟨n - 1, by omega⟩
        rw [Int.pow_succ]; simp [val]
      go_wp2
      refine wp_loop_rounds 1 ?_
      rw [rounds_succ]
      go_wp2
      go_ret2
      exact PowersTo.yes bw can_nil (by rw [HV.out]; rfl) (Nat.zero_le _) (own_nil _ _)
  · obtain ⟨lu, _, _, e1, _, _, _, r1⟩ := ob.rd
    rcases r1 with r1 | ⟨g1, f1, ea1, _, k1⟩
    · exact absurd r1 h0
    subst ea1
    cases e1
    have hc0 := k1 0 (by omega)
    have hu0 := lim_getD lu 0
    by_cases hone : us = [1]
    · subst hone
      have HV : Hid (V = 1) := by unfold Hid; rw [hV.out, show val [1] = 1 by decide]; exact Int.one_pow
      have hc0' : wa.cell? ⟨g1, f1, none⟩ = some (.int .u32 1) := hc0
      clear hc0 k1 hu0
      by_cases hM0 : M = 0
      · subst hM0
        go_wp2
        refine wp_loop_rounds 1 ?_
        rw [rounds_succ]
        go_wp2
        go_ret2
        exact PowersTo.no bw (by rw [HV.out]; decide)
      · go_wp2
        refine wp_loop_rounds 1 ?_
        rw [rounds_succ]
        go_wp2
        go_ret2
        exact PowersTo.yes bw can_one (by rw [HV.out]; decide) (one_end hM0) op
    · have hpos : 1 ≤ val us := by
        have := can_low ct (by omega)
        have := pw_pos (us.length - 1)
        omega
      have HX : Hid (1 ≤ val us) := hpos
      clear hpos
      have hrb : Rd wa.heap.size wa (.slice (some ⟨g1, f1, none⟩) us.length q1) us := ob.rd
      have hcs : (us.length < 2 ∧ (us.getD 0 0 == 1) = false) ∨ 2 ≤ us.length := by
        by_cases hl1 : us.length = 1
        · left
          refine ⟨by omega, beq_eq_false_iff_ne.2 fun hx => hone ?_⟩
          match us, hl1 with
          | [x], _ => have : x = 1 := hx; rw [this]
        · right; omega
      have hc0' : wa.cell? ⟨g1, f1, none⟩ = some (.int .u32 (us.getD 0 0)) := hc0
      clear hc0 k1 hone
      generalize us.getD 0 0 = U at *
      have hL : us.length ≤ 1000000 := by omega
      rcases hcs with ⟨q1', q2'⟩ | q1'
      all_goals
        go_wp2
        go_loopw [1, 8] (fun nn p wr => ∃ (k : Nat) (zs : List Int) (a : Option Addr) (c : Nat), k ≤ n ∧ nn = .int .i64 k ∧ can zs ∧ Hid (val zs = val us ^ (n - k)) ∧ zs.length ≤ M + us.length + 1 ∧ p = .slice a zs.length c ∧ Own w.heap.size wr (.slice a zs.length c) zs ∧ Below wa.heap.size wa wr)
          (fun nn _ _ => (intOf nn).toNat)
        case atStart => exact ⟨n, [1], some ⟨w.heap.size, 0, none⟩, 1, Nat.le_refl _, rfl, can_one, by unfold Hid; simp [val], by simp, rfl, op, Below.refl _ _⟩
        case round =>
          obtain ⟨k, zs, a, c, hkn, rfl, hcan, hval, hlen, rfl, hown, hbl⟩ := hrel
          have hsz := hbl.size
          have bwr : Below w.heap.size w wr := bw.trans (hbl.mono hs)
          by_cases hk0 : k = 0
          · subst hk0
            have HF : Hid (val zs = V) := by unfold Hid; rw [hval.out, hV.out]; rfl
            by_cases hzM : zs.length ≤ M
            · go_wp2
              go_ret2
              exact PowersTo.yes bwr hcan HF.out hzM hown
            · go_wp2
              go_ret2
              exact PowersTo.no bwr (by rw [← HF.out]; exact long_pw hcan M hzM)
          · by_cases hzM : zs.length ≤ M
            · go_wp2_with fail
              refine (refMul_any hown.rd (Nat.le_refl _) (hrb.below hbl) hsz (by omega) (by omega)).mono ?_
              rintro e w2 ⟨us', cu, vu, lu', a3, c3, rfl, ho3, hb3⟩
              go_wp2
              go_roundw
              case rel =>
                exact ⟨k - 1, us', a3, c3, by omega, by go_num, cu, (by unfold Hid; rw [vu, hval.out, pow_next _ _ _ (by omega) hkn]), by omega, rfl, ho3.mono (by omega), hbl.trans (hb3.mono hsz)⟩
              case measure => simp [intOf]; omega
            · go_wp2
              go_ret2
              exact PowersTo.no bwr (by
                have h1 := long_pw hcan M hzM
                have h2 := pow_grow HX.out (show n - k ≤ n by omega)
                rw [hV.out]; have := hval.out; omega)
end Go.Proofs.YtibciilhfpgjjaaDoor

/- The document's twice, bit and DivMod. -/
namespace Go.Proofs.YtibciilhfpgjjaaDoor
set_option linter.unusedVariables false
set_option linter.unusedSimpArgs false
open Go.RowKit

set_option maxRecDepth 100000 in
set_option maxHeartbeats 1600000 in
/-- The document's twice: two times a number, and a bit. -/
theorem refTwice_any {B : Nat} {w : World} {v : Value} {xs : List Int} (m : Int) (hm : 0 ≤ m ∧ m ≤ 1) (h : Rd B w v xs) (hB : B ≤ w.heap.size) (hn : xs.length ≤ 1000000000) :
    Calls Tryd.prog 55 #[v, .int .u32 m] w fun e w' => ∃ zs, can zs ∧ val zs = 2 * val xs + m ∧ Makes w e w' zs := by
  obtain ⟨i0, hi, hz0, hz1, hz2⟩ := info_parts info_u32
  have lx := h.lim
  obtain ⟨_, a1, c1, rfl, hcap0, hcap, _, kp⟩ := h
  go_enter Tryd.func55, Tryd.ntmps55
  go_wp2
  go_loopw [5, 6, 7] (fun s cr ii wr => ∃ (i : Nat) (C : Int) (us : List Int) (a : Option Addr) (c : Nat), i ≤ xs.length ∧ ii = .int .i64 i ∧ cr = .int .u32 C ∧ 0 ≤ C ∧ C ≤ 1 ∧ Hid (us.length = i) ∧ s = .slice a us.length c ∧ Own w.heap.size wr (.slice a us.length c) us ∧ Below w.heap.size w wr ∧ Hid (val us + C * pw i = 2 * val (xs.take i) + m))
    (fun _ _ ii _ => xs.length - (intOf ii).toNat)
  case atStart => exact ⟨0, m, [], none, 0, by omega, rfl, rfl, hm.1, hm.2, rfl, rfl, own_nil _ _, Below.refl _ _, by unfold Hid; simp [val, pw_zero]⟩
  case round =>
    obtain ⟨i, C, us, a, c, hiM, rfl, rfl, hC0, hC1, hul, rfl, hown, hbl, hval⟩ := hrel
    have hs := hbl.size
    have huL : us.length = i := hul.out
    have HUL : us.length ≤ 2000000000 := by omega
    clear huL
    by_cases hgo : i < xs.length
    · rcases kp with kp | ⟨b, o, rfl, hbB, kp⟩
      · omega
      have rx := lim_getD lx i
      have hc : wr.cell? ⟨b, o + i, none⟩ = some (.int .u32 (xs.getD i 0)) := (hbl.cell (by show b < w.heap.size; omega)).trans (kp i hgo)
      have hstep := twice_step us xs i C (xs.getD i 0 * 2 % 4294967296 + C) (xs.getD i 0 / 2147483648) m hul.out hgo hval.out (by omega)
      have hor := or_bit (xs.getD i 0) C rx ⟨hC0, hC1⟩
      generalize xs.getD i 0 = X at *
      have HST : Hid (val (us ++ [X * 2 % 4294967296 + C]) + X / 2147483648 * pw (i + 1) = 2 * val (xs.take (i + 1)) + m) := hstep
      clear hstep kp
      have hca : (wr.alloc (.cells #[.int .u32 (X * 2 % 4294967296 + C)] 39)).cell? ⟨b, o + i, none⟩ = some (.int .u32 X) := by rw [← hc]; exact ((Below.refl wr.heap.size wr).alloc (Nat.le_refl _) _).cell (by show b < wr.heap.size; omega)
      go_wp2_with (at_builtin; (refine wpList_append_own _ rfl _ _ 22 rfl w.heap.size 39 i0 (.int .u32 0) 1 4 Tryd.underlying22 hi hz0 hz1 hz2 rfl (by decide) _ us.length (us.map (Value.int .u32)) rfl (hown.2.alloc _) ⟨wr.heap.size, 0, none⟩ 1 1 [.int .u32 (X * 2 % 4294967296 + C)] rfl rfl (cell1_new _ _ _) (by intro u hu; simp at hu; subst hu; rfl) (by unfold maxLen; omega) (by omega) (by simp; omega) ?_); intro v' w2 hown' hgrow _; have hb2 : Below w.heap.size w w2 := (hbl.alloc hs _).grown hgrow (by simp; omega) (fun k hk => (hown.2.lt k hk).1); have hc2 : w2.cell? ⟨b, o + i, none⟩ = some (.int .u32 X) := by rw [← hc, hbl.cell (p := ⟨b, o + i, none⟩) (by show b < w.heap.size; omega)]; exact hb2.cell (by show b < w.heap.size; omega))
      have hO := own_push hown.lim (by omega) hown'
      obtain ⟨a3, c3, hv3⟩ := hO.form
      rw [hv3] at hO ⊢
      clear hown' hgrow hv3 hown hor
      go_wp2
      go_roundw
      case rel => exact ⟨i + 1, X / 2147483648, us ++ [X * 2 % 4294967296 + C], a3, c3, by omega, by go_num, by go_num, by omega, by omega, (by unfold Hid; rw [List.length_append, hul.out]; rfl), rfl, hO, hb2, HST⟩
      case measure => simp [intOf]; omega
    · obtain rfl : i = xs.length := by omega
      have hfin : val (us ++ [C]) = 2 * val xs + m := by
        have h3 := hval.out
        rw [List.take_length] at h3
        rw [val_append, hul.out]
        simp only [val]
        rw [Int.mul_comm]
        simpa using h3
      have HF : Hid (val (us ++ [C]) = 2 * val xs + m) := hfin
      clear hfin kp
      go_wp2_with (at_builtin; (refine wpList_append_own _ rfl _ _ 22 rfl w.heap.size 39 i0 (.int .u32 0) 1 4 Tryd.underlying22 hi hz0 hz1 hz2 rfl (by decide) _ us.length (us.map (Value.int .u32)) rfl (hown.2.alloc _) ⟨wr.heap.size, 0, none⟩ 1 1 [.int .u32 C] rfl rfl (cell1_new _ _ _) (by intro u hu; simp at hu; subst hu; rfl) (by unfold maxLen; omega) (by omega) (by simp; omega) ?_); intro v' w2 hown' hgrow _)
      have hO := own_push hown.lim (by omega) hown'
      have hb2 : Below w.heap.size w w2 := (hbl.alloc hs _).grown hgrow (by simp; omega) (fun k hk => (hown.2.lt k hk).1)
      have hs2 := hb2.size
      have hlen : (us ++ [C]).length * 4 ≤ 140737488355328 := by simp; omega
      clear hown' hgrow hown
      go_wp2_with fail
      refine (refTrim_rd hO.rd hlen).mono ?_
      rintro e w3 ⟨a3, c3, rfl, ho3, hb3⟩
      go_wp2
      go_ret
      exact ⟨tr (us ++ [C]), tr_can hO.lim, by rw [val_tr]; exact HF.out, Makes.of rfl (ho3.mono hs2) (hb2.trans (hb3.mono hs2))⟩

set_option maxHeartbeats 800000 in
/-- The document's bit: one of a number. -/
theorem refBit_any {B : Nat} {w : World} {v : Value} {xs : List Int} (i : Nat) (m : Int) (hm : Hid (m = sh (val xs) i % 2)) (h : Rd B w v xs) (hi : i / 32 < xs.length) (hi2 : i < 9223372036854775807) :
    Calls Tryd.prog 56 #[v, .int .i64 i] w fun e w' => e = .returned (.int .u32 m) ∧ w = w' := by
  have lx := h.lim
  obtain ⟨_, a1, c1, rfl, hcap0, hcap, _, kp⟩ := h
  rcases kp with kp | ⟨b, o, rfl, hbB, kp⟩
  · omega
  have hc := kp (i / 32) hi
  have rx := lim_getD lx (i / 32)
  have hm2 := hm.out
  rw [sh_bit lx i hi] at hm2
  have hq : 0 ≤ xs.getD (i / 32) 0 / 2 ^ (i % 32) ∧ xs.getD (i / 32) 0 / 2 ^ (i % 32) < 4294967296 := by
    have hp : (0 : Int) < 2 ^ (i % 32) := Int.pow_pos (by omega)
    refine ⟨Int.ediv_nonneg rx.1 (by omega), ?_⟩
    have := Int.ediv_le_self (2 ^ (i % 32)) rx.1
    omega
  have hand := and_one_u32 _ hq.1 hq.2
  rw [← hm2] at hand
  clear hm2 hm kp
  generalize xs.getD (i / 32) 0 = X at *
  have e1 : ((i : Int) / 32).toNat = i / 32 := by omega
  have e2 : ((i : Int) % 32).toNat = i % 32 := by omega
  go_enter Tryd.func56, Tryd.ntmps56
  go_wp2
  go_ret
  exact ⟨rfl, rfl⟩
end Go.Proofs.YtibciilhfpgjjaaDoor

/- The document's DivMod. -/
namespace Go.Proofs.YtibciilhfpgjjaaDoor
set_option linter.unusedVariables false
set_option linter.unusedSimpArgs false
open Go.RowKit

/-- What a division answers: quotient and rest. -/
def RefDivs (w : World) (xs ys : List Int) (e : Ending) (w' : World) : Prop :=
  ∃ qs rs a c a' c', e = .returned (.tuple #[.slice a qs.length c, .slice a' rs.length c', .bool true]) ∧ Own w.heap.size w' (.slice a qs.length c) qs ∧ Own w.heap.size w' (.slice a' rs.length c') rs ∧ can qs ∧ can rs ∧ val xs = val qs * val ys + val rs ∧ val rs < val ys ∧ Below w.heap.size w w'

theorem refDivMod_zero {B1 : Nat} {w : World} {v1 v2 : Value} {ys : List Int} (h2 : Rd B1 w v2 ys) (hn : ys.length ≤ 1000000) (h0 : val ys = 0) :
    Calls Tryd.prog 33 #[v1, v2] w fun e w' => e = .returned (.tuple #[.slice none 0 0, .slice none 0 0, .bool false]) ∧ Below w.heap.size w w' := by
  have ht : (tr ys).length = 0 := by rw [can_zero (tr_can h2.lim), val_tr]; exact h0
  go_enter Tryd.func33, Tryd.ntmps33
  go_wp2_with fail
  refine (refTrim_rd h2 (by omega)).mono ?_
  rintro e wa ⟨a1, q1, rfl, o1, ba⟩
  rw [ht]
  go_wp2
  go_ret3
  exact ⟨rfl, ba⟩

theorem len_of_lt {zs : List Int} (h : can zs) {L : Nat} (hv : val zs < pw L) : zs.length ≤ L := (can_len_pw h L).2 hv

theorem quot_le {A B q r : Int} (h : A = q * B + r) (hB : 0 < B) (hq : 0 ≤ q) (hr : 0 ≤ r) : q ≤ A := by
  have : q * 1 ≤ q * B := Int.mul_le_mul_of_nonneg_left (by omega) hq
  omega

set_option maxRecDepth 100000 in
set_option maxHeartbeats 3200000 in
theorem refDivMod_any {B1 B2 : Nat} {w : World} {v1 v2 : Value} {xs ys : List Int} (h1 : Rd B1 w v1 xs) (b1 : B1 ≤ w.heap.size) (h2 : Rd B2 w v2 ys) (b2 : B2 ≤ w.heap.size) (n1 : xs.length ≤ 1000000) (n2 : ys.length ≤ 1000000) (h0 : ¬ val ys = 0) :
    Calls Tryd.prog 33 #[v1, v2] w fun e w' => RefDivs w xs ys e w' := by
  have hA := val_bound h1.lim
  have hY := val_bound h2.lim
  have ht : ¬ (tr ys).length = 0 := by rw [can_zero (tr_can h2.lim), val_tr]; exact h0
  have HA : Hid (0 ≤ val xs ∧ val xs < pw xs.length) := hA
  have HY : Hid (0 < val ys ∧ val ys < pw ys.length) := ⟨by omega, hY.2⟩
  clear hA hY h0
  go_enter Tryd.func33, Tryd.ntmps33
  go_wp2_with fail
  refine (refTrim_rd h2 (by omega)).mono ?_
  rintro e wa ⟨a1, q1, rfl, o1, ba⟩
  have ra1 := h1.below (ba.mono b1)
  have sa := ba.size
  clear o1
  generalize (tr ys).length = T at ht
  go_wp2_with fail
  refine (refBits_any ra1 (by omega)).mono ?_
  rintro e wb ⟨nb, rfl, hbits, bb⟩
  have bw : Below w.heap.size w wb := ba.trans (bb.mono sa)
  have hnb : nb ≤ 32 * xs.length := by
    rcases hbits with ⟨_, rfl⟩ | ⟨k1, k2, k3⟩
    · omega
    · by_cases hle : nb ≤ 32 * xs.length
      · exact hle
      · have h3 := p2_mono (show 32 * xs.length ≤ nb - 1 by omega)
        rw [← pw_p2] at h3
        have := HA.out; omega
  have HS : Hid (sh (val xs) nb = 0) := sh_bits hbits
  clear hbits
  go_wp2
  go_loopw [7, 8, 9] (fun q r ii wr => ∃ (i : Nat) (qs rs : List Int) (a : Option Addr) (c : Nat) (a' : Option Addr) (c' : Nat), i ≤ nb ∧ ii = .int .i64 ((i : Int) - 1) ∧ can qs ∧ can rs ∧ Hid (sh (val xs) i = val qs * val ys + val rs ∧ val rs < val ys) ∧ q = .slice a qs.length c ∧ r = .slice a' rs.length c' ∧ Own w.heap.size wr (.slice a qs.length c) qs ∧ Own w.heap.size wr (.slice a' rs.length c') rs ∧ Below w.heap.size w wr)
    (fun _ _ ii _ => (intOf ii + 1).toNat)
  case atStart => exact ⟨nb, [], [], none, 0, none, 0, Nat.le_refl _, by go_num, can_nil, can_nil, (by unfold Hid; rw [HS.out]; have := HY.out; simp [val]; omega), rfl, rfl, own_nil _ _, own_nil _ _, bw⟩
  case round =>
    obtain ⟨i, qs, rs, a, c, a', c', hib, rfl, cq, cr, hval, rfl, rfl, oq, or, hbl⟩ := hrel
    have hs := hbl.size
    by_cases hi0 : i = 0
    · subst hi0
      have HF : Hid (val xs = val qs * val ys + val rs ∧ val rs < val ys) := by
        have := hval.out; rw [sh_zero] at this; exact this
      go_wp2
      go_ret3
      exact ⟨qs, rs, a, c, a', c', rfl, oq, or, cq, cr, HF.out.1, HF.out.2, hbl⟩
    · obtain ⟨k, rfl⟩ : ∃ k, i = k + 1 := ⟨i - 1, by omega⟩
      have rw1 := h1.below (hbl.mono b1)
      have rw2 := h2.below (hbl.mono b2)
      obtain ⟨m, hm⟩ : ∃ m, Hid (m = sh (val xs) k % 2) := ⟨_, rfl⟩
      have hm01 : 0 ≤ m ∧ m ≤ 1 := by have := hm.out; omega
      have hrl : rs.length ≤ ys.length := len_of_lt cr (by have := hval.out; have := HY.out; omega)
      have hqn := val_bound cq.1
      have hrn := val_bound cr.1
      have hql : qs.length ≤ xs.length := len_of_lt cq (by
        have h3 := quot_le hval.out.1 HY.out.1 hqn.1 hrn.1
        have h4 := sh_le HA.out.1 (k + 1)
        have := HA.out; omega)
      have HN : Hid (0 ≤ val qs ∧ 0 ≤ val rs) := ⟨hqn.1, hrn.1⟩
      clear hqn hrn
      have eik : (((k + 1 : Nat) : Int) - 1) = (k : Int) := by omega
      rw [eik]
      go_wp2_with fail
      refine (refBit_any k m hm rw1 (by omega) (by omega)).mono ?_
      rintro e w' ⟨rfl, rfl⟩
      go_wp2_with fail
      refine (refTwice_any m hm01 or.rd (Nat.le_refl _) (by omega)).mono ?_
      rintro e w2 ⟨r2, c2, v2', a2, q2, rfl, o2, bl2⟩
      have s2 := bl2.size
      have bw2 : Below w.heap.size w w2 := hbl.trans (bl2.mono hs)
      have oq2 := oq.below bl2 (Nat.le_refl _)
      have hst := divBit_step (val xs) (val ys) (val qs) (val rs) m k hval.out.1 hm.out
      have HST : Hid (sh (val xs) k = (2 * val qs) * val ys + (2 * val rs + m) ∧ sh (val xs) k = (2 * val qs + 1) * val ys + (2 * val rs + m - val ys)) := hst
      have HV2 : Hid (val r2 = 2 * val rs + m) := v2'
      have hr2l : r2.length ≤ ys.length + 1 := len_of_lt c2 (by
        rw [v2', pw_succ]
        have := hval.out; have := HY.out; omega)
      clear hst v2'
      have rd2 := h2.below (bw2.mono b2)
      by_cases hge : val ys ≤ val r2
      · obtain ⟨cm, hcm, hcm0⟩ : ∃ cm, cmpI (val r2) (val ys) = cm ∧ 0 ≤ cm := by
          by_cases he : val r2 = val ys
          · exact ⟨0, cmpI_eq he, by omega⟩
          · exact ⟨1, cmpI_gt (by omega), by omega⟩
        have HGE : Hid (val ys ≤ val r2) := hge
        clear hge
        go_wp2_with fail
        refine (refCompare_rd o2.rd rd2 (by omega) (by omega) (by omega)).mono ?_
        rintro e w3 ⟨rfl, bl3⟩
        rw [hcm]
        clear hcm
        have s3 := bl3.size
        have bw3 : Below w.heap.size w w3 := bw2.trans (bl3.mono (by omega))
        have rd3 := h2.below (bw3.mono b2)
        have o23 := o2.below bl3 (Nat.le_refl _)
        have oq3 := oq2.below bl3 (Nat.le_refl _)
        go_wp2_with fail
        refine (refMinus_any o23.rd (Nat.le_refl _) rd3 (by omega) (by omega) (by omega)).mono ?_
        rintro e w4 ⟨bl4, hmin⟩
        rw [if_neg (by have := HGE.out; omega)] at hmin
        obtain ⟨r4, a4, c4, can4, v4, rfl, o4⟩ := hmin
        have s4 := bl4.size
        have bw4 : Below w.heap.size w w4 := bw3.trans (bl4.mono (by omega))
        have oq4 := oq3.below bl4 (Nat.le_refl _)
        have HV4 : Hid (val r4 = val r2 - val ys) := v4
        clear v4
        go_wp2_with fail
        refine (refTwice_any 1 (by omega) oq4.rd (Nat.le_refl _) (by omega)).mono ?_
        rintro e w5 ⟨q5, can5, v5, a5, c5, rfl, o5, bl5⟩
        have s5 := bl5.size
        have HV5 : Hid (val q5 = 2 * val qs + 1) := v5
        clear v5
        go_wp2
        go_roundw
        case rel => exact ⟨k, q5, r4, a5, c5, a4, c4, by omega, by go_num, can5, can4, (by
          unfold Hid; rw [HV5.out, HV4.out, HV2.out]; refine ⟨HST.out.2, ?_⟩; have := hval.out; omega), rfl, rfl, o5.mono (by omega), (o4.below bl5 (Nat.le_refl _)).mono (by omega), bw4.trans (bl5.mono (by omega))⟩
        case measure => simp [intOf]
      · have hcm := cmpI_lt (show val r2 < val ys by omega)
        have HGE : Hid (val r2 < val ys) := by unfold Hid; omega
        clear hge
        go_wp2_with fail
        refine (refCompare_rd o2.rd rd2 (by omega) (by omega) (by omega)).mono ?_
        rintro e w3 ⟨rfl, bl3⟩
        rw [hcm]
        clear hcm
        have s3 := bl3.size
        have bw3 : Below w.heap.size w w3 := bw2.trans (bl3.mono (by omega))
        have o23 := o2.below bl3 (Nat.le_refl _)
        have oq3 := oq2.below bl3 (Nat.le_refl _)
        go_wp2_with fail
        refine (refTwice_any 0 (by omega) oq3.rd (Nat.le_refl _) (by omega)).mono ?_
        rintro e w5 ⟨q5, can5, v5, a5, c5, rfl, o5, bl5⟩
        have s5 := bl5.size
        have HV5 : Hid (val q5 = 2 * val qs) := by unfold Hid; omega
        clear v5
        go_wp2
        go_roundw
        case rel => exact ⟨k, q5, r2, a5, c5, a2, q2, by omega, by go_num, can5, c2, (by
          unfold Hid; rw [HV5.out]; refine ⟨?_, HGE.out⟩; rw [HV2.out]; exact HST.out.1), rfl, rfl, o5.mono (by omega), (o23.below bl5 (Nat.le_refl _)).mono (by omega), bw3.trans (bl5.mono (by omega))⟩
        case measure => simp [intOf]
end Go.Proofs.YtibciilhfpgjjaaDoor

/- The document's half. -/
namespace Go.Proofs.YtibciilhfpgjjaaDoor
set_option linter.unusedVariables false
set_option linter.unusedSimpArgs false
open Go.RowKit

/-- append onto a slice of the call's own, as one step of a region that draws. -/
theorem step_append_own {P : Program} {ops : Array Oper} {o : Oper} {a : Act} {w : World} {K : Act → World → Prop} {Q : Exit → Act → World → Prop} {E : Prop} (hg : o.guard = none) (s x : Operand) (t : TypeId)
    (ho : o.op = .call { callee := .builtin .append, args := #[s, x], argTypes := #[t, t] })
    (base : Nat) (e : TypeId) (i : TypeInfo) (z : Value) (size bytes : Nat) (ht : P.underlying t = some (.slice e)) (hi : P.info? e = some i) (hz : i.zero = some z)
    (hsize : i.size = size) (hby : i.bytes = bytes) (hzs : z.cells.size = size) (hsz : 0 < size)
    (v : Value) (n : Nat) (xs : List Value) (hs : a.eval s = v) (hown : w.ownsRow base e size v n xs)
    (ad : Addr) (m c : Nat) (news : List Value) (hx : a.eval x = .slice (some ad) m c) (hl : news.length = m * size) (hnews : ∀ j u, news[j]? = some u → w.cell? (ad.add j) = some u) (h1 : ∀ u ∈ news, u.oneCell' = true)
    (h63 : n + m ≤ maxLen) (hbytes : (n + m) * bytes ≤ 140737488355328) (hbase : base ≤ w.heap.size)
    (hK : ∀ v' w', w'.ownsRow base e size v' (n + m) (xs ++ news) → w.grownBy w' v.ownBlock → K (a.put o.dst v') w') :
    if Region.wanted o (yielded ops a.tmps) = true then Oper.wp P o a w K Q else E := by
  rw [if_pos (by simp [Region.wanted, hg])]
  exact wp_append_own w s x t ho base e i z size bytes ht hi hz hsize hby hzs hsz v n xs hs hown ad m c news hx hl hnews h1 h63 hbytes hbase fun v' w' h2 h3 _ => hK v' w' h2 h3

set_option maxRecDepth 100000 in
set_option maxHeartbeats 16000000 in
/-- The document's half: a number by 2. -/
theorem refHalf_any {B : Nat} {w : World} {v : Value} {xs : List Int} (h : Rd B w v xs) (hB : B ≤ w.heap.size) (hn : xs.length ≤ 1000000000) :
    Calls Tryd.prog 76 #[v] w fun e w' => ∃ zs, can zs ∧ val zs = val xs / 2 ∧ Makes w e w' zs := by
  obtain ⟨i0, hi, hz0, hz1, hz2⟩ := info_parts info_u32
  have lx := h.lim
  have hh := h
  obtain ⟨_, a1, c1, rfl, hcap0, hcap, _, kp⟩ := h
  go_enter Tryd.func76, Tryd.ntmps76
  go_wp2
  go_loopw [3, 4] (fun s ii wr => ∃ (i : Nat) (us : List Int) (a : Option Addr) (c : Nat), i ≤ xs.length ∧ ii = .int .i64 i ∧ Hid (us.length = i) ∧ s = .slice a us.length c ∧ Own w.heap.size wr (.slice a us.length c) us ∧ Below w.heap.size w wr ∧ Hid (2 * val us + xs.getD 0 0 % 2 = val (xs.take i) + xs.getD i 0 % 2 * pw i))
    (fun _ ii _ => xs.length - (intOf ii).toNat)
  case atStart => exact ⟨0, [], none, 0, by omega, rfl, rfl, rfl, own_nil _ _, Below.refl _ _, by unfold Hid; simp [val, pw_zero]⟩
  case round =>
    obtain ⟨i, us, a, c, hiM, rfl, hul, rfl, hown, hbl, hval⟩ := hrel
    have hs := hbl.size
    have huL : us.length = i := hul.out
    have HUL : us.length ≤ 2000000000 := by omega
    clear huL
    by_cases hgo : i < xs.length
    · rcases kp with kp | ⟨b, o, rfl, hbB, kp⟩
      · omega
      have rx := lim_getD lx i
      have ry := lim_getD lx (i + 1)
      have hc : wr.cell? ⟨b, o + i, none⟩ = some (.int .u32 (xs.getD i 0)) := (hbl.cell (by show b < w.heap.size; omega)).trans (kp i hgo)
      have rr := hh.below (hbl.mono hB)
      have rrd : Rd B wr.drew (.slice (some ⟨b, o, none⟩) xs.length c1) xs := rr
      have k1 := limb_rd rrd (i + 1)
      clear rr rrd
      rw [show (((i + 1 : Nat)) : Int) = (i : Int) + 1 by omega] at k1
      have hstep := half_step us xs i (xs.getD i 0 / 2 + xs.getD (i + 1) 0 % 2 * 2147483648) _ hul.out hgo hval.out (by omega)
      have hor := or_high (xs.getD i 0) (xs.getD (i + 1) 0 % 2) rx (by omega)
      have hand := and_one_u64 (xs.getD (i + 1) 0) ry.1 ry.2
      have HST : Hid (2 * val (us ++ [xs.getD i 0 / 2 + xs.getD (i + 1) 0 % 2 * 2147483648]) + xs.getD 0 0 % 2 = val (xs.take (i + 1)) + xs.getD (i + 1) 0 % 2 * pw (i + 1)) := hstep
      clear hstep kp
      generalize hX : xs.getD i 0 = X at *
      generalize hY : xs.getD (i + 1) 0 = Y at *
      have hwr : IntKind.i64.wrap ((i : Int) + 1) = (i : Int) + 1 := by rw [IntKind.wrap_i64]; omega
      have hw1 : IntKind.u32.wrap (Y % 2) = Y % 2 := by rw [IntKind.wrap_u32]; omega
      have hw2 : IntKind.u32.wrap (Y % 2 * 2147483648) = Y % 2 * 2147483648 := by rw [IntKind.wrap_u32]; omega
      have hbd : Below w.heap.size w wr.drew := ⟨hbl.os, hbl.tape, hbl.output, hbl.size, hbl.block⟩
      have hcw : w.cell? ⟨b, o + i, none⟩ = some (.int .u32 X) := by rw [← hc]; exact (hbl.cell (p := ⟨b, o + i, none⟩) (by show b < w.heap.size; omega)).symm
      have hcd : wr.drew.cell? ⟨b, o + i, none⟩ = some (.int .u32 X) := hc
      go_wp2
      go_region_held3 (fun w' => w'.cell? ⟨b, o + i, none⟩ = some (.int .u32 X))
        (first | go_keep | exact hc2)
        (first
          | (go_at_call 48; refine k1.mono ?_; rintro e w' ⟨rfl, rfl⟩)
          | (refine step_append_own rfl _ _ 22 rfl w.heap.size 39 i0 (.int .u32 0) 1 4 Tryd.underlying22 hi hz0 hz1 hz2 rfl (by decide) _ us.length (us.map (Value.int .u32)) rfl (hown.drew.2.alloc _) ⟨wr.heap.size, 0, none⟩ 1 1 [_] rfl rfl (cell1_new wr.drew _ _) (by intro u hu; simp at hu; subst hu; rfl) (by unfold maxLen; omega) (by omega) (by simp; omega) ?_; intro v' w2 hown' hgrow; have hb2 : Below w.heap.size w w2 := (hbd.alloc hs _).grown hgrow (by simp; omega) (fun k hk => (hown.2.lt k hk).1); have hc2 : w2.cell? ⟨b, o + i, none⟩ = some (.int .u32 X) := by rw [← hcw]; exact hb2.cell (by show b < w.heap.size; omega)))
      have hO := own_push hown.lim (by omega) hown'
      obtain ⟨a3, c3, hv3⟩ := hO.form
      rw [hv3] at hO ⊢
      clear hown' hgrow hv3 hown hor hand
      go_wp2
      go_roundw
      case rel => exact ⟨i + 1, us ++ [X / 2 + Y % 2 * 2147483648], a3, c3, by omega, by go_num, (by unfold Hid; rw [List.length_append, hul.out]; rfl), rfl, hO, hb2, (by rw [hY]; exact HST)⟩
      case measure => simp [intOf]; omega
    · obtain rfl : i = xs.length := by omega
      have hfin := half_end us xs hval.out
      have HF : Hid (val us = val xs / 2) := hfin
      have hlen : us.length * 4 ≤ 140737488355328 := by omega
      clear hfin kp
      go_wp2_with fail
      refine (refTrim_rd hown.rd hlen).mono ?_
      rintro e w3 ⟨a3, c3, rfl, ho3, hb3⟩
      go_wp2
      go_ret
      exact ⟨tr us, tr_can hown.lim, by rw [val_tr]; exact HF.out, Makes.of rfl (ho3.mono hs) (hbl.trans (hb3.mono hs))⟩
end Go.Proofs.YtibciilhfpgjjaaDoor

/- The document's greatest common divisor. -/
namespace Go.Proofs.YtibciilhfpgjjaaDoor
set_option linter.unusedVariables false
set_option linter.unusedSimpArgs false
open Go.RowKit

theorem pos_len {zs : List Int} (h : can zs) (hl : ¬ zs.length = 0) : 0 < val zs := by
  have h1 := can_low h (by omega)
  have h2 := pw_pos (zs.length - 1)
  omega

theorem len_val {zs : List Int} (h : can zs) (hv : ¬ val zs = 0) : ¬ zs.length = 0 := fun e => hv ((can_zero h).1 e)

/-- The lowest limb of a number that is not 0. -/
theorem low_cell {base : Nat} {w : World} {a : Option Addr} {c : Nat} {zs : List Int} (h : Own base w (.slice a zs.length c) zs) (hl : ¬ zs.length = 0) : ∃ g o, a = some ⟨g, o, none⟩ ∧ w.cell? ⟨g, o, none⟩ = some (.int .u32 (zs.getD 0 0)) := by
  obtain ⟨_, _, _, e1, _, _, _, r1⟩ := h.rd
  rcases r1 with r1 | ⟨g1, f1, ea1, _, k1⟩
  · exact absurd r1 hl
  cases e1
  exact ⟨g1, f1, ea1, k1 0 (by omega)⟩

theorem twos_bound {A x : Int} {t L : Nat} (h : A = p2 t * x) (hx : 0 < x) (hA : A < pw L) : t < 32 * L := by
  by_cases hle : t < 32 * L
  · exact hle
  · have h1 := p2_mono (show 32 * L ≤ t by omega)
    rw [← pw_p2] at h1
    have h2 : p2 t * 1 ≤ p2 t * x := Int.mul_le_mul_of_nonneg_left (by omega) (Int.le_of_lt (p2_pos t))
    omega

/-- How a pair stands in the second loop: not both are even and not 0. -/
def Odd1 (x y : Int) : Prop := x = 0 ∨ y = 0 ∨ ¬ x % 2 = 0 ∨ ¬ y % 2 = 0

set_option maxRecDepth 100000 in
set_option maxHeartbeats 6400000 in
theorem refgcd_any {B1 B2 : Nat} {w : World} {v1 v2 : Value} {xs ys : List Int} (h1 : Rd B1 w v1 xs) (b1 : B1 ≤ w.heap.size) (h2 : Rd B2 w v2 ys) (b2 : B2 ≤ w.heap.size) (L : Nat) (n1 : xs.length ≤ L) (n2 : ys.length ≤ L) (hL : L ≤ 1000000) :
    Calls Tryd.prog 58 #[v1, v2] w fun e w' => ∃ zs, can zs ∧ val zs = gI (val xs) (val ys) ∧ zs.length ≤ L + 1 ∧ Makes w e w' zs := by
  have hA := val_bound h1.lim
  have hY := val_bound h2.lim
  have ca := tr_can h1.lim
  have cb := tr_can h2.lim
  have va := val_tr xs
  have vb := val_tr ys
  have HA : Hid (0 ≤ val xs ∧ val xs < pw L) := ⟨hA.1, by have := pw_mono n1; omega⟩
  have HY : Hid (0 ≤ val ys ∧ val ys < pw L) := ⟨hY.1, by have := pw_mono n2; omega⟩
  have HVA : Hid (val (tr xs) = val xs ∧ val (tr ys) = val ys) := ⟨va, vb⟩
  have la := tr_length_le xs
  have lb := tr_length_le ys
  clear hA hY va vb
  go_enter Tryd.func58, Tryd.ntmps58
  go_wp2_with fail
  refine (refTrim_rd h1 (by omega)).mono ?_
  rintro e wa ⟨a1, q1, rfl, o1, ba⟩
  have sa := ba.size
  go_wp2_with fail
  refine (refTrim_rd (h2.below (ba.mono b2)) (by omega)).mono ?_
  rintro e wb ⟨a2, q2, rfl, o2, bb⟩
  have sb := bb.size
  have bw : Below w.heap.size w wb := ba.trans (bb.mono sa)
  have o1' := o1.below bb (Nat.le_refl _)
  have o2' : Own w.heap.size wb (.slice a2 (tr ys).length q2) (tr ys) := o2.mono sa
  clear o1 o2 ba bb sa sb
  go_wp2
  go_loopg [0, 1, 5] (val xs).toNat (fun g A Bv tt wr => ∃ (t : Nat) (us vs : List Int) (a : Option Addr) (c : Nat) (a' : Option Addr) (c' : Nat), Hid (g = (val us).toNat) ∧ tt = .int .i64 t ∧ t ≤ 32 * L ∧ can us ∧ can vs ∧ Hid (val xs = p2 t * val us ∧ val ys = p2 t * val vs) ∧ us.length ≤ L ∧ vs.length ≤ L ∧ A = .slice a us.length c ∧ Bv = .slice a' vs.length c' ∧ Own w.heap.size wr (.slice a us.length c) us ∧ Own w.heap.size wr (.slice a' vs.length c') vs ∧ Below w.heap.size w wr)
  case atStart => exact ⟨0, tr xs, tr ys, a1, q1, a2, q2, (by unfold Hid; rw [HVA.out.1]), rfl, by omega, ca, cb, (by unfold Hid; rw [HVA.out.1, HVA.out.2]; simp [p2]), by omega, by omega, rfl, rfl, o1', o2', bw⟩
  case round =>
    obtain ⟨t, us, vs, a, c, a', c', hg, rfl, htL, cu, cv, hval, lu, lv, rfl, rfl, ou, ov, hbl⟩ := hrel
    have hs := hbl.size
    have hun := (val_bound cu.1).1
    have hvn := (val_bound cv.1).1
    have hcases : (¬ 0 < us.length) ∨ (0 < us.length ∧ ¬ 0 < vs.length) ∨ (0 < us.length ∧ 0 < vs.length ∧ ¬ us.getD 0 0 % 2 = 0) ∨ (0 < us.length ∧ 0 < vs.length ∧ us.getD 0 0 % 2 = 0 ∧ ¬ vs.getD 0 0 % 2 = 0) ∨ (0 < us.length ∧ 0 < vs.length ∧ us.getD 0 0 % 2 = 0 ∧ vs.getD 0 0 % 2 = 0) := by omega
    have mu := val_mod2 us
    have mv := val_mod2 vs
    have ru := lim_getD cu.1 0
    have rv := lim_getD cv.1 0
    have hexit : ∀ {p : Prop}, (us.length = 0 ∨ vs.length = 0 ∨ ¬ us.getD 0 0 % 2 = 0 ∨ ¬ vs.getD 0 0 % 2 = 0) → Odd1 (val us) (val vs) := by
      intro _ h
      rcases h with h | h | h | h
      · exact Or.inl ((can_zero cu).1 h)
      · exact Or.inr (Or.inl ((can_zero cv).1 h))
      · exact Or.inr (Or.inr (Or.inl (by omega)))
      · exact Or.inr (Or.inr (Or.inr (by omega)))
    rcases hcases with q0 | ⟨q0, q1⟩ | ⟨q0, q1, q2⟩ | ⟨q0, q1, q2, q3⟩ | ⟨q0, q1, q2, q3⟩
    rotate_right
    · -- both even
      obtain ⟨g1, f1, rfl, k1⟩ := low_cell ou (by omega)
      obtain ⟨g2, f2, rfl, k2⟩ := low_cell ov (by omega)
      have e1 : bits .and .u32 (us.getD 0 0) 1 = 0 := by rw [and_one_u32 _ ru.1 ru.2]; exact q2
      have e2 : bits .and .u32 (vs.getD 0 0) 1 = 0 := by rw [and_one_u32 _ rv.1 rv.2]; exact q3
      have hup := pos_len cu (by omega)
      have hmu : val us % 2 = 0 := by omega
      have hmv : val vs % 2 = 0 := by omega
      have htb := twos_bound hval.out.1 hup HA.out.2
      have HM : Hid (val us % 2 = 0 ∧ val vs % 2 = 0 ∧ 0 < val us ∧ 0 ≤ val vs) := ⟨hmu, hmv, hup, hvn⟩
      clear hup hmu hmv mu mv hexit hun hvn
      generalize us.getD 0 0 = U at *
      generalize vs.getD 0 0 = V at *
      go_wp2_with fail
      refine (refHalf_any ou.rd (Nat.le_refl _) (by omega)).mono ?_
      rintro e w1 ⟨z1, cz1, vz1, a3, c3, rfl, o3, b3⟩
      have s3 := b3.size
      have ov3 := ov.below b3 (Nat.le_refl _)
      have HZ1 : Hid (val z1 = val us / 2) := vz1
      clear vz1
      go_wp2_with fail
      refine (refHalf_any ov3.rd (Nat.le_refl _) (by omega)).mono ?_
      rintro e w2 ⟨z2, cz2, vz2, a4, c4, rfl, o4, b4⟩
      have s4 := b4.size
      have HZ2 : Hid (val z2 = val vs / 2) := vz2
      clear vz2
      have o34 := o3.below b4 (Nat.le_refl _)
      have l1 : z1.length ≤ us.length := len_of_lt cz1 (by
        have := (val_bound cu.1).2; have := HZ1.out; have := HM.out; omega)
      have l2 : z2.length ≤ vs.length := len_of_lt cz2 (by
        have := (val_bound cv.1).2; have := HZ2.out; have := HM.out; omega)
      go_wp2
      go_roundg (val z1).toNat
      case measure => have := hg.out; have := HZ1.out; have := HM.out; omega
      case rel => exact ⟨t + 1, z1, z2, a3, c3, a4, c4, rfl, by go_num, by omega, cz1, cz2, (by
        unfold Hid
        have h3 := hval.out
        have h4 := HM.out
        rw [p2_succ, HZ1.out, HZ2.out]
        have e3 : 2 * p2 t * (val us / 2) = p2 t * val us := by
          rw [Int.mul_comm 2, Int.mul_assoc]; congr 1; omega
        have e4 : 2 * p2 t * (val vs / 2) = p2 t * val vs := by
          rw [Int.mul_comm 2, Int.mul_assoc]; congr 1; omega
        rw [e3, e4]; exact h3), by omega, by omega, rfl, rfl, o34.mono hs, o4.mono (by omega), hbl.trans ((b3.mono hs).trans (b4.mono (by omega)))⟩
    case' inl => have ho := hexit (p := True) (Or.inl (by omega))
    case' inr.inl => have ho := hexit (p := True) (Or.inr (Or.inl (by omega)))
    case' inr.inr.inl =>
      have ho := hexit (p := True) (Or.inr (Or.inr (Or.inl q2)))
      obtain ⟨g1, f1, rfl, k1⟩ := low_cell ou (by omega)
      have e1 : bits .and .u32 (us.getD 0 0) 1 = 1 := by rw [and_one_u32 _ ru.1 ru.2]; omega
    case' inr.inr.inr.inl =>
      have ho := hexit (p := True) (Or.inr (Or.inr (Or.inr q3)))
      obtain ⟨g1, f1, rfl, k1⟩ := low_cell ou (by omega)
      obtain ⟨g2, f2, rfl, k2⟩ := low_cell ov (by omega)
      have e1 : bits .and .u32 (us.getD 0 0) 1 = 0 := by rw [and_one_u32 _ ru.1 ru.2]; exact q2
      have e2 : bits .and .u32 (vs.getD 0 0) 1 = 1 := by rw [and_one_u32 _ rv.1 rv.2]; omega
    all_goals
      have HO : Hid (Odd1 (val us) (val vs)) := ho
      clear hexit ho mu mv
      generalize us.getD 0 0 = U at *
      generalize vs.getD 0 0 = V at *
      obtain ⟨G, hG⟩ : ∃ G, Hid (G = gI (val us) (val vs)) := ⟨_, rfl⟩
      have HVAL : Hid (p2 t * G = gI (val xs) (val ys)) := by
        unfold Hid; rw [hG.out, hval.out.1, hval.out.2, gI_p2 t _ _ hun hvn]
      clear hun hvn
      go_wp2
      go_loopg [0, 1] (val us + val vs).toNat (fun g A Bv wr2 => ∃ (us2 vs2 : List Int) (a2 : Option Addr) (c2 : Nat) (a2' : Option Addr) (c2' : Nat), Hid (g = (val us2 + val vs2).toNat) ∧ can us2 ∧ can vs2 ∧ Hid (G = gI (val us2) (val vs2) ∧ Odd1 (val us2) (val vs2)) ∧ us2.length ≤ L ∧ vs2.length ≤ L ∧ A = .slice a2 us2.length c2 ∧ Bv = .slice a2' vs2.length c2' ∧ Own w.heap.size wr2 (.slice a2 us2.length c2) us2 ∧ Own w.heap.size wr2 (.slice a2' vs2.length c2') vs2 ∧ Below w.heap.size w wr2)
      case atStart => exact ⟨us, vs, _, c, _, c', rfl, cu, cv, ⟨hG.out, HO.out⟩, lu, lv, rfl, rfl, ou, ov, hbl⟩
      case round =>
        clear q0 ou ov hbl hs ru rv cu cv lu lv hval hg hG HO
        obtain ⟨us2, vs2, a2, c2, a2', c2', hg2, cu2, cv2, hval2, lu2, lv2, rfl, rfl, ou2, ov2, hbl2⟩ := hrel
        have hs2 := hbl2.size
        have hun := (val_bound cu2.1).1
        have hvn := (val_bound cv2.1).1
        have HN : Hid (0 ≤ val us2 ∧ 0 ≤ val vs2) := ⟨hun, hvn⟩
        clear hun hvn
        by_cases hend : us2.length = 0 ∨ vs2.length = 0
        · have HG : Hid (val us2 + val vs2 = G) := by
            unfold Hid
            have h3 := HN.out
            rw [hval2.out.1]
            rcases hend with h | h
            · rw [(can_zero cu2).1 h, gI_zero_left _ h3.2]; omega
            · rw [(can_zero cv2).1 h, gI_zero _ h3.1]; omega
          have hend2 : (¬ 0 < us2.length) ∨ (0 < us2.length ∧ ¬ 0 < vs2.length) := by omega
          clear hend
          rcases hend2 with h5 | ⟨h5, h6⟩
          all_goals
            go_wp2_with fail
            refine (refAdd_any ou2.rd (Nat.le_refl _) ov2.rd (Nat.le_refl _) (by omega) (by omega)).mono ?_
            rintro e w3 ⟨zs, cz, vz, lz, a3, c3, rfl, o3, b3⟩
            have s3 := b3.size
            rw [HG.out] at vz
            have HZ : Hid (val zs * p2 t = gI (val xs) (val ys)) := by unfold Hid; rw [vz, Int.mul_comm]; exact HVAL.out
            clear vz h5
            have bw3 : Below w.heap.size w w3 := hbl2.trans (b3.mono hs2)
            go_wp2
            go_loopw [5, 6] (fun tt gg wr3 => ∃ (t' : Nat) (us3 : List Int) (a4 : Option Addr) (c4 : Nat), t' ≤ t ∧ tt = .int .i64 t' ∧ can us3 ∧ Hid (val us3 * p2 t' = gI (val xs) (val ys)) ∧ us3.length ≤ L + 1 ∧ gg = .slice a4 us3.length c4 ∧ Own w.heap.size wr3 (.slice a4 us3.length c4) us3 ∧ Below w.heap.size w wr3)
              (fun tt _ _ => (intOf tt).toNat)
            case atStart => exact ⟨t, zs, a3, c3, Nat.le_refl _, rfl, cz, HZ, by omega, rfl, o3.mono hs2, bw3⟩
            case round =>
              obtain ⟨t', us3, a4, c4, htt, rfl, cu3, hval3, lu3, rfl, ou3, hbl3⟩ := hrel
              have hs3 := hbl3.size
              by_cases ht0 : t' = 0
              · subst ht0
                have HE : Hid (val us3 = gI (val xs) (val ys)) := by have := hval3.out; unfold Hid; simpa [p2] using this
                go_wp2
                go_ret
                exact ⟨us3, cu3, HE.out, lu3, a4, c4, rfl, ou3, hbl3⟩
              · go_wp2_with fail
                refine (refTwice_any 0 (by omega) ou3.rd (Nat.le_refl _) (by omega)).mono ?_
                rintro e w5 ⟨z5, can5, v5, a5, c5, rfl, o5, bl5⟩
                have HV5 : Hid (val z5 * p2 (t' - 1) = gI (val xs) (val ys)) := by
                  unfold Hid
                  rw [v5, ← hval3.out]
                  obtain ⟨k, rfl⟩ : ∃ k, t' = k + 1 := ⟨t' - 1, by omega⟩
                  rw [p2_succ, Int.add_zero, Nat.add_sub_cancel, Int.mul_assoc, Int.mul_left_comm]
                have hl5 : z5.length ≤ L + 1 := len_of_lt can5 (by
                  have h6 := gI_le (val xs) (val ys) HA.out.1 HY.out.1
                  have h7 := HA.out
                  have h8 := HY.out
                  have h9 : val z5 * 1 ≤ val z5 * p2 (t' - 1) := Int.mul_le_mul_of_nonneg_left (by have := p2_pos (t' - 1); omega) (val_bound can5.1).1
                  have := HV5.out
                  rw [pw_succ]
                  omega)
                clear v5
                go_wp2
                go_roundw
                case rel => exact ⟨t' - 1, z5, a5, c5, by omega, by go_num, can5, HV5, hl5, rfl, o5.mono hs3, hbl3.trans (bl5.mono hs3)⟩
                case measure => simp [intOf]; omega
        · have hu1 : 0 < us2.length := by omega
          have hv1 : 0 < vs2.length := by omega
          clear hend
          have hup := pos_len cu2 (by omega)
          have hvp := pos_len cv2 (by omega)
          have mu := val_mod2 us2
          have mv := val_mod2 vs2
          have ru := lim_getD cu2.1 0
          have rv := lim_getD cv2.1 0
          have bu := (val_bound cu2.1).2
          have bv := (val_bound cv2.1).2
          have HP : Hid (0 < val us2 ∧ 0 < val vs2 ∧ val us2 < pw us2.length ∧ val vs2 < pw vs2.length) := ⟨hup, hvp, bu, bv⟩
          obtain ⟨g1, f1, rfl, k1⟩ := low_cell ou2 (by omega)
          obtain ⟨g2, f2, rfl, k2⟩ := low_cell ov2 (by omega)
          have hodd := hval2.out.2
          have hG2 := hval2.out.1
          clear hup hvp bu bv
          by_cases hue : us2.getD 0 0 % 2 = 0
          · have e1 : bits .and .u32 (us2.getD 0 0) 1 = 0 := by rw [and_one_u32 _ ru.1 ru.2]; exact hue
            have hvo : ¬ val vs2 % 2 = 0 := by
              rcases hodd with h | h | h | h
              · have := HP.out; omega
              · have := HP.out; omega
              · exact absurd (mu.trans hue) h
              · exact h
            have HG3 : Hid (G = gI (val us2 / 2) (val vs2) ∧ Odd1 (val us2 / 2) (val vs2)) := ⟨by rw [hG2]; exact gI_even _ _ HN.out.1 HN.out.2 (mu.trans hue) hvo, Or.inr (Or.inr (Or.inr hvo))⟩
            clear hodd hG2 hvo mu mv hval2
            generalize us2.getD 0 0 = U at *
            generalize vs2.getD 0 0 = V at *
            go_wp2_with fail
            refine (refHalf_any ou2.rd (Nat.le_refl _) (by omega)).mono ?_
            rintro e w3 ⟨z1, cz1, vz1, a3, c3, rfl, o3, b3⟩
            have s3 := b3.size
            have ov3 := ov2.below b3 (Nat.le_refl _)
            rw [← vz1] at HG3
            have HZ1 : Hid (val z1 = val us2 / 2) := vz1
            clear vz1
            have l1 : z1.length ≤ us2.length := len_of_lt cz1 (by have := HZ1.out; have := HP.out; omega)
            go_wp2
            go_roundg (val z1 + val vs2).toNat
            case measure => have := hg2.out; have := HZ1.out; have := HP.out; omega
            case rel => exact ⟨z1, vs2, a3, c3, _, c2', rfl, cz1, cv2, HG3, by omega, lv2, rfl, rfl, o3.mono hs2, ov3, hbl2.trans (b3.mono hs2)⟩
          · have e1 : bits .and .u32 (us2.getD 0 0) 1 = 1 := by rw [and_one_u32 _ ru.1 ru.2]; omega
            have huo : ¬ val us2 % 2 = 0 := fun h => hue (mu.symm.trans h)
            by_cases hve : vs2.getD 0 0 % 2 = 0
            · have e2 : bits .and .u32 (vs2.getD 0 0) 1 = 0 := by rw [and_one_u32 _ rv.1 rv.2]; exact hve
              have HG3 : Hid (G = gI (val us2) (val vs2 / 2) ∧ Odd1 (val us2) (val vs2 / 2)) := ⟨by rw [hG2]; exact gI_even' _ _ HN.out.1 HN.out.2 (mv.trans hve) huo, Or.inr (Or.inr (Or.inl huo))⟩
              clear hodd hG2 huo mu mv hval2
              generalize us2.getD 0 0 = U at *
              generalize vs2.getD 0 0 = V at *
              go_wp2_with fail
              refine (refHalf_any ov2.rd (Nat.le_refl _) (by omega)).mono ?_
              rintro e w3 ⟨z1, cz1, vz1, a3, c3, rfl, o3, b3⟩
              have s3 := b3.size
              have ou3 := ou2.below b3 (Nat.le_refl _)
              rw [← vz1] at HG3
              have HZ1 : Hid (val z1 = val vs2 / 2) := vz1
              clear vz1
              have l1 : z1.length ≤ vs2.length := len_of_lt cz1 (by have := HZ1.out; have := HP.out; omega)
              go_wp2
              go_roundg (val us2 + val z1).toNat
              case measure => have := hg2.out; have := HZ1.out; have := HP.out; omega
              case rel => exact ⟨us2, z1, _, c2, a3, c3, rfl, cu2, cz1, HG3, lu2, by omega, rfl, rfl, ou3, o3.mono hs2, hbl2.trans (b3.mono hs2)⟩
            · have e2 : bits .and .u32 (vs2.getD 0 0) 1 = 1 := by rw [and_one_u32 _ rv.1 rv.2]; omega
              have hvo : ¬ val vs2 % 2 = 0 := fun h => hve (mv.symm.trans h)
              have HUV : Hid (¬ val us2 % 2 = 0 ∧ ¬ val vs2 % 2 = 0) := ⟨huo, hvo⟩
              clear hodd huo hvo mu mv
              generalize us2.getD 0 0 = U at *
              generalize vs2.getD 0 0 = V at *
              by_cases hge : val vs2 ≤ val us2
              · obtain ⟨cm, hcm, hcm0⟩ : ∃ cm, cmpI (val us2) (val vs2) = cm ∧ 0 ≤ cm := by
                  by_cases he : val us2 = val vs2
                  · exact ⟨0, cmpI_eq he, by omega⟩
                  · exact ⟨1, cmpI_gt (by omega), by omega⟩
                have HG3 : Hid (G = gI (val us2 - val vs2) (val vs2) ∧ Odd1 (val us2 - val vs2) (val vs2)) := ⟨by rw [hG2]; exact gI_sub _ _ HN.out.2 hge, Or.inr (Or.inr (Or.inr HUV.out.2))⟩
                have HGE : Hid (val vs2 ≤ val us2) := hge
                clear hge hG2 hval2
                go_wp2_with fail
                refine (refCompare_rd ou2.rd ov2.rd (Nat.le_refl _) (by omega) (by omega)).mono ?_
                rintro e w3 ⟨rfl, b3⟩
                rw [hcm]
                clear hcm
                have s3 := b3.size
                have ou3 := ou2.below b3 (Nat.le_refl _)
                have ov3 := ov2.below b3 (Nat.le_refl _)
                go_wp2_with fail
                refine (refMinus_any ou3.rd (Nat.le_refl _) ov3.rd (Nat.le_refl _) (by omega) (by omega)).mono ?_
                rintro e w4 ⟨bl4, hmin⟩
                rw [if_neg (by have := HGE.out; omega)] at hmin
                obtain ⟨z1, a4, c4, cz1, vz1, rfl, o4⟩ := hmin
                have s4 := bl4.size
                have ov4 := ov3.below bl4 (Nat.le_refl _)
                rw [← vz1] at HG3
                have HZ1 : Hid (val z1 = val us2 - val vs2) := vz1
                clear vz1
                have l1 : z1.length ≤ us2.length := len_of_lt cz1 (by have := HZ1.out; have := HP.out; omega)
                go_wp2
                go_roundg (val z1 + val vs2).toNat
                case measure => have := hg2.out; have := HZ1.out; have := HP.out; omega
                case rel => exact ⟨z1, vs2, a4, c4, _, c2', rfl, cz1, cv2, HG3, by omega, lv2, rfl, rfl, o4.mono (by omega), ov4, hbl2.trans ((b3.mono hs2).trans (bl4.mono (by omega)))⟩
              · have hcm := cmpI_lt (show val us2 < val vs2 by omega)
                have HG3 : Hid (G = gI (val us2) (val vs2 - val us2) ∧ Odd1 (val us2) (val vs2 - val us2)) := ⟨by rw [hG2]; exact gI_sub' _ _ HN.out.1 (by omega), Or.inr (Or.inr (Or.inl HUV.out.1))⟩
                have HGE : Hid (val us2 < val vs2) := by unfold Hid; omega
                clear hge hG2 hval2
                go_wp2_with fail
                refine (refCompare_rd ou2.rd ov2.rd (Nat.le_refl _) (by omega) (by omega)).mono ?_
                rintro e w3 ⟨rfl, b3⟩
                rw [hcm]
                clear hcm
                have s3 := b3.size
                have ou3 := ou2.below b3 (Nat.le_refl _)
                have ov3 := ov2.below b3 (Nat.le_refl _)
                go_wp2_with fail
                refine (refMinus_any ov3.rd (Nat.le_refl _) ou3.rd (Nat.le_refl _) (by omega) (by omega)).mono ?_
                rintro e w4 ⟨bl4, hmin⟩
                rw [if_neg (by have := HGE.out; omega)] at hmin
                obtain ⟨z1, a4, c4, cz1, vz1, rfl, o4⟩ := hmin
                have s4 := bl4.size
                have ou4 := ou3.below bl4 (Nat.le_refl _)
                rw [← vz1] at HG3
                have HZ1 : Hid (val z1 = val vs2 - val us2) := vz1
                clear vz1
                have l1 : z1.length ≤ vs2.length := len_of_lt cz1 (by have := HZ1.out; have := HP.out; omega)
                go_wp2
                go_roundg (val us2 + val z1).toNat
                case measure => have := hg2.out; have := HZ1.out; have := HP.out; omega
                case rel => exact ⟨us2, z1, _, c2, a4, c4, rfl, cu2, cz1, HG3, lu2, by omega, rfl, rfl, ou4, o4.mono (by omega), hbl2.trans ((b3.mono hs2).trans (bl4.mono (by omega)))⟩
end Go.Proofs.YtibciilhfpgjjaaDoor

/- The document's Gcd; both divisions in one form. -/
namespace Go.Proofs.YtibciilhfpgjjaaDoor
set_option linter.unusedVariables false
set_option linter.unusedSimpArgs false
open Go.RowKit

set_option maxHeartbeats 1600000 in
theorem refGcd_any {Lb k M : Nat} {vs : List Value} {xss : List (List Int)} {w : World} (hm : Many w Lb k vs xss) (hk : k ≤ 1000) (hM : M ≤ 100000) (hs : ∀ j, j < k → (xss.getD j []).length ≤ M) :
    Calls Tryd.prog 35 #[.slice (some ⟨Lb, 0, none⟩) k k] w fun e w' => ∃ zs, can zs ∧ val zs = gcdV xss ∧ Makes w e w' zs := by
  go_enter Tryd.func35, Tryd.ntmps35
  go_wp2
  go_loopw [3, 4] (fun s ii wr => ∃ (i : Nat) (zs : List Int) (a : Option Addr) (c : Nat), i ≤ k ∧ ii = .int .i64 i ∧ can zs ∧ Hid (val zs = gcdV (xss.take i)) ∧ zs.length ≤ M + i ∧ s = .slice a zs.length c ∧ Own w.heap.size wr (.slice a zs.length c) zs ∧ Below w.heap.size w wr)
    (fun _ ii _ => k - (intOf ii).toNat)
  case atStart => exact ⟨0, [], none, 0, Nat.zero_le _, rfl, can_nil, rfl, by simp, rfl, own_nil _ _, Below.refl _ _⟩
  case round =>
    obtain ⟨i, zs, a, c, hik, rfl, hcan, hval, hlen, rfl, hown, hbl⟩ := hrel
    by_cases hlt : i < k
    · have hcell : wr.cell? ⟨Lb, i, none⟩ = some (vs.getD i (.bool false)) := (hbl.cell hm.lt).trans (hm.cell i hlt)
      have hrd : Rd w.heap.size wr (vs.getD i (.bool false)) (xss.getD i []) := (hm.rd i hlt).below hbl
      have hsz := hbl.size
      have hl := hs i hlt
      have HE : Hid (gcdV (xss.take (i + 1)) = gI (gcdV (xss.take i)) (val (xss.getD i []))) := gcdV_succ xss i (by rw [hm.lx]; exact hlt)
      generalize hV : vs.getD i (.bool false) = V at *
      generalize xss.getD i [] = ys at *
      clear hV
      go_wp2_with fail
      refine (refgcd_any hown.rd (Nat.le_refl _) hrd hsz (M + i) hlen (by omega) (by omega)).mono ?_
      rintro e w2 ⟨us, cu, vu, lu, a3, c3, rfl, ho3, hb3⟩
      have HU : Hid (val us = gcdV (xss.take (i + 1))) := by unfold Hid; rw [HE.out, vu, hval.out]
      clear vu
      go_wp2
      go_roundw
      case rel => exact ⟨i + 1, us, a3, c3, by omega, by go_num, cu, HU, by omega, rfl, ho3.mono hsz, hbl.trans (hb3.mono hsz)⟩
      case measure => simp [intOf]; omega
    · obtain rfl : i = k := by omega
      go_wp2
      go_ret
      exact ⟨zs, hcan, by rw [hval.out, ← hm.lx, List.take_length], a, c, rfl, hown, hbl⟩

def DivSpec (A B : Int) (qs rs : List Int) (b : Bool) : Prop := (B = 0 ∧ qs = [] ∧ rs = [] ∧ b = false) ∨ (0 < B ∧ b = true ∧ can qs ∧ can rs ∧ A = val qs * B + val rs ∧ val rs < B)

theorem DivSpec.unique {A B : Int} {q r q' r' : List Int} {b b' : Bool} (h : DivSpec A B q r b) (h' : DivSpec A B q' r' b') : q = q' ∧ r = r' ∧ b = b' := by
  rcases h with ⟨e, rfl, rfl, rfl⟩ | ⟨h0, rfl, cq, cr, hv, hl⟩
  · rcases h' with ⟨_, rfl, rfl, rfl⟩ | ⟨h0, _⟩
    · exact ⟨rfl, rfl, rfl⟩
    · omega
  · rcases h' with ⟨e, _⟩ | ⟨_, rfl, cq', cr', hv', hl'⟩
    · omega
    · obtain ⟨e1, e2⟩ := div_unique A B _ _ _ _ hv (val_bound cr.1).1 hl hv' (val_bound cr'.1).1 hl'
      exact ⟨can_inj cq cq' e1, can_inj cr cr' e2, rfl⟩

def Divs (w : World) (A B : Int) (e : Ending) (w' : World) : Prop :=
  ∃ qs rs a c a2 c2 b, e = .returned (.tuple #[.slice a qs.length c, .slice a2 rs.length c2, .bool b]) ∧ Own w.heap.size w' (.slice a qs.length c) qs ∧ Own w.heap.size w' (.slice a2 rs.length c2) rs ∧ Hid (DivSpec A B qs rs b) ∧ Below w.heap.size w w'

theorem divMod_form {B1 B2 : Nat} {w : World} {v1 v2 : Value} {xs ys : List Int} (h1 : Rd B1 w v1 xs) (hB1 : B1 ≤ w.heap.size) (h2 : Rd B2 w v2 ys) (hB2 : B2 ≤ w.heap.size) (hn : xs.length ≤ 1000000) (hm : ys.length ≤ 1000000) :
    Calls Tryd.prog 32 #[v1, v2] w fun e w' => Divs w (val xs) (val ys) e w' := by
  by_cases h0 : val ys = 0
  · refine (divMod_zero h2 h0).mono ?_
    rintro e w' ⟨rfl, rfl⟩
    exact ⟨[], [], none, 0, none, 0, false, rfl, own_nil _ _, own_nil _ _, Or.inl ⟨h0, rfl, rfl, rfl⟩, Below.refl _ _⟩
  · refine (divMod_any h1 hB1 h2 hB2 h0 (by omega) (by omega)).mono ?_
    rintro e w' ⟨qs, rs, a, c, a2, c2, rfl, oq, or, cq, cr, hv, hl, _, _, hb⟩
    exact ⟨qs, rs, a, c, a2, c2, true, rfl, oq, or, Or.inr ⟨by have := (val_bound h2.lim).1; omega, rfl, cq, cr, hv, hl⟩, hb⟩

theorem refDivMod_form {B1 B2 : Nat} {w : World} {v1 v2 : Value} {xs ys : List Int} (h1 : Rd B1 w v1 xs) (hB1 : B1 ≤ w.heap.size) (h2 : Rd B2 w v2 ys) (hB2 : B2 ≤ w.heap.size) (hn : xs.length ≤ 1000000) (hm : ys.length ≤ 1000000) :
    Calls Tryd.prog 33 #[v1, v2] w fun e w' => Divs w (val xs) (val ys) e w' := by
  by_cases h0 : val ys = 0
  · refine (refDivMod_zero h2 hm h0).mono ?_
    rintro e w' ⟨rfl, hb⟩
    exact ⟨[], [], none, 0, none, 0, false, rfl, own_nil _ _, own_nil _ _, Or.inl ⟨h0, rfl, rfl, rfl⟩, hb⟩
  · refine (refDivMod_any h1 hB1 h2 hB2 hn hm h0).mono ?_
    rintro e w' ⟨qs, rs, a, c, a2, c2, rfl, oq, or, cq, cr, hv, hl, hb⟩
    exact ⟨qs, rs, a, c, a2, c2, true, rfl, oq, or, Or.inr ⟨by have := (val_bound h2.lim).1; omega, rfl, cq, cr, hv, hl⟩, hb⟩
end Go.Proofs.YtibciilhfpgjjaaDoor
