/- nat.word, nat.Small and the document's Small; the statements' helpers own and kept. -/
import Derived.Test.YtibciilhfpgjjaaDoorRef3
namespace Go.Proofs.YtibciilhfpgjjaaDoor
set_option linter.unusedVariables false
set_option linter.unusedSimpArgs false
open Go.RowKit

theorem or_zero_left (x : Int) (h : 0 ≤ x ∧ x < 18446744073709551616) : bits .or .u64 0 x = x := by
  obtain ⟨a, rfl⟩ := Int.eq_ofNat_of_zero_le h.1
  have := bits_or_u64_nat 0 a (by omega) (by omega)
  rw [Nat.zero_or] at this
  exact this
theorem or_add_right (q v : Int) (hq : 0 ≤ q ∧ q < 4294967296) (hv : 0 ≤ v ∧ v < 4294967296) : bits .or .u64 v (q * 4294967296) = v + q * 4294967296 := by
  obtain ⟨a, rfl⟩ := Int.eq_ofNat_of_zero_le hq.1
  obtain ⟨b, rfl⟩ := Int.eq_ofNat_of_zero_le hv.1
  have e : ((a : Int) * 4294967296) = ((a * 4294967296 : Nat) : Int) := by omega
  rw [e, bits_or_u64_nat _ _ (by omega) (by omega)]
  have h : b ||| a * 4294967296 = a * 4294967296 + b := by
    have := Nat.two_pow_add_eq_or_of_lt (i := 32) (b := b) (by omega) a
    rw [Nat.mul_comm, Nat.or_comm]
    exact this.symm
  rw [h]; omega

set_option maxHeartbeats 800000 in
theorem word_two (b o c : Nat) (x y : Int) (w : World) (hx : 0 ≤ x ∧ x < 4294967296) (hy : 0 ≤ y ∧ y < 4294967296) (k1 : w.cell? ⟨b, o, none⟩ = some (.int .u32 x)) (k2 : w.cell? ⟨b, o + 1, none⟩ = some (.int .u32 y)) :
    Calls Tryd.prog 42 #[.slice (some ⟨b, o, none⟩) 2 c] w fun e w' => e = .returned (.int .u64 (x + y * 4294967296)) ∧ w = w' := by
  have e1 := or_zero_left x (by omega)
  have e2 := or_add_right y x hy hx
  go_enter Tryd.func42, Tryd.ntmps42
  go_wp2
  refine wp_loop_rounds 3 ?_
  rw [rounds_succ]
  go_wp2
  rw [rounds_succ]
  go_wp2
  rw [rounds_succ]
  go_wp2
  go_ret
  exact ⟨rfl, rfl⟩

set_option maxHeartbeats 800000 in
theorem word_one (b o c : Nat) (x : Int) (w : World) (hx : 0 ≤ x ∧ x < 4294967296) (k1 : w.cell? ⟨b, o, none⟩ = some (.int .u32 x)) :
    Calls Tryd.prog 42 #[.slice (some ⟨b, o, none⟩) 1 c] w fun e w' => e = .returned (.int .u64 x) ∧ w = w' := by
  have e1 := or_zero_left x (by omega)
  go_enter Tryd.func42, Tryd.ntmps42
  go_wp2
  refine wp_loop_rounds 2 ?_
  rw [rounds_succ]
  go_wp2
  rw [rounds_succ]
  go_wp2
  go_ret
  exact ⟨rfl, rfl⟩
theorem word_zero (a : Option Addr) (c : Nat) (w : World) :
    Calls Tryd.prog 42 #[.slice a 0 c] w fun e w' => e = .returned (.int .u64 0) ∧ w = w' := by
  go_enter Tryd.func42, Tryd.ntmps42
  go_wp2
  refine wp_loop_rounds 1 ?_
  rw [rounds_succ]
  go_wp2
  go_ret
  exact ⟨rfl, rfl⟩

/-- nat.word of at most two limbs: the number. -/
theorem word_rd {B : Nat} {w : World} {v : Value} {xs : List Int} (h : Rd B w v xs) (h2 : xs.length ≤ 2) :
    Calls Tryd.prog 42 #[v] w fun e w' => e = .returned (.int .u64 (val xs)) ∧ w = w' := by
  obtain ⟨hl, a, c, rfl, _, _, _, r⟩ := h
  match xs, h2 with
  | [], _ => exact word_zero a c w
  | [x], _ =>
    rcases r with r | ⟨b, o, rfl, _, k⟩
    · simp at r
    · have e : val [x] = x := by simp [val]
      rw [e]
      exact word_one b o c x w (hl x (by simp)) (k 0 (by simp))
  | [x, y], _ =>
    rcases r with r | ⟨b, o, rfl, _, k⟩
    · simp at r
    · have e : val [x, y] = x + y * 4294967296 := by simp [val]; rw [Int.mul_comm]
      rw [e]
      exact word_two b o c x y w (hl x (by simp)) (hl y (by simp)) (k 0 (by simp)) (k 1 (by simp))

/-- A number as an int, if it is below 2^63. -/
def smallV (n : Int) : Value := .tuple #[.int .i64 (if n < 9223372036854775808 then n else 0), .bool (decide (n < 9223372036854775808))]

theorem smallV_lt {n : Int} (h : n < 9223372036854775808) : smallV n = .tuple #[.int .i64 n, .bool true] := by unfold smallV; rw [if_pos h, decide_eq_true h]
theorem smallV_ge {n : Int} (h : 9223372036854775808 ≤ n) : smallV n = .tuple #[.int .i64 0, .bool false] := by unfold smallV; rw [if_neg (by omega), decide_eq_false (by omega)]
theorem list_two {us : List Int} (h : us.length ≤ 2) : us = [] ∨ (∃ x, us = [x]) ∨ ∃ x y, us = [x, y] := by
  match us, h with
  | [], _ => exact Or.inl rfl
  | [x], _ => exact Or.inr (Or.inl ⟨x, rfl⟩)
  | [x, y], _ => exact Or.inr (Or.inr ⟨x, y, rfl⟩)

theorem isBits_63 {n : Int} {b : Nat} (h : isBits n b) (h0 : 0 ≤ n) : b ≤ 63 ↔ n < 9223372036854775808 := by
  have e : p2 63 = 9223372036854775808 := by decide
  rcases h with ⟨rfl, rfl⟩ | ⟨h1, h2, h3⟩
  · exact ⟨fun _ => by omega, fun _ => by omega⟩
  · constructor
    · intro hb
      have := p2_mono (j := b) (k := 63) hb
      omega
    · intro hn
      by_cases hb : b ≤ 63
      · exact hb
      · have := p2_mono (j := 63) (k := b - 1) (by omega)
        omega

theorem can_two {us : List Int} (h : can us) (hv : val us < 18446744073709551616) : us.length ≤ 2 := by
  by_cases hl : us.length ≤ 2
  · exact hl
  · have h1 := can_low h (by omega)
    have h2 := pw_mono (j := 2) (k := us.length - 1) (by omega)
    have e : pw 2 = 18446744073709551616 := by decide
    omega

set_option maxHeartbeats 800000 in
/-- nat.Small. -/
theorem small_any {B : Nat} {w : World} {v : Value} {xs : List Int} (h : Rd B w v xs) (hn : xs.length ≤ 17592186044415) :
    Calls Tryd.prog 10 #[v] w fun e w' => e = .returned (smallV (val xs)) ∧ w = w' := by
  have h0 := (val_bound h.lim).1
  have m := meant_rd h
  have t := h.meant
  have ct := tr_can h.lim
  rw [← tr_length] at m t
  have hv := val_tr xs
  go_enter Tryd.func10, Tryd.ntmps10
  go_wp2_with fail
  refine (bits_any h hn).mono ?_
  rintro e w' ⟨b, rfl, hb, hbl, rfl⟩
  have h63 := isBits_63 hb h0
  clear hb
  generalize hV : val xs = V at *
  by_cases hlt : V < 9223372036854775808
  · have hb63 : b ≤ 63 := h63.2 hlt
    have hl2 : (tr xs).length ≤ 2 := can_two ct (by omega)
    have hw := word_rd t hl2
    rw [hv] at hw
    have HV : Hid (val xs = V) := hV
    clear h63 hv hV
    go_wp2_with fail
    refine m.mono ?_
    rintro e w' ⟨rfl, rfl⟩
    go_wp2_with fail
    refine hw.mono ?_
    rintro e w' ⟨rfl, rfl⟩
    go_wp2
    go_ret2
    refine ⟨?_, rfl⟩
    rw [HV.out, smallV_lt hlt]; rfl
  · have hb63 : ¬ b ≤ 63 := fun hb => hlt (h63.1 hb)
    have hb63' : 63 < b := by omega
    have HV : Hid (val xs = V) := hV
    clear h63 hv hV
    go_wp2
    go_ret2
    refine ⟨?_, rfl⟩
    rw [HV.out, smallV_ge (by omega)]; rfl

theorem bits_or_i64_nat (a b : Nat) (ha : a < 9223372036854775808) (hb : b < 9223372036854775808) : bits .or .i64 (a : Int) (b : Int) = ((a ||| b : Nat) : Int) := by
  have hx : a ||| b < 2 ^ 63 := Nat.or_lt_two_pow (by omega) (by omega)
  have h1 : (BitVec.ofInt 64 (a : Int)).toNat = a := by
    rw [BitVec.ofInt_natCast, BitVec.toNat_ofNat]; exact Nat.mod_eq_of_lt (by omega)
  have h2 : (BitVec.ofInt 64 (b : Int)).toNat = b := by
    rw [BitVec.ofInt_natCast, BitVec.toNat_ofNat]; exact Nat.mod_eq_of_lt (by omega)
  show IntKind.i64.wrap ((BitVec.ofInt 64 (a : Int) ||| BitVec.ofInt 64 (b : Int)).toNat : Int) = _
  rw [BitVec.toNat_or, h1, h2, IntKind.wrap_i64]
  omega
theorem or_zero_i64 (x : Int) (h : 0 ≤ x ∧ x < 9223372036854775808) : bits .or .i64 0 x = x := by
  obtain ⟨a, rfl⟩ := Int.eq_ofNat_of_zero_le h.1
  have := bits_or_i64_nat 0 a (by omega) (by omega)
  rw [Nat.zero_or] at this
  exact this
theorem or_add_i64 (q v : Int) (hq : 0 ≤ q ∧ q < 2147483648) (hv : 0 ≤ v ∧ v < 4294967296) : bits .or .i64 (q * 4294967296) v = q * 4294967296 + v := by
  obtain ⟨a, rfl⟩ := Int.eq_ofNat_of_zero_le hq.1
  obtain ⟨b, rfl⟩ := Int.eq_ofNat_of_zero_le hv.1
  have e : ((a : Int) * 4294967296) = ((a * 4294967296 : Nat) : Int) := by omega
  rw [e, bits_or_i64_nat _ _ (by omega) (by omega)]
  have h : a * 4294967296 ||| b = a * 4294967296 + b := by
    have := Nat.two_pow_add_eq_or_of_lt (i := 32) (b := b) (by omega) a
    rw [Nat.mul_comm]
    exact this.symm
  rw [h]; omega

set_option maxRecDepth 100000 in
set_option maxHeartbeats 1600000 in
/-- The document's Small. -/
theorem refSmall_any {B : Nat} {w : World} {v : Value} {xs : List Int} (h : Rd B w v xs) (hn : xs.length ≤ 17592186044415) :
    Calls Tryd.prog 11 #[v] w fun e w' => e = .returned (smallV (val xs)) ∧ Below w.heap.size w w' := by
  have hle := tr_length_le xs
  have ct := tr_can h.lim
  have hv := val_tr xs
  go_enter Tryd.func11, Tryd.ntmps11
  go_wp2_with fail
  refine (refTrim_rd h (by omega)).mono ?_
  rintro e wa ⟨a1, q1, rfl, o1, ba⟩
  obtain ⟨lx, _, _, e1, _, _, _, r1⟩ := o1.rd
  generalize tr xs = us at *
  have HV : Hid (val xs = val us) := hv.symm
  clear hv
  by_cases h3 : 2 < us.length
  · have hbig : 9223372036854775808 ≤ val us := by
      have h1 := can_low ct (by omega)
      have h2 := pw_mono (j := 2) (k := us.length - 1) (by omega)
      have e : pw 2 = 18446744073709551616 := by decide
      omega
    have HB : Hid (9223372036854775808 ≤ val us) := hbig
    clear hbig
    go_wp2
    go_ret2
    refine ⟨?_, ba⟩
    rw [HV.out, smallV_ge HB.out]; rfl
  · rcases list_two (Nat.le_of_not_lt h3) with rfl | ⟨x, rfl⟩ | ⟨x, y, rfl⟩
    · go_wp2
      refine wp_loop_rounds 1 ?_
      rw [rounds_succ]
      go_wp2
      go_ret2
      refine ⟨?_, ba⟩
      rw [HV.out]; rfl
    · rcases r1 with r1 | ⟨g1, f1, ea1, _, k1⟩
      · simp at r1
      subst ea1
      cases e1
      have hx := lx x (by simp)
      have kx : wa.cell? ⟨g1, f1, none⟩ = some (.int .u32 x) := k1 0 (by simp)
      have ex := or_zero_i64 x (by omega)
      have HVx : Hid (val [x] = x) := by unfold Hid; simp [val]
      clear k1 o1
      go_wp2
      refine wp_loop_rounds 2 ?_
      rw [rounds_succ]
      go_wp2
      rw [rounds_succ]
      go_wp2
      go_ret2
      refine ⟨?_, ba⟩
      rw [HV.out, HVx.out, smallV_lt (by omega)]; rfl
    · rcases r1 with r1 | ⟨g1, f1, ea1, _, k1⟩
      · simp at r1
      subst ea1
      cases e1
      have hx := lx x (by simp)
      have hy := lx y (by simp)
      have kx : wa.cell? ⟨g1, f1, none⟩ = some (.int .u32 x) := k1 0 (by simp)
      have ky : wa.cell? ⟨g1, f1 + 1, none⟩ = some (.int .u32 y) := k1 1 (by simp)
      have HVx : Hid (val [x, y] = x + y * 4294967296) := by unfold Hid; simp [val]; rw [Int.mul_comm]
      clear k1 o1
      by_cases hyb : y < 2147483648
      · have ey := or_zero_i64 y (by omega)
        have ex := or_add_i64 y x (by omega) hx
        go_wp2
        refine wp_loop_rounds 3 ?_
        rw [rounds_succ]
        go_wp2
        rw [rounds_succ]
        go_wp2
        rw [rounds_succ]
        go_wp2
        go_ret2
        refine ⟨?_, ba⟩
        rw [HV.out, HVx.out, smallV_lt (by omega), Int.add_comm]; rfl
      · have hyc : 2147483648 ≤ y := by omega
        go_wp2
        go_ret2
        refine ⟨?_, ba⟩
        rw [HV.out, HVx.out, smallV_ge (by omega)]; rfl
end Go.Proofs.YtibciilhfpgjjaaDoor
