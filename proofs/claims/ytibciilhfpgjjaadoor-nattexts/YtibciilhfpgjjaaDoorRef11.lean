/- The document's twice, bit and DivMod. -/
import Derived.Test.YtibciilhfpgjjaaDoorRefMath
import Derived.Test.YtibciilhfpgjjaaDoorRef10
namespace Go.Proofs.YtibciilhfpgjjaaDoor
set_option linter.unusedVariables false
set_option linter.unusedSimpArgs false
open Go.RowKit

set_option maxRecDepth 100000 in
set_option maxHeartbeats 1600000 in
/-- The document's twice: two times a number, and a bit. -/
theorem refTwice_any {B : Nat} {w : World} {v : Value} {xs : List Int} (m : Int) (hm : 0 ≤ m ∧ m ≤ 1) (h : Rd B w v xs) (hB : B ≤ w.heap.size) (hn : xs.length ≤ 1000000000) :
    Calls Tryd.prog 55 #[v, .int .u32 m] w fun e w' => ∃ zs, can zs ∧ val zs = 2 * val xs + m ∧ Makes w e w' zs := by
  obtain ⟨i0, hi, hz0, hz1, hz2⟩ := info_parts info_u32
  have lx := h.lim
  obtain ⟨_, a1, c1, rfl, hcap0, hcap, _, kp⟩ := h
  go_enter Tryd.func55, Tryd.ntmps55
  go_wp2
  go_loopw [5, 6, 7] (fun s cr ii wr => ∃ (i : Nat) (C : Int) (us : List Int) (a : Option Addr) (c : Nat), i ≤ xs.length ∧ ii = .int .i64 i ∧ cr = .int .u32 C ∧ 0 ≤ C ∧ C ≤ 1 ∧ Hid (us.length = i) ∧ s = .slice a us.length c ∧ Own w.heap.size wr (.slice a us.length c) us ∧ Below w.heap.size w wr ∧ Hid (val us + C * pw i = 2 * val (xs.take i) + m))
    (fun _ _ ii _ => xs.length - (intOf ii).toNat)
  case atStart => exact ⟨0, m, [], none, 0, by omega, rfl, rfl, hm.1, hm.2, rfl, rfl, own_nil _ _, Below.refl _ _, by unfold Hid; simp [val, pw_zero]⟩
  case round =>
    obtain ⟨i, C, us, a, c, hiM, rfl, rfl, hC0, hC1, hul, rfl, hown, hbl, hval⟩ := hrel
    have hs := hbl.size
    have huL : us.length = i := hul.out
    have HUL : us.length ≤ 2000000000 := by omega
    clear huL
    by_cases hgo : i < xs.length
    · rcases kp with kp | ⟨b, o, rfl, hbB, kp⟩
      · omega
      have rx := lim_getD lx i
      have hc : wr.cell? ⟨b, o + i, none⟩ = some (.int .u32 (xs.getD i 0)) := (hbl.cell (by show b < w.heap.size; omega)).trans (kp i hgo)
      have hstep := twice_step us xs i C (xs.getD i 0 * 2 % 4294967296 + C) (xs.getD i 0 / 2147483648) m hul.out hgo hval.out (by omega)
      have hor := or_bit (xs.getD i 0) C rx ⟨hC0, hC1⟩
      generalize xs.getD i 0 = X at *
      have HST : Hid (val (us ++ [X * 2 % 4294967296 + C]) + X / 2147483648 * pw (i + 1) = 2 * val (xs.take (i + 1)) + m) := hstep
      clear hstep kp
      have hca : (wr.alloc (.cells #[.int .u32 (X * 2 % 4294967296 + C)] 39)).cell? ⟨b, o + i, none⟩ = some (.int .u32 X) := by rw [← hc]; exact ((Below.refl wr.heap.size wr).alloc (Nat.le_refl _) _).cell (by show b < wr.heap.size; omega)
      go_wp2_with (at_builtin; (refine wpList_append_own _ rfl _ _ 22 rfl w.heap.size 39 i0 (.int .u32 0) 1 4 Tryd.underlying22 hi hz0 hz1 hz2 rfl (by decide) _ us.length (us.map (Value.int .u32)) rfl (hown.2.alloc _) ⟨wr.heap.size, 0, none⟩ 1 1 [.int .u32 (X * 2 % 4294967296 + C)] rfl rfl (cell1_new _ _ _) (by intro u hu; simp at hu; subst hu; rfl) (by unfold maxLen; omega) (by omega) (by simp; omega) ?_); intro v' w2 hown' hgrow _; have hb2 : Below w.heap.size w w2 := (hbl.alloc hs _).grown hgrow (by simp; omega) (fun k hk => (hown.2.lt k hk).1); have hc2 : w2.cell? ⟨b, o + i, none⟩ = some (.int .u32 X) := by rw [← hc, hbl.cell (p := ⟨b, o + i, none⟩) (by show b < w.heap.size; omega)]; exact hb2.cell (by show b < w.heap.size; omega))
      have hO := own_push hown.lim (by omega) hown'
      obtain ⟨a3, c3, hv3⟩ := hO.form
      rw [hv3] at hO ⊢
      clear hown' hgrow hv3 hown hor
      go_wp2
      go_roundw
      case rel => exact ⟨i + 1, X / 2147483648, us ++ [X * 2 % 4294967296 + C], a3, c3, by omega, by go_num, by go_num, by omega, by omega, (by unfold Hid; rw [List.length_append, hul.out]; rfl), rfl, hO, hb2, HST⟩
      case measure => simp [intOf]; omega
    · obtain rfl : i = xs.length := by omega
      have hfin : val (us ++ [C]) = 2 * val xs + m := by
        have h3 := hval.out
        rw [List.take_length] at h3
        rw [val_append, hul.out]
        simp only [val]
        rw [Int.mul_comm]
        simpa using h3
      have HF : Hid (val (us ++ [C]) = 2 * val xs + m) := hfin
      clear hfin kp
      go_wp2_with (at_builtin; (refine wpList_append_own _ rfl _ _ 22 rfl w.heap.size 39 i0 (.int .u32 0) 1 4 Tryd.underlying22 hi hz0 hz1 hz2 rfl (by decide) _ us.length (us.map (Value.int .u32)) rfl (hown.2.alloc _) ⟨wr.heap.size, 0, none⟩ 1 1 [.int .u32 C] rfl rfl (cell1_new _ _ _) (by intro u hu; simp at hu; subst hu; rfl) (by unfold maxLen; omega) (by omega) (by simp; omega) ?_); intro v' w2 hown' hgrow _)
      have hO := own_push hown.lim (by omega) hown'
      have hb2 : Below w.heap.size w w2 := (hbl.alloc hs _).grown hgrow (by simp; omega) (fun k hk => (hown.2.lt k hk).1)
      have hs2 := hb2.size
      have hlen : (us ++ [C]).length * 4 ≤ 140737488355328 := by simp; omega
      clear hown' hgrow hown
      go_wp2_with fail
      refine (refTrim_rd hO.rd hlen).mono ?_
      rintro e w3 ⟨a3, c3, rfl, ho3, hb3⟩
      go_wp2
      go_ret
      exact ⟨tr (us ++ [C]), tr_can hO.lim, by rw [val_tr]; exact HF.out, Makes.of rfl (ho3.mono hs2) (hb2.trans (hb3.mono hs2))⟩

set_option maxHeartbeats 800000 in
/-- The document's bit: one of a number. -/
theorem refBit_any {B : Nat} {w : World} {v : Value} {xs : List Int} (i : Nat) (m : Int) (hm : Hid (m = sh (val xs) i % 2)) (h : Rd B w v xs) (hi : i / 32 < xs.length) (hi2 : i < 9223372036854775807) :
    Calls Tryd.prog 56 #[v, .int .i64 i] w fun e w' => e = .returned (.int .u32 m) ∧ w = w' := by
  have lx := h.lim
  obtain ⟨_, a1, c1, rfl, hcap0, hcap, _, kp⟩ := h
  rcases kp with kp | ⟨b, o, rfl, hbB, kp⟩
  · omega
  have hc := kp (i / 32) hi
  have rx := lim_getD lx (i / 32)
  have hm2 := hm.out
  rw [sh_bit lx i hi] at hm2
  have hq : 0 ≤ xs.getD (i / 32) 0 / 2 ^ (i % 32) ∧ xs.getD (i / 32) 0 / 2 ^ (i % 32) < 4294967296 := by
    have hp : (0 : Int) < 2 ^ (i % 32) := Int.pow_pos (by omega)
    refine ⟨Int.ediv_nonneg rx.1 (by omega), ?_⟩
    have := Int.ediv_le_self (2 ^ (i % 32)) rx.1
    omega
  have hand := and_one_u32 _ hq.1 hq.2
  rw [← hm2] at hand
  clear hm2 hm kp
  generalize xs.getD (i / 32) 0 = X at *
  have e1 : ((i : Int) / 32).toNat = i / 32 := by omega
  have e2 : ((i : Int) % 32).toNat = i % 32 := by omega
  go_enter Tryd.func56, Tryd.ntmps56
  go_wp2
  go_ret
  exact ⟨rfl, rfl⟩
end Go.Proofs.YtibciilhfpgjjaaDoor
