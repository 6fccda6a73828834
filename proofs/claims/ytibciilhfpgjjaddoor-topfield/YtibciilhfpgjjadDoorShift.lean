/- nat.shiftedUp: limbs shifted into new memory; nat.shiftDown: limbs shifted back in place. -/
import Derived.Test.YtibciilhfpgjjadDoorGuess
namespace Go.Proofs.YtibciilhfpgjjadDoor
set_option linter.unusedVariables false
set_option linter.unusedSimpArgs false
open Go.RowKit

theorem or_shift (s : Nat) (x k : Int) (hs : s ≤ 31) (hx : 0 ≤ x ∧ x < 4294967296) (hk : 0 ≤ k ∧ k < 2 ^ s) : bits .or .u64 (x * 2 ^ s) k = x * 2 ^ s + k := by
  have h1 : (2 : Int) ^ s ≤ 2147483648 := by
    have h : (2 : Nat) ^ s ≤ 2 ^ 31 := Nat.pow_le_pow_right (by omega) hs
    have e : ((2 ^ s : Nat) : Int) = (2 : Int) ^ s := by simp
    rw [← e]; omega
  have h0 : (0 : Int) < 2 ^ s := Int.pow_pos (by omega)
  have h2 : x * 2 ^ s ≤ 4294967295 * 2147483648 := Int.mul_le_mul (by omega) h1 (by omega) (by omega)
  have h3 : 0 ≤ x * 2 ^ s := Int.mul_nonneg hx.1 (by omega)
  exact bits_join .u64 64 (by decide) (fun n a b => by rw [IntKind.wrap_u64]; omega) s _ _ h3 (by exact Int.mul_emod_left _ _) (by omega) hk.1 hk.2 (by omega)

theorem up_step (zs xs : List Int) (i : Nat) (c k t : Int) (hi : i < zs.length) (hx : i < xs.length) (h0 : zs.getD i 0 = 0) (h : val zs + k * pw i = val (xs.take i) * c) (ht : t = xs.getD i 0 * c + k) :
    val (zs.set i (t % 4294967296)) + t / 4294967296 * pw (i + 1) = val (xs.take (i + 1)) * c := by
  have hd : 4294967296 * (t / 4294967296) + t % 4294967296 = t := Int.mul_ediv_add_emod t 4294967296
  rw [val_set _ _ _ hi, h0, val_take_succ xs i hx, pw_succ]
  generalize t / 4294967296 = q at *
  generalize t % 4294967296 = r at *
  have k1 := congrArg (fun u => u * pw i) (hd.trans ht)
  simp only [Int.add_mul, Int.sub_mul, Int.mul_add, Int.mul_assoc, Int.mul_comm, Int.mul_left_comm, Int.sub_zero] at *
  omega

set_option maxRecDepth 100000 in
set_option maxHeartbeats 1600000 in
theorem shiftedUp_walk {n ac : Nat} {a : Option Addr} {xs : List Int} {w : World} (s : Nat) (hs : s ≤ 31) (hx : Hid (xs.length = n)) (lx : lim xs) (hn : n ≤ 17592186044415)
    (ka : 0 < n → ∃ g o, a = some ⟨g, o, none⟩ ∧ g < w.heap.size ∧ ∀ j, j < n → w.cell? ⟨g, o + j, none⟩ = some (.int .u32 (xs.getD j 0))) :
    Calls Tryd.prog 91 #[.slice a n ac, .int .i64 s] w fun e w' => ∃ zs, e = .returned (.slice (some ⟨w.heap.size, 0, none⟩) (n + 1) (n + 1)) ∧ zs.length = n + 1 ∧ val zs = val xs * 2 ^ s ∧ Own w.heap.size w' (.slice (some ⟨w.heap.size, 0, none⟩) (n + 1) (n + 1)) zs ∧ Below w.heap.size w w' := by
  obtain ⟨i0, hi, hz0, hz1, hz2⟩ := info_parts info_u32
  have hc0 : (0 : Int) < 2 ^ s := Int.pow_pos (by omega)
  have hc1 : (2 : Int) ^ s ≤ 2147483648 := by
    have h : (2 : Nat) ^ s ≤ 2 ^ 31 := Nat.pow_le_pow_right (by omega) hs
    have e : ((2 ^ s : Nat) : Int) = (2 : Int) ^ s := by simp
    rw [← e]; omega
  go_enter Tryd.func91, Tryd.ntmps91
  go_wp2_with (at_make; refine wpList_make_full _ rfl _ _ 22 rfl w.heap.size 51 i0 (.int .u32 0) 1 Tryd.underlying22 hi hz0 hz1 _ _ _ _ (n + 1) rfl rfl (by omega) (by omega) ?b2 ?b3 (Nat.le_refl _) ?_)
  case b2 => rw [hz2]; omega
  case b3 => unfold maxLen; omega
  intro w0 hown0 hgrow0
  have hO := own_made hown0
  have hb0 : Below w.heap.size w w0 := (Below.refl _ _).grown hgrow0 (Nat.le_refl _) (fun k h => by cases h)
  clear hown0 hgrow0
  go_wp2
  go_loopw [16, 6] (fun r cr wr => ∃ (i : Nat) (K : Int) (zs : List Int), i ≤ n ∧ r = .int .i64 i ∧ cr = .int .u64 K ∧ 0 ≤ K ∧ K < 2 ^ s ∧ Hid (zs.length = n + 1) ∧ Own w.heap.size wr (.slice (some ⟨w.heap.size, 0, none⟩) (n + 1) (n + 1)) zs ∧ Below w.heap.size w wr ∧ Hid (val zs + K * pw i = val (xs.take i) * 2 ^ s) ∧ Hid (∀ k, i ≤ k → zs.getD k 0 = 0))
    (fun r _ _ => n - (intOf r).toNat)
  case atStart => exact ⟨0, 0, List.replicate (n + 1) 0, Nat.zero_le _, rfl, rfl, by omega, hc0, List.length_replicate, hO, hb0, by unfold Hid; rw [val_replicate]; simp [val], fun k _ => by simp [List.getD, List.getElem?_replicate]; split <;> rfl⟩
  case round =>
    obtain ⟨i, K, zs, hin, rfl, rfl, hK0, hK1, hzl, hown, hbl, hval, hzero⟩ := hrel
    by_cases hlt : i < n
    · obtain ⟨g, o, hpa, hg, hpc⟩ := ka (by omega)
      subst hpa
      have hcx : wr.cell? ⟨g, o + i, none⟩ = some (.int .u32 (xs.getD i 0)) := (hbl.cell hg).trans (hpc i hlt)
      have rx := lim_getD lx i
      have hcz := hown.cellAt hzl.out i (by omega)
      have hfz := hown.frozenAt hzl.out i
      generalize hX : xs.getD i 0 = X at *
      have HX : Hid (xs.getD i 0 = X) := hX
      have hor := or_shift s X K hs rx ⟨hK0, hK1⟩
      have ht0 : 0 ≤ X * 2 ^ s := Int.mul_nonneg rx.1 (by omega)
      have ht1 : X * 2 ^ s ≤ 4294967295 * 2 ^ s := Int.mul_le_mul_of_nonneg_right (by omega) (by omega)
      clear hX hpc ka hO hb0
      have hq : (X * 2 ^ s + K) / 4294967296 < 2 ^ s := by omega
      have hS := hown.stored hzl.out i ((X * 2 ^ s + K) % 4294967296) (by omega)
      go_wp2
      go_roundw
      case rel => exact ⟨i + 1, (X * 2 ^ s + K) / 4294967296, zs.set i ((X * 2 ^ s + K) % 4294967296), by omega, by go_num, rfl, by omega, hq, (by unfold Hid; rw [List.length_set]; exact hzl.out), hS, hbl.setCell (Nat.le_refl _) _, up_step zs xs i (2 ^ s) K _ (by rw [hzl.out]; omega) (by rw [hx.out]; exact hlt) (hzero.out i (Nat.le_refl _)) hval.out (by rw [HX.out]), zeros_set zs (i + 1) i _ (fun k hk => hzero.out k (by omega)) (by omega)⟩
      case measure => simp [intOf]; omega
    · obtain rfl : i = n := by omega
      have hcz := hown.cellAt hzl.out i (by omega)
      have hfz := hown.frozenAt hzl.out i
      have hS := hown.stored hzl.out i K (by omega)
      clear ka hO hb0
      go_wp2
      go_ret
      refine ⟨zs.set i K, rfl, by rw [List.length_set]; exact hzl.out, ?_, hS, hbl.setCell (Nat.le_refl _) _⟩
      have h1 := hval.out
      rw [List.take_of_length_le (by rw [hx.out]; omega)] at h1
      rw [val_set _ _ _ (by rw [hzl.out]; omega), hzero.out i (Nat.le_refl _), Int.sub_zero]
      exact h1

/-- One step of a shift down: c d is a limb's size. -/
theorem down_step (xs vs : List Int) (j : Nat) (c d top t z : Int) (hc : 0 < c) (hcd : c * d = 4294967296) (hj : j < xs.length) (hl : vs.length = xs.length) (ht : vs.take (j + 1) = xs.take (j + 1)) (lx : lim xs)
    (h : val (vs.drop (j + 1)) = val (xs.drop (j + 1)) / c) (htop : top = val (xs.drop (j + 1)) % 4294967296) (he : t = top * 4294967296 + vs.getD j 0) (hz : z = t / c % 4294967296) :
    (vs.set j z).take j = xs.take j ∧ val ((vs.set j z).drop j) = val (xs.drop j) / c ∧ vs.getD j 0 = val (xs.drop j) % 4294967296 ∧ (0 ≤ z ∧ z < 4294967296) := by
  have e1 : xs.drop j = xs.getD j 0 :: xs.drop (j + 1) := by rw [List.drop_eq_getElem_cons hj]; simp [List.getD, hj]
  have hj2 : j < vs.length := by omega
  have e2 : (vs.set j z).drop j = z :: vs.drop (j + 1) := by
    rw [List.drop_eq_getElem_cons (by simpa using hj2)]
    simp [List.drop_set]
  have e3 : vs.getD j 0 = xs.getD j 0 := by
    have h1 : (vs.take (j + 1)).getD j 0 = vs.getD j 0 := by simp only [List.getD, List.getElem?_take]; rw [if_pos (by omega)]
    have h2 : (xs.take (j + 1)).getD j 0 = xs.getD j 0 := by simp only [List.getD, List.getElem?_take]; rw [if_pos (by omega)]
    rw [← h1, ← h2, ht]
  have rx := lim_getD lx j
  refine ⟨?_, ?_, ?_, by omega⟩
  · have h1 : vs.take j = xs.take j := by
      have := congrArg (List.take j) ht
      rw [List.take_take, List.take_take] at this
      have e : min j (j + 1) = j := by omega
      rw [e] at this; exact this
    rw [List.take_set_of_le (Nat.le_refl _)]; exact h1
  · rw [e1, e2]
    simp only [val, h]
    rw [e3] at he
    generalize xs.getD j 0 = x at *
    generalize val (xs.drop (j + 1)) = X at *
    -- X = c q + r, top = c q2 + r
    have d1 : c * (X / c) + X % c = X := Int.mul_ediv_add_emod X c
    have r0 : 0 ≤ X % c := Int.emod_nonneg _ (by omega)
    have r1 : X % c < c := Int.emod_lt_of_pos _ hc
    have r2 : top % c = X % c := by rw [htop]; exact Int.emod_emod_of_dvd X ⟨d, hcd.symm⟩
    have d2 : c * (top / c) + top % c = top := Int.mul_ediv_add_emod top c
    rw [r2] at d2
    generalize X / c = q at *
    generalize X % c = r at *
    generalize top / c = q2 at *
    -- the two numbers divided
    have f1 : x + 4294967296 * X = (x + 4294967296 * r) + c * (4294967296 * q) := by rw [← d1, Int.mul_add, Int.mul_left_comm]; omega
    have f2 : t = (x + 4294967296 * r) + c * (4294967296 * q2) := by rw [he, ← d2, Int.mul_comm _ 4294967296, Int.mul_add, Int.mul_left_comm]; omega
    have f3 : (x + 4294967296 * r) / c < 4294967296 := Int.ediv_lt_of_lt_mul hc (by
      have : (r + 1) * 4294967296 ≤ c * 4294967296 := Int.mul_le_mul_of_nonneg_right (by omega) (by omega)
      rw [Int.mul_comm 4294967296 c]; omega)
    have f4 : 0 ≤ (x + 4294967296 * r) / c := Int.ediv_nonneg (by omega) (by omega)
    rw [f1, Int.add_mul_ediv_left _ _ (by omega), hz, f2, Int.add_mul_ediv_left _ _ (by omega), Int.add_mul_emod_self_left, Int.emod_eq_of_lt f4 f3]
  · rw [e1, e3]
    simp only [val]
    omega

theorem hide {p : Prop} (h : p) : Hid p := h

theorem two_pow_split (s : Nat) (hs : s ≤ 31) : ∃ d : Int, (2 : Int) ^ s * d = 4294967296 := by
  refine ⟨2 ^ (32 - s), ?_⟩
  rw [← Int.pow_add, show s + (32 - s) = 32 by omega]; rfl

set_option maxRecDepth 100000 in
set_option maxHeartbeats 1600000 in
theorem shiftDown_walk {base g L c : Nat} {xs : List Int} {w : World} (s : Nat) (hs : s ≤ 31) (hxl : Hid (xs.length = L)) (hown : Own base w (.slice (some ⟨g, 0, none⟩) L c) xs) (hn : L ≤ 17592186044416) :
    Calls Tryd.prog 93 #[.slice (some ⟨g, 0, none⟩) L c, .int .i64 s] w fun e w' => e = .returned (.tuple #[]) ∧ ∃ zs, zs.length = L ∧ val zs = val xs / 2 ^ s ∧ Own base w' (.slice (some ⟨g, 0, none⟩) L c) zs ∧ Kept2 w w' g none := by
  have hc0 : (0 : Int) < 2 ^ s := Int.pow_pos (by omega)
  have lx := hown.lim
  obtain ⟨d, hd⟩ := two_pow_split s hs
  have HD : Hid ((2 : Int) ^ s * d = 4294967296) := hd
  clear hd
  go_enter Tryd.func93, Tryd.ntmps93
  go_wp2
  go_loopw [5, 4] (fun r ar wr => ∃ (j : Nat) (T : Int) (vs : List Int), j ≤ L ∧ r = .int .i64 ((j : Int) - 1) ∧ ar = .int .u64 T ∧ 0 ≤ T ∧ T < 18446744073709551616 ∧ Hid (vs.length = L) ∧ Own base wr (.slice (some ⟨g, 0, none⟩) L c) vs ∧ Kept2 w wr g none ∧ Hid (vs.take j = xs.take j) ∧ Hid (val (vs.drop j) = val (xs.drop j) / 2 ^ s) ∧ Hid (T % 4294967296 = val (xs.drop j) % 4294967296))
    (fun r _ _ => (intOf r + 1).toNat)
  case atStart => exact ⟨L, 0, xs, Nat.le_refl _, by go_num, rfl, by omega, by omega, hxl, hown, Kept2.refl _ _ _, rfl, (by unfold Hid; rw [List.drop_of_length_le (by rw [hxl.out]; omega)]; simp [val]), (by unfold Hid; rw [List.drop_of_length_le (by rw [hxl.out]; omega)]; simp [val])⟩
  case round =>
    obtain ⟨j, T, vs, hjL, rfl, rfl, hT0, hT1, hvl, hown3, hk3, htake, hval3, htop⟩ := hrel
    clear hown
    cases j with
    | zero =>
      go_wp2
      go_end0
      exact ⟨rfl, vs, hvl.out, by simpa using hval3.out, hown3, hk3⟩
    | succ j =>
      have hcv := hown3.cellAt hvl.out j (by omega)
      have hfv := hown3.frozenAt hvl.out j
      have rv := lim_getD hown3.lim j
      have ej : ((j + 1 : Nat) : Int) - 1 = (j : Int) := by omega
      rw [ej]
      clear ej
      have hst := down_step xs vs j (2 ^ s) d (T % 4294967296) (T % 4294967296 * 4294967296 + vs.getD j 0) _ hc0 HD.out (by rw [hxl.out]; omega) (by rw [hxl.out, hvl.out]) htake.out lx hval3.out htop.out rfl rfl
      generalize hV : vs.getD j 0 = V at *
      have HST := hide hst
      have zr := hst.2.2.2
      clear hst hV
      have hor := or_add (T % 4294967296) V (by omega) rv
      have hwr : IntKind.u64.wrap (T * 4294967296) = T % 4294967296 * 4294967296 := by rw [IntKind.wrap_u64]; omega
      have hN0 : 0 ≤ T % 4294967296 * 4294967296 + V := by omega
      have hN1 : T % 4294967296 * 4294967296 + V < 18446744073709551616 := by omega
      have hq0 : 0 ≤ (T % 4294967296 * 4294967296 + V) / 2 ^ s := Int.ediv_nonneg hN0 (by omega)
      have hS := hown3.stored hvl.out j ((T % 4294967296 * 4294967296 + V) / 2 ^ s % 4294967296) zr
      go_wp2
      go_roundw
      case rel => exact ⟨j, T % 4294967296 * 4294967296 + V, vs.set j ((T % 4294967296 * 4294967296 + V) / 2 ^ s % 4294967296), by omega, by go_num, rfl, hN0, hN1, (by unfold Hid; rw [List.length_set]; exact hvl.out), hS, hk3.setCell (Or.inl rfl) _, HST.out.1, HST.out.2.1, (by unfold Hid; rw [← HST.out.2.2.1]; omega)⟩
      case measure => simp [intOf]
end Go.Proofs.YtibciilhfpgjjadDoor
