/- strings.IndexRune of the character that stands for wrong bytes. -/
import Derived.Test.YtopndegbofokiaaGreatGA
import Derived.Test.YtopndegbofokiaaGreatG8
import Derived.Test.YtopndegbofokiaaGreatG2
import Derived.Test.YtopndegbofokiaaGreatG3
import Derived.Test.YtopndegbofokiaaGreatG4
import Derived.Test.YtopndegbofokiaaGreatG5
import Derived.Test.YtopndegbofokiaaGreatG6
import Derived.Test.YtopndegbofokiaaGreatG7
import Derived.Test.YtopndegbofokiaaGreatKC
import Derived.Test.YtopndegbofokiaaGreatK7
import Derived.Test.YtopndegbofokiaaGreatK12
import Derived.Test.YtopndegbofokiaaGreatKS5
import Derived.Test.YtopndegbofokiaaGreatJ4
namespace Go.Proofs.YtopndegbofokiaaGreat
set_option linter.unusedVariables false
set_option linter.unusedSimpArgs false
open Go.RowKit

set_option maxRecDepth 100000 in
set_option maxHeartbeats 3200000 in
theorem ix_bad (s : ByteArray) (w : World) (hs : (rsF s s.size 0).contains 65533 = false) : Calls Tryz.prog 136 #[.string s, .int .i32 65533] w fun e w' => e = .returned (.int .i64 (-1)) ∧ Below w.heap.size w w' := by
  have HS0 : Hid ((rsF s s.size 0).contains 65533 = false) := hs
  clear hs
  go_enter Tryz.func136, Tryz.ntmps136
  go_wp2
  go_loopw [] (fun wr => ∃ (pos fuel : Nat), wr.heap[w.heap.size]? = some (.stringIter s pos) ∧ Hid ((rsF s fuel pos).contains 65533 = false) ∧ s.size ≤ pos + fuel ∧ Below w.heap.size w wr) (fun wr => s.size - wr.iterPos w.heap.size)
  case atStart =>
    exact ⟨0, s.size, World.iter_heap w s 0, HS0, by omega, below_alloc _ _⟩
  case round =>
    obtain ⟨pos, fuel, hit, HD, hf, hb⟩ := hrel
    by_cases hp : pos < s.size
    · have hnx : ∀ ty, (Instr.next (.pointer (some ⟨w.heap.size, 0, none⟩)) true ty).run Tryz.prog wr = _ := fun ty => Lib.run_next_any_at wr w.heap.size s pos ty hit hp
      have hwd := Lib.decode_width_pos s pos hp
      obtain ⟨f, rfl⟩ : ∃ f, fuel = f + 1 := ⟨fuel - 1, by omega⟩
      have hc := HD.out
      rw [rsF, if_pos hp, List.contains_cons, Bool.or_eq_false_iff] at hc
      have HE : Hid ((rsF s f (pos + (Utf8.decode s pos).2)).contains 65533 = false) := hc.2
      have hC : (((Utf8.decode s pos).1 : Int) == 65533) = false := by rw [beq_eq_false_iff_ne]; exact fun h => by rw [h] at hc; exact absurd hc.1 (by decide)
      have hit2 := Lib.iterAt_heap wr w.heap.size s pos (pos + (Utf8.decode s pos).2) hit
      have hb2 := Lib.below_iterAt hb (k := w.heap.size) (by omega) s (pos + (Utf8.decode s pos).2)
      have HQ : Hid (wr.iterPos w.heap.size = pos) := by unfold Hid; simp only [World.iterPos, hit]
      clear hc HD
      generalize (Utf8.decode s pos).2 = n at *
      generalize (Utf8.decode s pos).1 = C at *
      generalize wr.iterAt w.heap.size s (pos + n) = W2 at *
      clear hit hb
      go_wp2
      go_roundw
      case rel => exact ⟨pos + n, f, hit2, HE, by omega, hb2⟩
      case measure =>
        rw [HQ.out]
        simp only [World.iterPos, hit2]
        omega
    · have hnx : ∀ ty, (Instr.next (.pointer (some ⟨w.heap.size, 0, none⟩)) true ty).run Tryz.prog wr = _ := fun ty => Lib.run_next_end_at wr w.heap.size s pos ty hit hp
      clear HD
      go_wp2
      go_ret
      exact ⟨rfl, hb⟩
end Go.Proofs.YtopndegbofokiaaGreat

/- strings.ContainsRune of any character in the two texts of scalar.Identity. -/
namespace Go.Proofs.YtopndegbofokiaaGreat
set_option linter.unusedVariables false
set_option linter.unusedSimpArgs false
open Go.RowKit

theorem enc2 (r : Int) (h0 : 128 ≤ r) (h1 : r < 2048) : Utf8.encode r = ⟨#[UInt8.ofNat (192 + r.toNat / 64), UInt8.ofNat (128 + r.toNat % 64)]⟩ := by
  have hv : Utf8.valid r = true := by unfold Utf8.valid; simp; omega
  unfold Utf8.encode
  simp only [hv, if_true]
  rw [if_neg (by omega), if_pos (by omega)]
theorem enc3 (r : Int) (h0 : 2048 ≤ r) (h1 : r < 65536) (hv : Utf8.valid r = true) : Utf8.encode r = ⟨#[UInt8.ofNat (224 + r.toNat / 4096), UInt8.ofNat (128 + r.toNat / 64 % 64), UInt8.ofNat (128 + r.toNat % 64)]⟩ := by
  unfold Utf8.encode
  simp only [hv, if_true]
  rw [if_neg (by omega), if_neg (by omega), if_pos (by omega)]
theorem enc4 (r : Int) (h0 : 65536 ≤ r) (hv : Utf8.valid r = true) : Utf8.encode r = ⟨#[UInt8.ofNat (240 + r.toNat / 262144), UInt8.ofNat (128 + r.toNat / 4096 % 64), UInt8.ofNat (128 + r.toNat / 64 % 64), UInt8.ofNat (128 + r.toNat % 64)]⟩ := by
  unfold Utf8.encode
  simp only [hv, if_true]
  rw [if_neg (by omega), if_neg (by omega), if_neg (by omega)]
theorem u8_lt {n : Nat} (h : n < 256) : (UInt8.ofNat n).toNat = n := by simp [UInt8.toNat_ofNat']; omega
theorem u8_eq {n m : Nat} (h : n < 256) (hm : m < 256) (e : UInt8.ofNat n = UInt8.ofNat m) : n = m := by
  have := congrArg UInt8.toNat e
  rwa [u8_lt h, u8_lt hm] at this
set_option maxRecDepth 100000 in
set_option maxHeartbeats 3200000 in
theorem ix_none (s : ByteArray) (r : Int) (w : World) (h : Lib.validRune r = false) (hn : ¬ (0 ≤ r ∧ r < 128)) : Calls Tryz.prog 136 #[.string s, .int .i32 r] w fun e w' => e = .returned (.int .i64 (-1)) ∧ Below w.heap.size w w' := by
  have hb : (r == 65533) = false := by rw [beq_eq_false_iff_ne]; rintro rfl; revert h; decide
  have HN : Hid (Lib.validRune r = false) := h
  clear h
  by_cases h0 : 0 ≤ r
  · have c2 : decide (r < 128) = false := by simp; omega
    have c1 : decide (0 ≤ r) = true := by simp; omega
    clear hn h0
    go_enter Tryz.func136, Tryz.ntmps136
    go_wp2_with fail
    refine (Tryz.utf8_ValidRune _ _).mono ?_
    rintro e w' ⟨rfl, hw⟩
    obtain rfl := hw.symm
    rw [HN.out]
    go_wp2
    go_ret
    exact ⟨rfl, Below.refl _ _⟩
  · have c1 : decide (0 ≤ r) = false := by simp; omega
    clear hn h0
    go_enter Tryz.func136, Tryz.ntmps136
    go_wp2_with fail
    refine (Tryz.utf8_ValidRune _ _).mono ?_
    rintro e w' ⟨rfl, hw⟩
    obtain rfl := hw.symm
    rw [HN.out]
    go_wp2
    go_ret
    exact ⟨rfl, Below.refl _ _⟩
/-- What IndexRune tells: whether it is there. -/
def IxIs (B : Bool) (w : World) (e : Ending) (w' : World) : Prop := ∃ n : Int, e = .returned (.int .i64 n) ∧ Hid (decide (0 ≤ n) = B) ∧ Below w.heap.size w w'
set_option maxRecDepth 100000 in
set_option maxHeartbeats 3200000 in
theorem ix_all0 (r : Int) (w : World) : Calls Tryz.prog 136 #[.string ⟨#[43, 45, 124, 60, 62, 226, 137, 160, 226, 136, 168]⟩, .int .i32 r] w (IxIs (([43, 45, 124, 60, 62, 8800, 8744] : List Int).contains r) w) := by
  have hno : ∀ {w'}, (([43, 45, 124, 60, 62, 8800, 8744] : List Int).contains r) = false → Below w.heap.size w w' → IxIs (([43, 45, 124, 60, 62, 8800, 8744] : List Int).contains r) w (.returned (.int .i64 (-1))) w' := fun h k => ⟨-1, rfl, by unfold Hid; rw [h]; rfl, k⟩
  by_cases ha : 0 ≤ r ∧ r < 128
  · refine (Tryz.strings_IndexRune_ascii _ r w ha.1 ha.2).mono ?_
    rintro e w' ⟨rfl, rfl⟩
    refine ⟨_, rfl, ?_, Below.refl _ _⟩
    obtain ⟨n, rfl⟩ : ∃ n : Nat, r = (n : Int) := ⟨r.toNat, by omega⟩
    have hn : n < 128 := by omega
    unfold Hid
    have key : ∀ k : Fin 128, decide (0 ≤ Lib.indexByte [43, 45, 124, 60, 62, 226, 137, 160, 226, 136, 168] (((k.val : Nat) : Int).toNat.toUInt8)) = ([43, 45, 124, 60, 62, 8800, 8744] : List Int).contains ((k.val : Nat) : Int) := by decide +kernel
    exact key ⟨n, hn⟩
  by_cases n8800 : r = 8800
  · subst n8800
    refine (hit_8800 w).mono ?_
    rintro e w' ⟨rfl, k⟩
    exact ⟨_, rfl, by unfold Hid; decide, k⟩
  by_cases n8744 : r = 8744
  · subst n8744
    refine (hit_8744 w).mono ?_
    rintro e w' ⟨rfl, k⟩
    exact ⟨_, rfl, by unfold Hid; decide, k⟩
  have hc : (([43, 45, 124, 60, 62, 8800, 8744] : List Int).contains r) = false := by
    rw [List.contains_eq_mem, decide_eq_false_iff_not]
    simp only [List.mem_cons, List.not_mem_nil, or_false]
    omega
  by_cases hb : r = 65533
  · subst hb
    refine (ix_bad _ w (by decide +kernel)).mono ?_
    rintro e w' ⟨rfl, k⟩
    exact hno hc k
  by_cases hv : Lib.validRune r = true
  · have hv2 : Utf8.valid r = true := by
      unfold Lib.validRune at hv
      unfold Utf8.valid
      simp at hv ⊢
      omega
    have hp : 0 ≤ r := by unfold Lib.validRune at hv; simp at hv; omega
    have hr : r ≤ 1114111 := by unfold Lib.validRune at hv; simp at hv; omega
    have hb' : (r == 65533) = false := by rw [beq_eq_false_iff_ne]; exact hb
    by_cases l2 : r < 2048
    · refine (ix_0_2 r _ _ w (by omega) hb' hv (enc2 r (by omega) l2) (by rw [u8_lt (by omega)]; omega) (by rw [u8_lt (by omega)]; omega) ).mono ?_
      rintro e w' ⟨rfl, k⟩
      exact hno hc k
    by_cases l3 : r < 65536
    · refine (ix_0_3 r _ _ _ w (by omega) hb' hv (enc3 r (by omega) l3 hv2) (by rw [u8_lt (by omega)]; omega) (by rw [u8_lt (by omega)]; omega) (by rw [u8_lt (by omega)]; omega) (by rintro ⟨e0, e1, e2⟩; have f0 := u8_eq (n := 224 + r.toNat / 4096) (m := 226) (by omega) (by omega) e0; have f1 := u8_eq (n := 128 + r.toNat / 64 % 64) (m := 137) (by omega) (by omega) e1; have f2 := u8_eq (n := 128 + r.toNat % 64) (m := 160) (by omega) (by omega) e2; exact n8800 (by omega)) (by rintro ⟨e0, e1, e2⟩; have f0 := u8_eq (n := 224 + r.toNat / 4096) (m := 226) (by omega) (by omega) e0; have f1 := u8_eq (n := 128 + r.toNat / 64 % 64) (m := 136) (by omega) (by omega) e1; have f2 := u8_eq (n := 128 + r.toNat % 64) (m := 168) (by omega) (by omega) e2; exact n8744 (by omega))).mono ?_
      rintro e w' ⟨rfl, k⟩
      exact hno hc k
    · refine (ix_0_4 r _ _ _ _ w (by omega) hb' hv (enc4 r (by omega) hv2) (by rw [u8_lt (by omega)]; omega) (by rw [u8_lt (by omega)]; omega) (by rw [u8_lt (by omega)]; omega) (by rw [u8_lt (by omega)]; omega)).mono ?_
      rintro e w' ⟨rfl, k⟩
      exact hno hc k
  · refine (ix_none _ r w (by simpa using hv) ha).mono ?_
    rintro e w' ⟨rfl, k⟩
    exact hno hc k
set_option maxRecDepth 100000 in
set_option maxHeartbeats 3200000 in
theorem contains_all0 (r : Int) (w : World) : Calls Tryz.prog 60 #[.string ⟨#[43, 45, 124, 60, 62, 226, 137, 160, 226, 136, 168]⟩, .int .i32 r] w fun e w' => e = .returned (.bool (([43, 45, 124, 60, 62, 8800, 8744] : List Int).contains r)) ∧ Below w.heap.size w w' := by
  have HC : Hid (∀ w, Calls Tryz.prog 136 #[.string ⟨#[43, 45, 124, 60, 62, 226, 137, 160, 226, 136, 168]⟩, .int .i32 r] w (IxIs (([43, 45, 124, 60, 62, 8800, 8744] : List Int).contains r) w)) := ix_all0 r
  go_enter Tryz.func60, Tryz.ntmps60
  go_wp2_with fail
  refine (HC.out _).mono ?_
  rintro e w1 ⟨n, rfl, hn, b1⟩
  obtain ⟨B, hB⟩ : ∃ B, decide (0 ≤ n) = B := ⟨_, rfl⟩
  have HB : Hid (([43, 45, 124, 60, 62, 8800, 8744] : List Int).contains r = B) := by unfold Hid; rw [← hn.out]; exact hB
  clear hn HC
  go_wp2
  go_ret
  exact ⟨by rw [HB.out]; rfl, b1⟩
set_option maxRecDepth 100000 in
set_option maxHeartbeats 3200000 in
theorem ix_all1 (r : Int) (w : World) : Calls Tryz.prog 136 #[.string ⟨#[195, 151, 195, 183, 42, 33, 226, 137, 164, 61, 226, 137, 165, 226, 136, 167]⟩, .int .i32 r] w (IxIs (([215, 247, 42, 33, 8804, 61, 8805, 8743] : List Int).contains r) w) := by
  have hno : ∀ {w'}, (([215, 247, 42, 33, 8804, 61, 8805, 8743] : List Int).contains r) = false → Below w.heap.size w w' → IxIs (([215, 247, 42, 33, 8804, 61, 8805, 8743] : List Int).contains r) w (.returned (.int .i64 (-1))) w' := fun h k => ⟨-1, rfl, by unfold Hid; rw [h]; rfl, k⟩
  by_cases ha : 0 ≤ r ∧ r < 128
  · refine (Tryz.strings_IndexRune_ascii _ r w ha.1 ha.2).mono ?_
    rintro e w' ⟨rfl, rfl⟩
    refine ⟨_, rfl, ?_, Below.refl _ _⟩
    obtain ⟨n, rfl⟩ : ∃ n : Nat, r = (n : Int) := ⟨r.toNat, by omega⟩
    have hn : n < 128 := by omega
    unfold Hid
    have key : ∀ k : Fin 128, decide (0 ≤ Lib.indexByte [195, 151, 195, 183, 42, 33, 226, 137, 164, 61, 226, 137, 165, 226, 136, 167] (((k.val : Nat) : Int).toNat.toUInt8)) = ([215, 247, 42, 33, 8804, 61, 8805, 8743] : List Int).contains ((k.val : Nat) : Int) := by decide +kernel
    exact key ⟨n, hn⟩
  by_cases n215 : r = 215
  · subst n215
    refine (hit_215 w).mono ?_
    rintro e w' ⟨rfl, k⟩
    exact ⟨_, rfl, by unfold Hid; decide, k⟩
  by_cases n247 : r = 247
  · subst n247
    refine (hit_247 w).mono ?_
    rintro e w' ⟨rfl, k⟩
    exact ⟨_, rfl, by unfold Hid; decide, k⟩
  by_cases n8804 : r = 8804
  · subst n8804
    refine (hit_8804 w).mono ?_
    rintro e w' ⟨rfl, k⟩
    exact ⟨_, rfl, by unfold Hid; decide, k⟩
  by_cases n8805 : r = 8805
  · subst n8805
    refine (hit_8805 w).mono ?_
    rintro e w' ⟨rfl, k⟩
    exact ⟨_, rfl, by unfold Hid; decide, k⟩
  by_cases n8743 : r = 8743
  · subst n8743
    refine (hit_8743 w).mono ?_
    rintro e w' ⟨rfl, k⟩
    exact ⟨_, rfl, by unfold Hid; decide, k⟩
  have hc : (([215, 247, 42, 33, 8804, 61, 8805, 8743] : List Int).contains r) = false := by
    rw [List.contains_eq_mem, decide_eq_false_iff_not]
    simp only [List.mem_cons, List.not_mem_nil, or_false]
    omega
  by_cases hb : r = 65533
  · subst hb
    refine (ix_bad _ w (by decide +kernel)).mono ?_
    rintro e w' ⟨rfl, k⟩
    exact hno hc k
  by_cases hv : Lib.validRune r = true
  · have hv2 : Utf8.valid r = true := by
      unfold Lib.validRune at hv
      unfold Utf8.valid
      simp at hv ⊢
      omega
    have hp : 0 ≤ r := by unfold Lib.validRune at hv; simp at hv; omega
    have hr : r ≤ 1114111 := by unfold Lib.validRune at hv; simp at hv; omega
    have hb' : (r == 65533) = false := by rw [beq_eq_false_iff_ne]; exact hb
    by_cases l2 : r < 2048
    · refine (ix_1_2 r _ _ w (by omega) hb' hv (enc2 r (by omega) l2) (by rw [u8_lt (by omega)]; omega) (by rw [u8_lt (by omega)]; omega) (by rintro ⟨e0, e1⟩; have f0 := u8_eq (n := 192 + r.toNat / 64) (m := 195) (by omega) (by omega) e0; have f1 := u8_eq (n := 128 + r.toNat % 64) (m := 151) (by omega) (by omega) e1; exact n215 (by omega)) (by rintro ⟨e0, e1⟩; have f0 := u8_eq (n := 192 + r.toNat / 64) (m := 195) (by omega) (by omega) e0; have f1 := u8_eq (n := 128 + r.toNat % 64) (m := 183) (by omega) (by omega) e1; exact n247 (by omega))).mono ?_
      rintro e w' ⟨rfl, k⟩
      exact hno hc k
    by_cases l3 : r < 65536
    · refine (ix_1_3 r _ _ _ w (by omega) hb' hv (enc3 r (by omega) l3 hv2) (by rw [u8_lt (by omega)]; omega) (by rw [u8_lt (by omega)]; omega) (by rw [u8_lt (by omega)]; omega) (by rintro ⟨e0, e1, e2⟩; have f0 := u8_eq (n := 224 + r.toNat / 4096) (m := 226) (by omega) (by omega) e0; have f1 := u8_eq (n := 128 + r.toNat / 64 % 64) (m := 137) (by omega) (by omega) e1; have f2 := u8_eq (n := 128 + r.toNat % 64) (m := 164) (by omega) (by omega) e2; exact n8804 (by omega)) (by rintro ⟨e0, e1, e2⟩; have f0 := u8_eq (n := 224 + r.toNat / 4096) (m := 226) (by omega) (by omega) e0; have f1 := u8_eq (n := 128 + r.toNat / 64 % 64) (m := 137) (by omega) (by omega) e1; have f2 := u8_eq (n := 128 + r.toNat % 64) (m := 165) (by omega) (by omega) e2; exact n8805 (by omega)) (by rintro ⟨e0, e1, e2⟩; have f0 := u8_eq (n := 224 + r.toNat / 4096) (m := 226) (by omega) (by omega) e0; have f1 := u8_eq (n := 128 + r.toNat / 64 % 64) (m := 136) (by omega) (by omega) e1; have f2 := u8_eq (n := 128 + r.toNat % 64) (m := 167) (by omega) (by omega) e2; exact n8743 (by omega))).mono ?_
      rintro e w' ⟨rfl, k⟩
      exact hno hc k
    · refine (ix_1_4 r _ _ _ _ w (by omega) hb' hv (enc4 r (by omega) hv2) (by rw [u8_lt (by omega)]; omega) (by rw [u8_lt (by omega)]; omega) (by rw [u8_lt (by omega)]; omega) (by rw [u8_lt (by omega)]; omega)).mono ?_
      rintro e w' ⟨rfl, k⟩
      exact hno hc k
  · refine (ix_none _ r w (by simpa using hv) ha).mono ?_
    rintro e w' ⟨rfl, k⟩
    exact hno hc k
set_option maxRecDepth 100000 in
set_option maxHeartbeats 3200000 in
theorem contains_all1 (r : Int) (w : World) : Calls Tryz.prog 60 #[.string ⟨#[195, 151, 195, 183, 42, 33, 226, 137, 164, 61, 226, 137, 165, 226, 136, 167]⟩, .int .i32 r] w fun e w' => e = .returned (.bool (([215, 247, 42, 33, 8804, 61, 8805, 8743] : List Int).contains r)) ∧ Below w.heap.size w w' := by
  have HC : Hid (∀ w, Calls Tryz.prog 136 #[.string ⟨#[195, 151, 195, 183, 42, 33, 226, 137, 164, 61, 226, 137, 165, 226, 136, 167]⟩, .int .i32 r] w (IxIs (([215, 247, 42, 33, 8804, 61, 8805, 8743] : List Int).contains r) w)) := ix_all1 r
  go_enter Tryz.func60, Tryz.ntmps60
  go_wp2_with fail
  refine (HC.out _).mono ?_
  rintro e w1 ⟨n, rfl, hn, b1⟩
  obtain ⟨B, hB⟩ : ∃ B, decide (0 ≤ n) = B := ⟨_, rfl⟩
  have HB : Hid (([215, 247, 42, 33, 8804, 61, 8805, 8743] : List Int).contains r = B) := by unfold Hid; rw [← hn.out]; exact hB
  clear hn HC
  go_wp2
  go_ret
  exact ⟨by rw [HB.out]; rfl, b1⟩
end Go.Proofs.YtopndegbofokiaaGreat

/- The identities of the scalar functions. -/
namespace Go.Proofs.YtopndegbofokiaaGreat
set_option linter.unusedVariables false
set_option linter.unusedSimpArgs false
open Go.RowKit

def idOk (g : Int) : Bool := ([43, 45, 124, 60, 62, 8800, 8744] : List Int).contains g || ([215, 247, 42, 33, 8804, 61, 8805, 8743] : List Int).contains g
def idN (g : Int) : Tr := if ([43, 45, 124, 60, 62, 8800, 8744] : List Int).contains g then wholeT 0 else if ([215, 247, 42, 33, 8804, 61, 8805, 8743] : List Int).contains g then wholeT 1 else numT false [] []
def IdAns (w : World) (g : Int) (e : Ending) (w' : World) : Prop := ∃ b z1 ns u1 z2 ds u2 ok, e = .returned (.tuple #[.agg #[.bool b, .slice z1 ns.length u1, .slice z2 ds.length u2], .bool ok]) ∧ Rd w'.heap.size w' (.slice z1 ns.length u1) ns ∧ Rd w'.heap.size w' (.slice z2 ds.length u2) ds ∧ Hid (ok = idOk g ∧ numT b ns ds = idN g) ∧ Below w.heap.size w w'
theorem in0_any (g : Int) (w : World) : Calls Tryz.prog 62 #[.int .i32 g, .string (ByteArray.mk #[43, 45, 124, 60, 62, 226, 137, 160, 226, 136, 168])] w fun e w' => e = .returned (.bool (([43, 45, 124, 60, 62, 8800, 8744] : List Int).contains g)) ∧ Below w.heap.size w w' := by
  have h := in_any (ByteArray.mk #[43, 45, 124, 60, 62, 226, 137, 160, 226, 136, 168]) g w
  rw [show rsF (ByteArray.mk #[43, 45, 124, 60, 62, 226, 137, 160, 226, 136, 168]) (ByteArray.mk #[43, 45, 124, 60, 62, 226, 137, 160, 226, 136, 168]).size 0 = [43, 45, 124, 60, 62, 8800, 8744] from by decide +kernel] at h
  exact h
theorem in1_any (g : Int) (w : World) : Calls Tryz.prog 62 #[.int .i32 g, .string (ByteArray.mk #[195, 151, 195, 183, 42, 33, 226, 137, 164, 61, 226, 137, 165, 226, 136, 167])] w fun e w' => e = .returned (.bool (([215, 247, 42, 33, 8804, 61, 8805, 8743] : List Int).contains g)) ∧ Below w.heap.size w w' := by
  have h := in_any (ByteArray.mk #[195, 151, 195, 183, 42, 33, 226, 137, 164, 61, 226, 137, 165, 226, 136, 167]) g w
  rw [show rsF (ByteArray.mk #[195, 151, 195, 183, 42, 33, 226, 137, 164, 61, 226, 137, 165, 226, 136, 167]) (ByteArray.mk #[195, 151, 195, 183, 42, 33, 226, 137, 164, 61, 226, 137, 165, 226, 136, 167]).size 0 = [215, 247, 42, 33, 8804, 61, 8805, 8743] from by decide +kernel] at h
  exact h
theorem zero_wholeT : numT false [] [(1 : Int)] = wholeT 0 := by kernel_rfl
set_option maxRecDepth 100000 in
set_option maxHeartbeats 3200000 in
theorem identity_any (g : Int) (w : World) : Calls Tryz.prog 15 #[.int .i32 g] w (IdAns w g) := by
  obtain ⟨B0, e0⟩ : ∃ B, ([43, 45, 124, 60, 62, 8800, 8744] : List Int).contains g = B := ⟨_, rfl⟩
  obtain ⟨B1, e1⟩ : ∃ B, ([215, 247, 42, 33, 8804, 61, 8805, 8743] : List Int).contains g = B := ⟨_, rfl⟩
  have h0 : Hid (([43, 45, 124, 60, 62, 8800, 8744] : List Int).contains g = B0) := e0
  have h1 : Hid (([215, 247, 42, 33, 8804, 61, 8805, 8743] : List Int).contains g = B1) := e1
  clear e0 e1
  have R := boxA_new w #[.bool false, .slice none 0 0, .slice none 0 0] 24
  have g0 := below_alloc w (.cells #[.bool false, .slice none 0 0, .slice none 0 0] 24)
  have lR := R.lt
  go_enter Tryz.func15, Tryz.ntmps15
  go_wp2_with fail
  generalize hA : w.alloc (.cells #[.bool false, .slice none 0 0, .slice none 0 0] 24) = v at *
  clear hA
  refine (contains_all0 g _).mono ?_
  rintro e w1 ⟨rfl, b1⟩
  rw [h0.out]
  cases B0
  case true =>
    go_wp2_with fail
    refine (ofInt_any 0 (by omega) (by omega) _).mono ?_
    rintro e w2 ⟨b2, b, ns, ds, z1, u1, z2, u2, hw, rfl, o1, o2⟩
    have HN : Hid (numT b ns ds = wholeT 0) := wholeIs_eq (by omega) (by omega) hw.out
    have kz : Below v.heap.size v w2 := b1.trans (b2.mono b1.size)
    have RN := R.below kz lR
    have r0 := RN.cell 0 rfl
    have r1 := RN.cell 1 rfl
    have r2 := RN.cell 2 rfl
    have f0 := RN.frozen 0
    have f1 := RN.frozen 1
    have f2 := RN.frozen 2
    have R3 := ((RN.put 0 (.bool b)).put 1 (.slice z1 ns.length u1)).put 2 (.slice z2 ds.length u2)
    have q0 := R3.cell 0 rfl
    have q1 := R3.cell 1 rfl
    have q2 := R3.cell 2 rfl
    go_wp2
    refine bodyPost_ret (v := .tuple #[.agg #[.bool b, .slice z1 ns.length u1, .slice z2 ds.length u2], .bool true]) (by simp [results, Tryz.results15, go_sem, q0, q1, q2]) rfl ?_
    exact ⟨b, z1, ns, u1, z2, ds, u2, true, rfl, (Own.set3 o1 (by have := b1.size; omega) _ _ _).rd, (Own.set3 o2 (by have := b1.size; omega) _ _ _).rd, ⟨by unfold idOk; rw [h0.out]; rfl, by unfold idN; rw [h0.out]; exact HN.out⟩, Below.set3 (g0.trans (kz.mono g0.size)) (Nat.le_refl _) _ _ _⟩
  go_wp2_with fail
  refine (contains_all1 g _).mono ?_
  rintro e w2 ⟨rfl, b2⟩
  rw [h1.out]
  have k2 : Below v.heap.size v w2 := b1.trans (b2.mono b1.size)
  cases B1
  case true =>
    go_wp2_with fail
    refine (ofInt_any 1 (by omega) (by omega) _).mono ?_
    rintro e w3 ⟨b3, b, ns, ds, z1, u1, z2, u2, hw, rfl, o1, o2⟩
    have HN : Hid (numT b ns ds = wholeT 1) := wholeIs_eq (by omega) (by omega) hw.out
    have k3 : Below v.heap.size v w3 := k2.trans (b3.mono k2.size)
    have RN := R.below k3 lR
    have r0 := RN.cell 0 rfl
    have r1 := RN.cell 1 rfl
    have r2 := RN.cell 2 rfl
    have f0 := RN.frozen 0
    have f1 := RN.frozen 1
    have f2 := RN.frozen 2
    have R3 := ((RN.put 0 (.bool b)).put 1 (.slice z1 ns.length u1)).put 2 (.slice z2 ds.length u2)
    have q0 := R3.cell 0 rfl
    have q1 := R3.cell 1 rfl
    have q2 := R3.cell 2 rfl
    go_wp2
    refine bodyPost_ret (v := .tuple #[.agg #[.bool b, .slice z1 ns.length u1, .slice z2 ds.length u2], .bool true]) (by simp [results, Tryz.results15, go_sem, q0, q1, q2]) rfl ?_
    exact ⟨b, z1, ns, u1, z2, ds, u2, true, rfl, (Own.set3 o1 (by have := k2.size; omega) _ _ _).rd, (Own.set3 o2 (by have := k2.size; omega) _ _ _).rd, ⟨by unfold idOk; rw [h0.out, h1.out]; rfl, by unfold idN; rw [h0.out, h1.out]; exact HN.out⟩, Below.set3 (g0.trans (k3.mono g0.size)) (Nat.le_refl _) _ _ _⟩
  have RN := R.below k2 lR
  have r0 := RN.cell 0 rfl
  have r1 := RN.cell 1 rfl
  have r2 := RN.cell 2 rfl
  have f0 := RN.frozen 0
  have f1 := RN.frozen 1
  have f2 := RN.frozen 2
  have R3 := ((RN.put 0 (.bool false)).put 1 (.slice none 0 0)).put 2 (.slice none 0 0)
  have q0 := R3.cell 0 rfl
  have q1 := R3.cell 1 rfl
  have q2 := R3.cell 2 rfl
  go_wp2
  refine bodyPost_ret (v := .tuple #[.agg #[.bool false, .slice none 0 0, .slice none 0 0], .bool false]) (by simp [results, Tryz.results15, go_sem, q0, q1, q2]) rfl ?_
  exact ⟨false, none, [], 0, none, [], 0, false, rfl, (own_nilT 0 _).rd, (own_nilT 0 _).rd, ⟨by unfold idOk; rw [h0.out, h1.out]; rfl, by unfold idN; rw [h0.out, h1.out]; rfl⟩, Below.set3 (g0.trans (k2.mono g0.size)) (Nat.le_refl _) _ _ _⟩
set_option maxRecDepth 100000 in
set_option maxHeartbeats 3200000 in
theorem refIdentity_any (g : Int) (w : World) : Calls Tryz.prog 16 #[.int .i32 g] w (IdAns w g) := by
  obtain ⟨B0, e0⟩ : ∃ B, ([43, 45, 124, 60, 62, 8800, 8744] : List Int).contains g = B := ⟨_, rfl⟩
  obtain ⟨B1, e1⟩ : ∃ B, ([215, 247, 42, 33, 8804, 61, 8805, 8743] : List Int).contains g = B := ⟨_, rfl⟩
  have h0 : Hid (([43, 45, 124, 60, 62, 8800, 8744] : List Int).contains g = B0) := e0
  have h1 : Hid (([215, 247, 42, 33, 8804, 61, 8805, 8743] : List Int).contains g = B1) := e1
  clear e0 e1
  have R := boxA_new w #[.bool false, .slice none 0 0, .slice none 0 0] 24
  have g0 := below_alloc w (.cells #[.bool false, .slice none 0 0, .slice none 0 0] 24)
  have lR := R.lt
  go_enter Tryz.func16, Tryz.ntmps16
  go_wp2_with fail
  generalize hA : w.alloc (.cells #[.bool false, .slice none 0 0, .slice none 0 0] 24) = v at *
  clear hA
  refine (in0_any g _).mono ?_
  rintro e w1 ⟨rfl, b1⟩
  rw [h0.out]
  cases B0
  case true =>
    go_wp2_with fail
    refine (refZero_any _).mono ?_
    rintro e w2 ⟨ds, z2, u2, hd, rfl, o2, b2⟩
    have HN : Hid (numT false [] ds = wholeT 0) := by unfold Hid; rw [hd.out]; exact zero_wholeT
    clear hd
    have kz : Below v.heap.size v w2 := b1.trans (b2.mono b1.size)
    have RN := R.below kz lR
    have r0 := RN.cell 0 rfl
    have r1 := RN.cell 1 rfl
    have r2 := RN.cell 2 rfl
    have f0 := RN.frozen 0
    have f1 := RN.frozen 1
    have f2 := RN.frozen 2
    have R3 := ((RN.put 0 (.bool false)).put 1 (.slice none 0 0)).put 2 (.slice z2 ds.length u2)
    have q0 := R3.cell 0 rfl
    have q1 := R3.cell 1 rfl
    have q2 := R3.cell 2 rfl
    go_wp2
    refine bodyPost_ret (v := .tuple #[.agg #[.bool false, .slice none 0 0, .slice z2 ds.length u2], .bool true]) (by simp [results, Tryz.results16, go_sem, q0, q1, q2]) rfl ?_
    exact ⟨false, none, [], 0, z2, ds, u2, true, rfl, (own_nilT 0 _).rd, (Own.set3 o2 (by have := b1.size; omega) _ _ _).rd, ⟨by unfold idOk; rw [h0.out]; rfl, by unfold idN; rw [h0.out]; exact HN.out⟩, Below.set3 (g0.trans (kz.mono g0.size)) (Nat.le_refl _) _ _ _⟩
  go_wp2_with fail
  refine (in1_any g _).mono ?_
  rintro e w2 ⟨rfl, b2⟩
  rw [h1.out]
  have k2 : Below v.heap.size v w2 := b1.trans (b2.mono b1.size)
  cases B1
  case true =>
    go_wp2_with fail
    refine (refOfInt_any 1 (by omega) (by omega) _).mono ?_
    rintro e w3 ⟨b3, b, ns, ds, z1, u1, z2, u2, hw, rfl, o1, o2⟩
    have HN : Hid (numT b ns ds = wholeT 1) := wholeIs_eq (by omega) (by omega) hw.out
    have k3 : Below v.heap.size v w3 := k2.trans (b3.mono k2.size)
    have RN := R.below k3 lR
    have r0 := RN.cell 0 rfl
    have r1 := RN.cell 1 rfl
    have r2 := RN.cell 2 rfl
    have f0 := RN.frozen 0
    have f1 := RN.frozen 1
    have f2 := RN.frozen 2
    have R3 := ((RN.put 0 (.bool b)).put 1 (.slice z1 ns.length u1)).put 2 (.slice z2 ds.length u2)
    have q0 := R3.cell 0 rfl
    have q1 := R3.cell 1 rfl
    have q2 := R3.cell 2 rfl
    go_wp2
    refine bodyPost_ret (v := .tuple #[.agg #[.bool b, .slice z1 ns.length u1, .slice z2 ds.length u2], .bool true]) (by simp [results, Tryz.results16, go_sem, q0, q1, q2]) rfl ?_
    exact ⟨b, z1, ns, u1, z2, ds, u2, true, rfl, (Own.set3 o1 (by have := k2.size; omega) _ _ _).rd, (Own.set3 o2 (by have := k2.size; omega) _ _ _).rd, ⟨by unfold idOk; rw [h0.out, h1.out]; rfl, by unfold idN; rw [h0.out, h1.out]; exact HN.out⟩, Below.set3 (g0.trans (k3.mono g0.size)) (Nat.le_refl _) _ _ _⟩
  have RN := R.below k2 lR
  have r0 := RN.cell 0 rfl
  have r1 := RN.cell 1 rfl
  have r2 := RN.cell 2 rfl
  have f0 := RN.frozen 0
  have f1 := RN.frozen 1
  have f2 := RN.frozen 2
  have R3 := ((RN.put 0 (.bool false)).put 1 (.slice none 0 0)).put 2 (.slice none 0 0)
  have q0 := R3.cell 0 rfl
  have q1 := R3.cell 1 rfl
  have q2 := R3.cell 2 rfl
  go_wp2
  refine bodyPost_ret (v := .tuple #[.agg #[.bool false, .slice none 0 0, .slice none 0 0], .bool false]) (by simp [results, Tryz.results16, go_sem, q0, q1, q2]) rfl ?_
  exact ⟨false, none, [], 0, none, [], 0, false, rfl, (own_nilT 0 _).rd, (own_nilT 0 _).rd, ⟨by unfold idOk; rw [h0.out, h1.out]; rfl, by unfold idN; rw [h0.out, h1.out]; rfl⟩, Below.set3 (g0.trans (k2.mono g0.size)) (Nat.le_refl _) _ _ _⟩
end Go.Proofs.YtopndegbofokiaaGreat

/- ScalarGlyphs: which glyphs are scalar functions, and their identities. -/
namespace Go.Proofs.YtopndegbofokiaaGreat
set_option linter.unusedVariables false
set_option linter.unusedSimpArgs false
open Go.RowKit

theorem glyphs_any (w : World) : Calls Tryz.prog 17 #[] w fun e w' => ∃ s, e = .returned (.string s) ∧ Hid (s = (ByteArray.mk #[43, 45, 195, 151, 195, 183, 226, 140, 136, 226, 140, 138, 124, 42, 33, 126, 60, 226, 137, 164, 61, 226, 137, 165, 62, 226, 137, 160, 226, 136, 167, 226, 136, 168, 226, 141, 178, 226, 141, 177])) ∧ w' = w := by
  go_enter Tryz.func17, Tryz.ntmps17
  go_wp2
  go_ret
  exact ⟨_, rfl, rfl, rfl⟩
theorem refGlyphs_any (w : World) : Calls Tryz.prog 18 #[] w fun e w' => ∃ s, e = .returned (.string s) ∧ Hid (s = (ByteArray.mk #[43, 45, 195, 151, 195, 183, 226, 140, 136, 226, 140, 138, 124, 42, 33, 126, 60, 226, 137, 164, 61, 226, 137, 165, 62, 226, 137, 160, 226, 136, 167, 226, 136, 168, 226, 141, 178, 226, 141, 177])) ∧ w' = w := by
  go_enter Tryz.func18, Tryz.ntmps18
  go_wp2
  go_ret
  exact ⟨_, rfl, rfl, rfl⟩
set_option maxRecDepth 100000 in
set_option maxHeartbeats 1600000 in
theorem scalarGlyphs_walk (g : Int) (w : World) : Calls Tryz.prog 4 #[.int .i32 g] w fun e w' => e = .returned (.bool true) ∧ Below w.heap.size w w' := by
  obtain ⟨B1, e1⟩ : ∃ B, ([43, 45, 215, 247, 8968, 8970, 124, 42, 33, 126] : List Int).contains g = B := ⟨_, rfl⟩
  obtain ⟨B2, e2⟩ : ∃ B, ([43, 45, 215, 247, 8968, 8970, 124, 42, 33, 60, 8804, 61, 8805, 62, 8800, 8743, 8744, 9074, 9073] : List Int).contains g = B := ⟨_, rfl⟩
  have m1 : Hid (([43, 45, 215, 247, 8968, 8970, 124, 42, 33, 126] : List Int).contains g = B1) := e1
  have m2 : Hid (([43, 45, 215, 247, 8968, 8970, 124, 42, 33, 60, 8804, 61, 8805, 62, 8800, 8743, 8744, 9074, 9073] : List Int).contains g = B2) := e2
  clear e1 e2
  go_enter Tryz.func4, Tryz.ntmps4
  go_wp2_with fail
  refine (identity_any g _).mono ?_
  rintro e w1 ⟨b, z1, ns, u1, z2, ds, u2, ok, rfl, h1, h2, hI, k1⟩
  have Xb := boxA_new w1 #[.bool b, .slice z1 ns.length u1, .slice z2 ds.length u2] 24
  have kx := below_alloc w1 (.cells #[.bool b, .slice z1 ns.length u1, .slice z2 ds.length u2] 24)
  have lx := Xb.lt
  go_wp2_with fail
  generalize hA : w1.alloc (.cells #[.bool b, .slice z1 ns.length u1, .slice z2 ds.length u2] 24) = v1 at *
  clear hA
  refine (refIdentity_any g _).mono ?_
  rintro e w2 ⟨b', y1, ms, x1, y2, es, x2, ok', rfl, h3, h4, hI', k2⟩
  obtain ⟨e1, e2⟩ := hI.out
  obtain ⟨e1', e2'⟩ := hI'.out
  have e3 : numT b' ms es = numT b ns ds := e2'.trans e2.symm
  have c1 : b = b' := (congrArg Tr.b e3).symm
  have c2 : ns = ms := (congrArg Tr.ns e3).symm
  have c3 : ds = es := (congrArg Tr.ds e3).symm
  have c4 : ok = ok' := e1.trans e1'.symm
  subst c1 c2 c3 c4
  clear e1 e2 e1' e2' e3 hI hI'
  have s1 := k1.size
  have s2 := kx.size
  have s3 := k2.size
  have g1 : Below w1.heap.size w1 w2 := kx.trans (k2.mono s2)
  have gw : Below w.heap.size w w2 := k1.trans (g1.mono s1)
  have Yb := boxA_new w2 #[.bool b, .slice y1 ns.length x1, .slice y2 ds.length x2] 24
  have ky := below_alloc w2 (.cells #[.bool b, .slice y1 ns.length x1, .slice y2 ds.length x2] 24)
  have ly := Yb.lt
  have H1 : Hid (Rd w2.heap.size w2 (.slice z1 ns.length u1) ns ∧ Rd w2.heap.size w2 (.slice z2 ds.length u2) ds ∧ Rd w2.heap.size w2 (.slice y1 ns.length x1) ns ∧ Rd w2.heap.size w2 (.slice y2 ds.length x2) ds) := ⟨(h1.below g1).mono g1.size, (h2.below g1).mono g1.size, h3, h4⟩
  have X2 := Xb.below (k2) lx
  have lx2 := X2.lt
  have X3 := X2.below ky lx2
  have lx3 := X3.lt
  clear h1 h2 h3 h4
  go_wp2_with fail
  generalize hA : w2.alloc (.cells #[.bool b, .slice y1 ns.length x1, .slice y2 ds.length x2] 24) = v2 at *
  clear hA
  refine (live5_ok _).mono ?_
  rintro e w3 ⟨rfl, b3⟩
  go_wp2_with fail
  refine (glyphs_any _).mono ?_
  rintro e w' ⟨s, rfl, hs, hw'⟩
  obtain rfl := hw'.symm
  go_wp2_with fail
  refine (refGlyphs_any _).mono ?_
  rintro e w' ⟨s', rfl, hs', hw2⟩
  obtain rfl := hw2.symm
  have hss : s' = s := hs'.out.trans hs.out.symm
  subst hss
  clear hs hs'
  try clear hw'
  try clear hw2
  go_wp2_with fail
  refine (isMonadic_any g _).mono ?_
  rintro e w4 ⟨rfl, b4⟩
  rw [m1.out]
  go_wp2_with fail
  refine (refIsMonadic_any g _).mono ?_
  rintro e w5 ⟨rfl, b5⟩
  rw [m1.out]
  go_wp2_with fail
  refine (isDyadic_any g _).mono ?_
  rintro e w6 ⟨rfl, b6⟩
  rw [m2.out]
  go_wp2_with fail
  refine (refIsDyadic_any g _).mono ?_
  rintro e w7 ⟨rfl, b7⟩
  rw [m2.out]
  have t4 : Below v2.heap.size v2 w4 := b3.trans (b4.mono b3.size)
  have t5 : Below v2.heap.size v2 w5 := t4.trans (b5.mono t4.size)
  have t6 : Below v2.heap.size v2 w6 := t5.trans (b6.mono t5.size)
  have t7 : Below v2.heap.size v2 w7 := t6.trans (b7.mono t6.size)
  have X7 := X3.below t7 lx3
  have Y7 := Yb.below t7 ly
  have p0 := X7.cell 0 rfl
  have p1 := X7.cell 1 rfl
  have p2 := X7.cell 2 rfl
  have q0 := Y7.cell 0 rfl
  have q1 := Y7.cell 1 rfl
  have q2 := Y7.cell 2 rfl
  have j7 : Below w2.heap.size w2 w7 := ky.trans (t7.mono ky.size)
  go_wp2_with fail
  refine (same_rat ((H1.out.1.below j7).mono j7.size) ((H1.out.2.1.below j7).mono j7.size) ((H1.out.2.2.1.below j7).mono j7.size) ((H1.out.2.2.2.below j7).mono j7.size)).mono ?_
  rintro e w8 ⟨rfl, b8⟩
  go_wp2
  go_ret
  exact ⟨rfl, gw.trans ((j7.trans (b8.mono j7.size)).mono gw.size)⟩
end Go.Proofs.YtopndegbofokiaaGreat
