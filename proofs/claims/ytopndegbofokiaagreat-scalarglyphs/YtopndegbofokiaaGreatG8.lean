/- strings.IndexRune of the characters that are there. -/
import Derived.Test.YtopndegbofokiaaGreatGA
namespace Go.Proofs.YtopndegbofokiaaGreat
set_option linter.unusedVariables false
set_option linter.unusedSimpArgs false
open Go.RowKit

set_option maxRecDepth 100000 in
set_option maxHeartbeats 3200000 in
theorem hit_8800 (w : World) : Calls Tryz.prog 136 #[.string ⟨#[43, 45, 124, 60, 62, 226, 137, 160, 226, 136, 168]⟩, .int .i32 8800] w fun e w' => e = .returned (.int .i64 5) ∧ Below w.heap.size w w' := by
  have he : Utf8.encode 8800 = ⟨#[226, 137, 160]⟩ := by decide +kernel
  have hv : Lib.validRune 8800 = true := by decide +kernel
  have s0 : ∀ h, (((⟨#[43, 45, 124, 60, 62, 226, 137, 160, 226, 136, 168]⟩ : ByteArray))[0]'h).toNat = 43 := fun _ => rfl
  have s1 : ∀ h, (((⟨#[43, 45, 124, 60, 62, 226, 137, 160, 226, 136, 168]⟩ : ByteArray))[1]'h).toNat = 45 := fun _ => rfl
  have s2 : ∀ h, (((⟨#[43, 45, 124, 60, 62, 226, 137, 160, 226, 136, 168]⟩ : ByteArray))[2]'h).toNat = 124 := fun _ => rfl
  have s3 : ∀ h, (((⟨#[43, 45, 124, 60, 62, 226, 137, 160, 226, 136, 168]⟩ : ByteArray))[3]'h).toNat = 60 := fun _ => rfl
  have s4 : ∀ h, (((⟨#[43, 45, 124, 60, 62, 226, 137, 160, 226, 136, 168]⟩ : ByteArray))[4]'h).toNat = 62 := fun _ => rfl
  have s5 : ∀ h, (((⟨#[43, 45, 124, 60, 62, 226, 137, 160, 226, 136, 168]⟩ : ByteArray))[5]'h).toNat = 226 := fun _ => rfl
  have s6 : ∀ h, (((⟨#[43, 45, 124, 60, 62, 226, 137, 160, 226, 136, 168]⟩ : ByteArray))[6]'h).toNat = 137 := fun _ => rfl
  have s7 : ∀ h, (((⟨#[43, 45, 124, 60, 62, 226, 137, 160, 226, 136, 168]⟩ : ByteArray))[7]'h).toNat = 160 := fun _ => rfl
  have s8 : ∀ h, (((⟨#[43, 45, 124, 60, 62, 226, 137, 160, 226, 136, 168]⟩ : ByteArray))[8]'h).toNat = 226 := fun _ => rfl
  have s9 : ∀ h, (((⟨#[43, 45, 124, 60, 62, 226, 137, 160, 226, 136, 168]⟩ : ByteArray))[9]'h).toNat = 136 := fun _ => rfl
  have s10 : ∀ h, (((⟨#[43, 45, 124, 60, 62, 226, 137, 160, 226, 136, 168]⟩ : ByteArray))[10]'h).toNat = 168 := fun _ => rfl
  have r0 : ∀ h, ((⟨#[226, 137, 160]⟩ : ByteArray))[0]'h = 226 := fun _ => rfl
  have r1 : ∀ h, ((⟨#[226, 137, 160]⟩ : ByteArray))[1]'h = 137 := fun _ => rfl
  have r2 : ∀ h, ((⟨#[226, 137, 160]⟩ : ByteArray))[2]'h = 160 := fun _ => rfl
  go_enter Tryz.func136, Tryz.ntmps136
  go_wp2_with fail
  refine (Tryz.utf8_ValidRune _ _).mono ?_
  rintro e w' ⟨rfl, hw⟩
  obtain rfl := hw.symm
  rw [hv]
  clear hv hw
  go_wp2_with fail
  apply wp_scope_straight
  go_wp2_with fail
  clear he
  refine wp_loop_rounds 4 ?_
  rw [rounds_succ]
  go_wp2_with fail
  refine wp_scope_once 0 rfl ?_
  go_wp2_with fail
  go_region
  go_upto_region 7 with fail
  go_cut [11] from 34 to 42 (fun s wx => s = .int .i64 (4) ∧ Below w.heap.size w wx)
  case first =>
    go_region_with (go_at_call 186; refine (Tryz.strings_IndexByte _ _ _).mono ?_; rintro e w' ⟨rfl, hw'⟩; obtain rfl := hw'.symm; (try clear hw'); rw [show Lib.indexByte _ _ = 4 from by decide +kernel])
    all_goals (go_wp2_with fail; go_meet; exact ⟨rfl, by repeat (first | assumption | exact Below.refl _ _ | refine below_drewX ?_)⟩)
  case rest =>
    obtain ⟨rfl, hwc⟩ := hcut
    go_wp2_with fail
    refine wp_loop_rounds 3 ?_
    rw [rounds_succ]
    go_wp2_with fail
    go_region
    go_wp2_with fail
    rw [rounds_succ]
    go_wp2_with fail
    go_region
    go_wp2_with fail
    rw [rounds_succ]
    go_wp2
    simp only [oneJump_ret, Exit.noGoto_ret, Exit.inBlock, Exit.then]
    go_ret
    exact ⟨rfl, by repeat (first | assumption | exact Below.refl _ _ | refine below_drewX ?_)⟩
set_option maxRecDepth 100000 in
set_option maxHeartbeats 3200000 in
theorem hit_8744 (w : World) : Calls Tryz.prog 136 #[.string ⟨#[43, 45, 124, 60, 62, 226, 137, 160, 226, 136, 168]⟩, .int .i32 8744] w fun e w' => e = .returned (.int .i64 8) ∧ Below w.heap.size w w' := by
  have he : Utf8.encode 8744 = ⟨#[226, 136, 168]⟩ := by decide +kernel
  have hv : Lib.validRune 8744 = true := by decide +kernel
  have s0 : ∀ h, (((⟨#[43, 45, 124, 60, 62, 226, 137, 160, 226, 136, 168]⟩ : ByteArray))[0]'h).toNat = 43 := fun _ => rfl
  have s1 : ∀ h, (((⟨#[43, 45, 124, 60, 62, 226, 137, 160, 226, 136, 168]⟩ : ByteArray))[1]'h).toNat = 45 := fun _ => rfl
  have s2 : ∀ h, (((⟨#[43, 45, 124, 60, 62, 226, 137, 160, 226, 136, 168]⟩ : ByteArray))[2]'h).toNat = 124 := fun _ => rfl
  have s3 : ∀ h, (((⟨#[43, 45, 124, 60, 62, 226, 137, 160, 226, 136, 168]⟩ : ByteArray))[3]'h).toNat = 60 := fun _ => rfl
  have s4 : ∀ h, (((⟨#[43, 45, 124, 60, 62, 226, 137, 160, 226, 136, 168]⟩ : ByteArray))[4]'h).toNat = 62 := fun _ => rfl
  have s5 : ∀ h, (((⟨#[43, 45, 124, 60, 62, 226, 137, 160, 226, 136, 168]⟩ : ByteArray))[5]'h).toNat = 226 := fun _ => rfl
  have s6 : ∀ h, (((⟨#[43, 45, 124, 60, 62, 226, 137, 160, 226, 136, 168]⟩ : ByteArray))[6]'h).toNat = 137 := fun _ => rfl
  have s7 : ∀ h, (((⟨#[43, 45, 124, 60, 62, 226, 137, 160, 226, 136, 168]⟩ : ByteArray))[7]'h).toNat = 160 := fun _ => rfl
  have s8 : ∀ h, (((⟨#[43, 45, 124, 60, 62, 226, 137, 160, 226, 136, 168]⟩ : ByteArray))[8]'h).toNat = 226 := fun _ => rfl
  have s9 : ∀ h, (((⟨#[43, 45, 124, 60, 62, 226, 137, 160, 226, 136, 168]⟩ : ByteArray))[9]'h).toNat = 136 := fun _ => rfl
  have s10 : ∀ h, (((⟨#[43, 45, 124, 60, 62, 226, 137, 160, 226, 136, 168]⟩ : ByteArray))[10]'h).toNat = 168 := fun _ => rfl
  have r0 : ∀ h, ((⟨#[226, 136, 168]⟩ : ByteArray))[0]'h = 226 := fun _ => rfl
  have r1 : ∀ h, ((⟨#[226, 136, 168]⟩ : ByteArray))[1]'h = 136 := fun _ => rfl
  have r2 : ∀ h, ((⟨#[226, 136, 168]⟩ : ByteArray))[2]'h = 168 := fun _ => rfl
  go_enter Tryz.func136, Tryz.ntmps136
  go_wp2_with fail
  refine (Tryz.utf8_ValidRune _ _).mono ?_
  rintro e w' ⟨rfl, hw⟩
  obtain rfl := hw.symm
  rw [hv]
  clear hv hw
  go_wp2_with fail
  apply wp_scope_straight
  go_wp2_with fail
  clear he
  refine wp_loop_rounds 4 ?_
  rw [rounds_succ]
  go_wp2_with fail
  refine wp_scope_once 0 rfl ?_
  go_wp2_with fail
  go_region
  go_upto_region 7 with fail
  go_cut [11] from 34 to 42 (fun s wx => s = .int .i64 (7) ∧ Below w.heap.size w wx)
  case first =>
    go_region_with (go_at_call 186; refine (Tryz.strings_IndexByte _ _ _).mono ?_; rintro e w' ⟨rfl, hw'⟩; obtain rfl := hw'.symm; (try clear hw'); rw [show Lib.indexByte _ _ = 7 from by decide +kernel])
    all_goals (go_wp2_with fail; go_meet; exact ⟨rfl, by repeat (first | assumption | exact Below.refl _ _ | refine below_drewX ?_)⟩)
  case rest =>
    obtain ⟨rfl, hwc⟩ := hcut
    go_wp2_with fail
    refine wp_loop_rounds 3 ?_
    rw [rounds_succ]
    go_wp2_with fail
    go_region
    go_wp2_with fail
    rw [rounds_succ]
    go_wp2_with fail
    go_region
    go_wp2_with fail
    rw [rounds_succ]
    go_wp2
    simp only [oneJump_ret, Exit.noGoto_ret, Exit.inBlock, Exit.then]
    go_ret
    exact ⟨rfl, by repeat (first | assumption | exact Below.refl _ _ | refine below_drewX ?_)⟩
set_option maxRecDepth 100000 in
set_option maxHeartbeats 3200000 in
theorem hit_215 (w : World) : Calls Tryz.prog 136 #[.string ⟨#[195, 151, 195, 183, 42, 33, 226, 137, 164, 61, 226, 137, 165, 226, 136, 167]⟩, .int .i32 215] w fun e w' => e = .returned (.int .i64 0) ∧ Below w.heap.size w w' := by
  have he : Utf8.encode 215 = ⟨#[195, 151]⟩ := by decide +kernel
  have hv : Lib.validRune 215 = true := by decide +kernel
  have s0 : ∀ h, (((⟨#[195, 151, 195, 183, 42, 33, 226, 137, 164, 61, 226, 137, 165, 226, 136, 167]⟩ : ByteArray))[0]'h).toNat = 195 := fun _ => rfl
  have s1 : ∀ h, (((⟨#[195, 151, 195, 183, 42, 33, 226, 137, 164, 61, 226, 137, 165, 226, 136, 167]⟩ : ByteArray))[1]'h).toNat = 151 := fun _ => rfl
  have s2 : ∀ h, (((⟨#[195, 151, 195, 183, 42, 33, 226, 137, 164, 61, 226, 137, 165, 226, 136, 167]⟩ : ByteArray))[2]'h).toNat = 195 := fun _ => rfl
  have s3 : ∀ h, (((⟨#[195, 151, 195, 183, 42, 33, 226, 137, 164, 61, 226, 137, 165, 226, 136, 167]⟩ : ByteArray))[3]'h).toNat = 183 := fun _ => rfl
  have s4 : ∀ h, (((⟨#[195, 151, 195, 183, 42, 33, 226, 137, 164, 61, 226, 137, 165, 226, 136, 167]⟩ : ByteArray))[4]'h).toNat = 42 := fun _ => rfl
  have s5 : ∀ h, (((⟨#[195, 151, 195, 183, 42, 33, 226, 137, 164, 61, 226, 137, 165, 226, 136, 167]⟩ : ByteArray))[5]'h).toNat = 33 := fun _ => rfl
  have s6 : ∀ h, (((⟨#[195, 151, 195, 183, 42, 33, 226, 137, 164, 61, 226, 137, 165, 226, 136, 167]⟩ : ByteArray))[6]'h).toNat = 226 := fun _ => rfl
  have s7 : ∀ h, (((⟨#[195, 151, 195, 183, 42, 33, 226, 137, 164, 61, 226, 137, 165, 226, 136, 167]⟩ : ByteArray))[7]'h).toNat = 137 := fun _ => rfl
  have s8 : ∀ h, (((⟨#[195, 151, 195, 183, 42, 33, 226, 137, 164, 61, 226, 137, 165, 226, 136, 167]⟩ : ByteArray))[8]'h).toNat = 164 := fun _ => rfl
  have s9 : ∀ h, (((⟨#[195, 151, 195, 183, 42, 33, 226, 137, 164, 61, 226, 137, 165, 226, 136, 167]⟩ : ByteArray))[9]'h).toNat = 61 := fun _ => rfl
  have s10 : ∀ h, (((⟨#[195, 151, 195, 183, 42, 33, 226, 137, 164, 61, 226, 137, 165, 226, 136, 167]⟩ : ByteArray))[10]'h).toNat = 226 := fun _ => rfl
  have s11 : ∀ h, (((⟨#[195, 151, 195, 183, 42, 33, 226, 137, 164, 61, 226, 137, 165, 226, 136, 167]⟩ : ByteArray))[11]'h).toNat = 137 := fun _ => rfl
  have s12 : ∀ h, (((⟨#[195, 151, 195, 183, 42, 33, 226, 137, 164, 61, 226, 137, 165, 226, 136, 167]⟩ : ByteArray))[12]'h).toNat = 165 := fun _ => rfl
  have s13 : ∀ h, (((⟨#[195, 151, 195, 183, 42, 33, 226, 137, 164, 61, 226, 137, 165, 226, 136, 167]⟩ : ByteArray))[13]'h).toNat = 226 := fun _ => rfl
  have s14 : ∀ h, (((⟨#[195, 151, 195, 183, 42, 33, 226, 137, 164, 61, 226, 137, 165, 226, 136, 167]⟩ : ByteArray))[14]'h).toNat = 136 := fun _ => rfl
  have s15 : ∀ h, (((⟨#[195, 151, 195, 183, 42, 33, 226, 137, 164, 61, 226, 137, 165, 226, 136, 167]⟩ : ByteArray))[15]'h).toNat = 167 := fun _ => rfl
  have r0 : ∀ h, ((⟨#[195, 151]⟩ : ByteArray))[0]'h = 195 := fun _ => rfl
  have r1 : ∀ h, ((⟨#[195, 151]⟩ : ByteArray))[1]'h = 151 := fun _ => rfl
  go_enter Tryz.func136, Tryz.ntmps136
  go_wp2_with fail
  refine (Tryz.utf8_ValidRune _ _).mono ?_
  rintro e w' ⟨rfl, hw⟩
  obtain rfl := hw.symm
  rw [hv]
  clear hv hw
  go_wp2_with fail
  apply wp_scope_straight
  go_wp2_with fail
  clear he
  refine wp_loop_rounds 4 ?_
  rw [rounds_succ]
  go_wp2_with fail
  refine wp_scope_once 0 rfl ?_
  go_wp2_with fail
  go_region
  go_wp2_with fail
  refine wp_loop_rounds 2 ?_
  rw [rounds_succ]
  go_wp2_with fail
  go_region
  go_wp2_with fail
  rw [rounds_succ]
  go_wp2
  simp only [oneJump_ret, Exit.noGoto_ret, Exit.inBlock, Exit.then]
  go_ret
  exact ⟨rfl, by repeat (first | assumption | exact Below.refl _ _ | refine below_drewX ?_)⟩
set_option maxRecDepth 100000 in
set_option maxHeartbeats 3200000 in
theorem hit_247 (w : World) : Calls Tryz.prog 136 #[.string ⟨#[195, 151, 195, 183, 42, 33, 226, 137, 164, 61, 226, 137, 165, 226, 136, 167]⟩, .int .i32 247] w fun e w' => e = .returned (.int .i64 2) ∧ Below w.heap.size w w' := by
  have he : Utf8.encode 247 = ⟨#[195, 183]⟩ := by decide +kernel
  have hv : Lib.validRune 247 = true := by decide +kernel
  have s0 : ∀ h, (((⟨#[195, 151, 195, 183, 42, 33, 226, 137, 164, 61, 226, 137, 165, 226, 136, 167]⟩ : ByteArray))[0]'h).toNat = 195 := fun _ => rfl
  have s1 : ∀ h, (((⟨#[195, 151, 195, 183, 42, 33, 226, 137, 164, 61, 226, 137, 165, 226, 136, 167]⟩ : ByteArray))[1]'h).toNat = 151 := fun _ => rfl
  have s2 : ∀ h, (((⟨#[195, 151, 195, 183, 42, 33, 226, 137, 164, 61, 226, 137, 165, 226, 136, 167]⟩ : ByteArray))[2]'h).toNat = 195 := fun _ => rfl
  have s3 : ∀ h, (((⟨#[195, 151, 195, 183, 42, 33, 226, 137, 164, 61, 226, 137, 165, 226, 136, 167]⟩ : ByteArray))[3]'h).toNat = 183 := fun _ => rfl
  have s4 : ∀ h, (((⟨#[195, 151, 195, 183, 42, 33, 226, 137, 164, 61, 226, 137, 165, 226, 136, 167]⟩ : ByteArray))[4]'h).toNat = 42 := fun _ => rfl
  have s5 : ∀ h, (((⟨#[195, 151, 195, 183, 42, 33, 226, 137, 164, 61, 226, 137, 165, 226, 136, 167]⟩ : ByteArray))[5]'h).toNat = 33 := fun _ => rfl
  have s6 : ∀ h, (((⟨#[195, 151, 195, 183, 42, 33, 226, 137, 164, 61, 226, 137, 165, 226, 136, 167]⟩ : ByteArray))[6]'h).toNat = 226 := fun _ => rfl
  have s7 : ∀ h, (((⟨#[195, 151, 195, 183, 42, 33, 226, 137, 164, 61, 226, 137, 165, 226, 136, 167]⟩ : ByteArray))[7]'h).toNat = 137 := fun _ => rfl
  have s8 : ∀ h, (((⟨#[195, 151, 195, 183, 42, 33, 226, 137, 164, 61, 226, 137, 165, 226, 136, 167]⟩ : ByteArray))[8]'h).toNat = 164 := fun _ => rfl
  have s9 : ∀ h, (((⟨#[195, 151, 195, 183, 42, 33, 226, 137, 164, 61, 226, 137, 165, 226, 136, 167]⟩ : ByteArray))[9]'h).toNat = 61 := fun _ => rfl
  have s10 : ∀ h, (((⟨#[195, 151, 195, 183, 42, 33, 226, 137, 164, 61, 226, 137, 165, 226, 136, 167]⟩ : ByteArray))[10]'h).toNat = 226 := fun _ => rfl
  have s11 : ∀ h, (((⟨#[195, 151, 195, 183, 42, 33, 226, 137, 164, 61, 226, 137, 165, 226, 136, 167]⟩ : ByteArray))[11]'h).toNat = 137 := fun _ => rfl
  have s12 : ∀ h, (((⟨#[195, 151, 195, 183, 42, 33, 226, 137, 164, 61, 226, 137, 165, 226, 136, 167]⟩ : ByteArray))[12]'h).toNat = 165 := fun _ => rfl
  have s13 : ∀ h, (((⟨#[195, 151, 195, 183, 42, 33, 226, 137, 164, 61, 226, 137, 165, 226, 136, 167]⟩ : ByteArray))[13]'h).toNat = 226 := fun _ => rfl
  have s14 : ∀ h, (((⟨#[195, 151, 195, 183, 42, 33, 226, 137, 164, 61, 226, 137, 165, 226, 136, 167]⟩ : ByteArray))[14]'h).toNat = 136 := fun _ => rfl
  have s15 : ∀ h, (((⟨#[195, 151, 195, 183, 42, 33, 226, 137, 164, 61, 226, 137, 165, 226, 136, 167]⟩ : ByteArray))[15]'h).toNat = 167 := fun _ => rfl
  have r0 : ∀ h, ((⟨#[195, 183]⟩ : ByteArray))[0]'h = 195 := fun _ => rfl
  have r1 : ∀ h, ((⟨#[195, 183]⟩ : ByteArray))[1]'h = 183 := fun _ => rfl
  go_enter Tryz.func136, Tryz.ntmps136
  go_wp2_with fail
  refine (Tryz.utf8_ValidRune _ _).mono ?_
  rintro e w' ⟨rfl, hw⟩
  obtain rfl := hw.symm
  rw [hv]
  clear hv hw
  go_wp2_with fail
  apply wp_scope_straight
  go_wp2_with fail
  clear he
  refine wp_loop_rounds 4 ?_
  rw [rounds_succ]
  go_wp2_with fail
  refine wp_scope_once 0 rfl ?_
  go_wp2_with fail
  go_region
  go_upto_region 7 with fail
  go_cut [11] from 34 to 42 (fun s wx => s = .int .i64 (1) ∧ Below w.heap.size w wx)
  case first =>
    go_region_with (go_at_call 186; refine (Tryz.strings_IndexByte _ _ _).mono ?_; rintro e w' ⟨rfl, hw'⟩; obtain rfl := hw'.symm; (try clear hw'); rw [show Lib.indexByte _ _ = 1 from by decide +kernel])
    all_goals (go_wp2_with fail; go_meet; exact ⟨rfl, by repeat (first | assumption | exact Below.refl _ _ | refine below_drewX ?_)⟩)
  case rest =>
    obtain ⟨rfl, hwc⟩ := hcut
    go_wp2_with fail
    refine wp_loop_rounds 2 ?_
    rw [rounds_succ]
    go_wp2_with fail
    go_region
    go_wp2_with fail
    rw [rounds_succ]
    go_wp2
    simp only [oneJump_ret, Exit.noGoto_ret, Exit.inBlock, Exit.then]
    go_ret
    exact ⟨rfl, by repeat (first | assumption | exact Below.refl _ _ | refine below_drewX ?_)⟩
set_option maxRecDepth 100000 in
set_option maxHeartbeats 3200000 in
theorem hit_8804 (w : World) : Calls Tryz.prog 136 #[.string ⟨#[195, 151, 195, 183, 42, 33, 226, 137, 164, 61, 226, 137, 165, 226, 136, 167]⟩, .int .i32 8804] w fun e w' => e = .returned (.int .i64 6) ∧ Below w.heap.size w w' := by
  have he : Utf8.encode 8804 = ⟨#[226, 137, 164]⟩ := by decide +kernel
  have hv : Lib.validRune 8804 = true := by decide +kernel
  have s0 : ∀ h, (((⟨#[195, 151, 195, 183, 42, 33, 226, 137, 164, 61, 226, 137, 165, 226, 136, 167]⟩ : ByteArray))[0]'h).toNat = 195 := fun _ => rfl
  have s1 : ∀ h, (((⟨#[195, 151, 195, 183, 42, 33, 226, 137, 164, 61, 226, 137, 165, 226, 136, 167]⟩ : ByteArray))[1]'h).toNat = 151 := fun _ => rfl
  have s2 : ∀ h, (((⟨#[195, 151, 195, 183, 42, 33, 226, 137, 164, 61, 226, 137, 165, 226, 136, 167]⟩ : ByteArray))[2]'h).toNat = 195 := fun _ => rfl
  have s3 : ∀ h, (((⟨#[195, 151, 195, 183, 42, 33, 226, 137, 164, 61, 226, 137, 165, 226, 136, 167]⟩ : ByteArray))[3]'h).toNat = 183 := fun _ => rfl
  have s4 : ∀ h, (((⟨#[195, 151, 195, 183, 42, 33, 226, 137, 164, 61, 226, 137, 165, 226, 136, 167]⟩ : ByteArray))[4]'h).toNat = 42 := fun _ => rfl
  have s5 : ∀ h, (((⟨#[195, 151, 195, 183, 42, 33, 226, 137, 164, 61, 226, 137, 165, 226, 136, 167]⟩ : ByteArray))[5]'h).toNat = 33 := fun _ => rfl
  have s6 : ∀ h, (((⟨#[195, 151, 195, 183, 42, 33, 226, 137, 164, 61, 226, 137, 165, 226, 136, 167]⟩ : ByteArray))[6]'h).toNat = 226 := fun _ => rfl
  have s7 : ∀ h, (((⟨#[195, 151, 195, 183, 42, 33, 226, 137, 164, 61, 226, 137, 165, 226, 136, 167]⟩ : ByteArray))[7]'h).toNat = 137 := fun _ => rfl
  have s8 : ∀ h, (((⟨#[195, 151, 195, 183, 42, 33, 226, 137, 164, 61, 226, 137, 165, 226, 136, 167]⟩ : ByteArray))[8]'h).toNat = 164 := fun _ => rfl
  have s9 : ∀ h, (((⟨#[195, 151, 195, 183, 42, 33, 226, 137, 164, 61, 226, 137, 165, 226, 136, 167]⟩ : ByteArray))[9]'h).toNat = 61 := fun _ => rfl
  have s10 : ∀ h, (((⟨#[195, 151, 195, 183, 42, 33, 226, 137, 164, 61, 226, 137, 165, 226, 136, 167]⟩ : ByteArray))[10]'h).toNat = 226 := fun _ => rfl
  have s11 : ∀ h, (((⟨#[195, 151, 195, 183, 42, 33, 226, 137, 164, 61, 226, 137, 165, 226, 136, 167]⟩ : ByteArray))[11]'h).toNat = 137 := fun _ => rfl
  have s12 : ∀ h, (((⟨#[195, 151, 195, 183, 42, 33, 226, 137, 164, 61, 226, 137, 165, 226, 136, 167]⟩ : ByteArray))[12]'h).toNat = 165 := fun _ => rfl
  have s13 : ∀ h, (((⟨#[195, 151, 195, 183, 42, 33, 226, 137, 164, 61, 226, 137, 165, 226, 136, 167]⟩ : ByteArray))[13]'h).toNat = 226 := fun _ => rfl
  have s14 : ∀ h, (((⟨#[195, 151, 195, 183, 42, 33, 226, 137, 164, 61, 226, 137, 165, 226, 136, 167]⟩ : ByteArray))[14]'h).toNat = 136 := fun _ => rfl
  have s15 : ∀ h, (((⟨#[195, 151, 195, 183, 42, 33, 226, 137, 164, 61, 226, 137, 165, 226, 136, 167]⟩ : ByteArray))[15]'h).toNat = 167 := fun _ => rfl
  have r0 : ∀ h, ((⟨#[226, 137, 164]⟩ : ByteArray))[0]'h = 226 := fun _ => rfl
  have r1 : ∀ h, ((⟨#[226, 137, 164]⟩ : ByteArray))[1]'h = 137 := fun _ => rfl
  have r2 : ∀ h, ((⟨#[226, 137, 164]⟩ : ByteArray))[2]'h = 164 := fun _ => rfl
  go_enter Tryz.func136, Tryz.ntmps136
  go_wp2_with fail
  refine (Tryz.utf8_ValidRune _ _).mono ?_
  rintro e w' ⟨rfl, hw⟩
  obtain rfl := hw.symm
  rw [hv]
  clear hv hw
  go_wp2_with fail
  apply wp_scope_straight
  go_wp2_with fail
  clear he
  refine wp_loop_rounds 4 ?_
  rw [rounds_succ]
  go_wp2_with fail
  refine wp_scope_once 0 rfl ?_
  go_wp2_with fail
  go_region
  go_upto_region 7 with fail
  go_cut [11] from 34 to 42 (fun s wx => s = .int .i64 (5) ∧ Below w.heap.size w wx)
  case first =>
    go_region_with (go_at_call 186; refine (Tryz.strings_IndexByte _ _ _).mono ?_; rintro e w' ⟨rfl, hw'⟩; obtain rfl := hw'.symm; (try clear hw'); rw [show Lib.indexByte _ _ = 5 from by decide +kernel])
    all_goals (go_wp2_with fail; go_meet; exact ⟨rfl, by repeat (first | assumption | exact Below.refl _ _ | refine below_drewX ?_)⟩)
  case rest =>
    obtain ⟨rfl, hwc⟩ := hcut
    go_wp2_with fail
    refine wp_loop_rounds 3 ?_
    rw [rounds_succ]
    go_wp2_with fail
    go_region
    go_wp2_with fail
    rw [rounds_succ]
    go_wp2_with fail
    go_region
    go_wp2_with fail
    rw [rounds_succ]
    go_wp2
    simp only [oneJump_ret, Exit.noGoto_ret, Exit.inBlock, Exit.then]
    go_ret
    exact ⟨rfl, by repeat (first | assumption | exact Below.refl _ _ | refine below_drewX ?_)⟩
set_option maxRecDepth 100000 in
set_option maxHeartbeats 3200000 in
theorem hit_8805 (w : World) : Calls Tryz.prog 136 #[.string ⟨#[195, 151, 195, 183, 42, 33, 226, 137, 164, 61, 226, 137, 165, 226, 136, 167]⟩, .int .i32 8805] w fun e w' => e = .returned (.int .i64 10) ∧ Below w.heap.size w w' := by
  have he : Utf8.encode 8805 = ⟨#[226, 137, 165]⟩ := by decide +kernel
  have hv : Lib.validRune 8805 = true := by decide +kernel
  have s0 : ∀ h, (((⟨#[195, 151, 195, 183, 42, 33, 226, 137, 164, 61, 226, 137, 165, 226, 136, 167]⟩ : ByteArray))[0]'h).toNat = 195 := fun _ => rfl
  have s1 : ∀ h, (((⟨#[195, 151, 195, 183, 42, 33, 226, 137, 164, 61, 226, 137, 165, 226, 136, 167]⟩ : ByteArray))[1]'h).toNat = 151 := fun _ => rfl
  have s2 : ∀ h, (((⟨#[195, 151, 195, 183, 42, 33, 226, 137, 164, 61, 226, 137, 165, 226, 136, 167]⟩ : ByteArray))[2]'h).toNat = 195 := fun _ => rfl
  have s3 : ∀ h, (((⟨#[195, 151, 195, 183, 42, 33, 226, 137, 164, 61, 226, 137, 165, 226, 136, 167]⟩ : ByteArray))[3]'h).toNat = 183 := fun _ => rfl
  have s4 : ∀ h, (((⟨#[195, 151, 195, 183, 42, 33, 226, 137, 164, 61, 226, 137, 165, 226, 136, 167]⟩ : ByteArray))[4]'h).toNat = 42 := fun _ => rfl
  have s5 : ∀ h, (((⟨#[195, 151, 195, 183, 42, 33, 226, 137, 164, 61, 226, 137, 165, 226, 136, 167]⟩ : ByteArray))[5]'h).toNat = 33 := fun _ => rfl
  have s6 : ∀ h, (((⟨#[195, 151, 195, 183, 42, 33, 226, 137, 164, 61, 226, 137, 165, 226, 136, 167]⟩ : ByteArray))[6]'h).toNat = 226 := fun _ => rfl
  have s7 : ∀ h, (((⟨#[195, 151, 195, 183, 42, 33, 226, 137, 164, 61, 226, 137, 165, 226, 136, 167]⟩ : ByteArray))[7]'h).toNat = 137 := fun _ => rfl
  have s8 : ∀ h, (((⟨#[195, 151, 195, 183, 42, 33, 226, 137, 164, 61, 226, 137, 165, 226, 136, 167]⟩ : ByteArray))[8]'h).toNat = 164 := fun _ => rfl
  have s9 : ∀ h, (((⟨#[195, 151, 195, 183, 42, 33, 226, 137, 164, 61, 226, 137, 165, 226, 136, 167]⟩ : ByteArray))[9]'h).toNat = 61 := fun _ => rfl
  have s10 : ∀ h, (((⟨#[195, 151, 195, 183, 42, 33, 226, 137, 164, 61, 226, 137, 165, 226, 136, 167]⟩ : ByteArray))[10]'h).toNat = 226 := fun _ => rfl
  have s11 : ∀ h, (((⟨#[195, 151, 195, 183, 42, 33, 226, 137, 164, 61, 226, 137, 165, 226, 136, 167]⟩ : ByteArray))[11]'h).toNat = 137 := fun _ => rfl
  have s12 : ∀ h, (((⟨#[195, 151, 195, 183, 42, 33, 226, 137, 164, 61, 226, 137, 165, 226, 136, 167]⟩ : ByteArray))[12]'h).toNat = 165 := fun _ => rfl
  have s13 : ∀ h, (((⟨#[195, 151, 195, 183, 42, 33, 226, 137, 164, 61, 226, 137, 165, 226, 136, 167]⟩ : ByteArray))[13]'h).toNat = 226 := fun _ => rfl
  have s14 : ∀ h, (((⟨#[195, 151, 195, 183, 42, 33, 226, 137, 164, 61, 226, 137, 165, 226, 136, 167]⟩ : ByteArray))[14]'h).toNat = 136 := fun _ => rfl
  have s15 : ∀ h, (((⟨#[195, 151, 195, 183, 42, 33, 226, 137, 164, 61, 226, 137, 165, 226, 136, 167]⟩ : ByteArray))[15]'h).toNat = 167 := fun _ => rfl
  have r0 : ∀ h, ((⟨#[226, 137, 165]⟩ : ByteArray))[0]'h = 226 := fun _ => rfl
  have r1 : ∀ h, ((⟨#[226, 137, 165]⟩ : ByteArray))[1]'h = 137 := fun _ => rfl
  have r2 : ∀ h, ((⟨#[226, 137, 165]⟩ : ByteArray))[2]'h = 165 := fun _ => rfl
  go_enter Tryz.func136, Tryz.ntmps136
  go_wp2_with fail
  refine (Tryz.utf8_ValidRune _ _).mono ?_
  rintro e w' ⟨rfl, hw⟩
  obtain rfl := hw.symm
  rw [hv]
  clear hv hw
  go_wp2_with fail
  apply wp_scope_straight
  go_wp2_with fail
  clear he
  refine wp_loop_rounds 4 ?_
  rw [rounds_succ]
  go_wp2_with fail
  refine wp_scope_once 0 rfl ?_
  go_wp2_with fail
  go_region
  go_upto_region 7 with fail
  go_cut [11] from 34 to 42 (fun s wx => s = .int .i64 (9) ∧ Below w.heap.size w wx)
  case first =>
    go_region_with (go_at_call 186; refine (Tryz.strings_IndexByte _ _ _).mono ?_; rintro e w' ⟨rfl, hw'⟩; obtain rfl := hw'.symm; (try clear hw'); rw [show Lib.indexByte _ _ = 9 from by decide +kernel])
    all_goals (go_wp2_with fail; go_meet; exact ⟨rfl, by repeat (first | assumption | exact Below.refl _ _ | refine below_drewX ?_)⟩)
  case rest =>
    obtain ⟨rfl, hwc⟩ := hcut
    go_wp2_with fail
    refine wp_loop_rounds 3 ?_
    rw [rounds_succ]
    go_wp2_with fail
    go_region
    go_wp2_with fail
    rw [rounds_succ]
    go_wp2_with fail
    go_region
    go_wp2_with fail
    rw [rounds_succ]
    go_wp2
    simp only [oneJump_ret, Exit.noGoto_ret, Exit.inBlock, Exit.then]
    go_ret
    exact ⟨rfl, by repeat (first | assumption | exact Below.refl _ _ | refine below_drewX ?_)⟩
set_option maxRecDepth 100000 in
set_option maxHeartbeats 3200000 in
theorem hit_8743 (w : World) : Calls Tryz.prog 136 #[.string ⟨#[195, 151, 195, 183, 42, 33, 226, 137, 164, 61, 226, 137, 165, 226, 136, 167]⟩, .int .i32 8743] w fun e w' => e = .returned (.int .i64 13) ∧ Below w.heap.size w w' := by
  have he : Utf8.encode 8743 = ⟨#[226, 136, 167]⟩ := by decide +kernel
  have hv : Lib.validRune 8743 = true := by decide +kernel
  have s0 : ∀ h, (((⟨#[195, 151, 195, 183, 42, 33, 226, 137, 164, 61, 226, 137, 165, 226, 136, 167]⟩ : ByteArray))[0]'h).toNat = 195 := fun _ => rfl
  have s1 : ∀ h, (((⟨#[195, 151, 195, 183, 42, 33, 226, 137, 164, 61, 226, 137, 165, 226, 136, 167]⟩ : ByteArray))[1]'h).toNat = 151 := fun _ => rfl
  have s2 : ∀ h, (((⟨#[195, 151, 195, 183, 42, 33, 226, 137, 164, 61, 226, 137, 165, 226, 136, 167]⟩ : ByteArray))[2]'h).toNat = 195 := fun _ => rfl
  have s3 : ∀ h, (((⟨#[195, 151, 195, 183, 42, 33, 226, 137, 164, 61, 226, 137, 165, 226, 136, 167]⟩ : ByteArray))[3]'h).toNat = 183 := fun _ => rfl
  have s4 : ∀ h, (((⟨#[195, 151, 195, 183, 42, 33, 226, 137, 164, 61, 226, 137, 165, 226, 136, 167]⟩ : ByteArray))[4]'h).toNat = 42 := fun _ => rfl
  have s5 : ∀ h, (((⟨#[195, 151, 195, 183, 42, 33, 226, 137, 164, 61, 226, 137, 165, 226, 136, 167]⟩ : ByteArray))[5]'h).toNat = 33 := fun _ => rfl
  have s6 : ∀ h, (((⟨#[195, 151, 195, 183, 42, 33, 226, 137, 164, 61, 226, 137, 165, 226, 136, 167]⟩ : ByteArray))[6]'h).toNat = 226 := fun _ => rfl
  have s7 : ∀ h, (((⟨#[195, 151, 195, 183, 42, 33, 226, 137, 164, 61, 226, 137, 165, 226, 136, 167]⟩ : ByteArray))[7]'h).toNat = 137 := fun _ => rfl
  have s8 : ∀ h, (((⟨#[195, 151, 195, 183, 42, 33, 226, 137, 164, 61, 226, 137, 165, 226, 136, 167]⟩ : ByteArray))[8]'h).toNat = 164 := fun _ => rfl
  have s9 : ∀ h, (((⟨#[195, 151, 195, 183, 42, 33, 226, 137, 164, 61, 226, 137, 165, 226, 136, 167]⟩ : ByteArray))[9]'h).toNat = 61 := fun _ => rfl
  have s10 : ∀ h, (((⟨#[195, 151, 195, 183, 42, 33, 226, 137, 164, 61, 226, 137, 165, 226, 136, 167]⟩ : ByteArray))[10]'h).toNat = 226 := fun _ => rfl
  have s11 : ∀ h, (((⟨#[195, 151, 195, 183, 42, 33, 226, 137, 164, 61, 226, 137, 165, 226, 136, 167]⟩ : ByteArray))[11]'h).toNat = 137 := fun _ => rfl
  have s12 : ∀ h, (((⟨#[195, 151, 195, 183, 42, 33, 226, 137, 164, 61, 226, 137, 165, 226, 136, 167]⟩ : ByteArray))[12]'h).toNat = 165 := fun _ => rfl
  have s13 : ∀ h, (((⟨#[195, 151, 195, 183, 42, 33, 226, 137, 164, 61, 226, 137, 165, 226, 136, 167]⟩ : ByteArray))[13]'h).toNat = 226 := fun _ => rfl
  have s14 : ∀ h, (((⟨#[195, 151, 195, 183, 42, 33, 226, 137, 164, 61, 226, 137, 165, 226, 136, 167]⟩ : ByteArray))[14]'h).toNat = 136 := fun _ => rfl
  have s15 : ∀ h, (((⟨#[195, 151, 195, 183, 42, 33, 226, 137, 164, 61, 226, 137, 165, 226, 136, 167]⟩ : ByteArray))[15]'h).toNat = 167 := fun _ => rfl
  have r0 : ∀ h, ((⟨#[226, 136, 167]⟩ : ByteArray))[0]'h = 226 := fun _ => rfl
  have r1 : ∀ h, ((⟨#[226, 136, 167]⟩ : ByteArray))[1]'h = 136 := fun _ => rfl
  have r2 : ∀ h, ((⟨#[226, 136, 167]⟩ : ByteArray))[2]'h = 167 := fun _ => rfl
  go_enter Tryz.func136, Tryz.ntmps136
  go_wp2_with fail
  refine (Tryz.utf8_ValidRune _ _).mono ?_
  rintro e w' ⟨rfl, hw⟩
  obtain rfl := hw.symm
  rw [hv]
  clear hv hw
  go_wp2_with fail
  apply wp_scope_straight
  go_wp2_with fail
  clear he
  refine wp_loop_rounds 4 ?_
  rw [rounds_succ]
  go_wp2_with fail
  refine wp_scope_once 0 rfl ?_
  go_wp2_with fail
  go_region
  go_upto_region 7 with fail
  go_cut [11] from 34 to 42 (fun s wx => s = .int .i64 (12) ∧ Below w.heap.size w wx)
  case first =>
    go_region_with (go_at_call 186; refine (Tryz.strings_IndexByte _ _ _).mono ?_; rintro e w' ⟨rfl, hw'⟩; obtain rfl := hw'.symm; (try clear hw'); rw [show Lib.indexByte _ _ = 12 from by decide +kernel])
    all_goals (go_wp2_with fail; go_meet; exact ⟨rfl, by repeat (first | assumption | exact Below.refl _ _ | refine below_drewX ?_)⟩)
  case rest =>
    obtain ⟨rfl, hwc⟩ := hcut
    go_wp2_with fail
    refine wp_loop_rounds 3 ?_
    rw [rounds_succ]
    go_wp2_with fail
    go_region
    go_wp2_with fail
    rw [rounds_succ]
    go_wp2_with fail
    go_region
    go_wp2_with fail
    rw [rounds_succ]
    go_wp2
    simp only [oneJump_ret, Exit.noGoto_ret, Exit.inBlock, Exit.then]
    go_ret
    exact ⟨rfl, by repeat (first | assumption | exact Below.refl _ _ | refine below_drewX ?_)⟩
end Go.Proofs.YtopndegbofokiaaGreat
