/- strings.IndexRune of a character of 4 bytes in the text of scalar.Identity number 0: it is not there. -/
import Derived.Test.YtopndegbofokiaaGreatGA
namespace Go.Proofs.YtopndegbofokiaaGreat
set_option linter.unusedVariables false
set_option linter.unusedSimpArgs false
open Go.RowKit

set_option maxRecDepth 100000 in
set_option maxHeartbeats 3200000 in
theorem ix_0_4 (r : Int) (X T Y Z : UInt8) (w : World) (h1 : 128 ≤ r) (h2 : (r == 65533) = false) (hv : Lib.validRune r = true) (he : Utf8.encode r = ⟨#[X, T, Y, Z]⟩) (bX : 240 ≤ X.toNat) (bT : 128 ≤ T.toNat ∧ T.toNat < 192) (bY : 128 ≤ Y.toNat ∧ Y.toNat < 192) (bZ : 128 ≤ Z.toNat ∧ Z.toNat < 192)  :
    Calls Tryz.prog 136 #[.string ⟨#[43, 45, 124, 60, 62, 226, 137, 160, 226, 136, 168]⟩, .int .i32 r] w fun e w' => e = .returned (.int .i64 (-1)) ∧ Below w.heap.size w w' := by
  have c1 : decide (0 ≤ r) = true := by simp; omega
  have c2 : decide (r < 128) = false := by simp; omega
  have s0 : ∀ h, (((⟨#[43, 45, 124, 60, 62, 226, 137, 160, 226, 136, 168]⟩ : ByteArray))[0]'h).toNat = 43 := fun _ => rfl
  have s1 : ∀ h, (((⟨#[43, 45, 124, 60, 62, 226, 137, 160, 226, 136, 168]⟩ : ByteArray))[1]'h).toNat = 45 := fun _ => rfl
  have s2 : ∀ h, (((⟨#[43, 45, 124, 60, 62, 226, 137, 160, 226, 136, 168]⟩ : ByteArray))[2]'h).toNat = 124 := fun _ => rfl
  have s3 : ∀ h, (((⟨#[43, 45, 124, 60, 62, 226, 137, 160, 226, 136, 168]⟩ : ByteArray))[3]'h).toNat = 60 := fun _ => rfl
  have s4 : ∀ h, (((⟨#[43, 45, 124, 60, 62, 226, 137, 160, 226, 136, 168]⟩ : ByteArray))[4]'h).toNat = 62 := fun _ => rfl
  have s5 : ∀ h, (((⟨#[43, 45, 124, 60, 62, 226, 137, 160, 226, 136, 168]⟩ : ByteArray))[5]'h).toNat = 226 := fun _ => rfl
  have s6 : ∀ h, (((⟨#[43, 45, 124, 60, 62, 226, 137, 160, 226, 136, 168]⟩ : ByteArray))[6]'h).toNat = 137 := fun _ => rfl
  have s7 : ∀ h, (((⟨#[43, 45, 124, 60, 62, 226, 137, 160, 226, 136, 168]⟩ : ByteArray))[7]'h).toNat = 160 := fun _ => rfl
  have s8 : ∀ h, (((⟨#[43, 45, 124, 60, 62, 226, 137, 160, 226, 136, 168]⟩ : ByteArray))[8]'h).toNat = 226 := fun _ => rfl
  have s9 : ∀ h, (((⟨#[43, 45, 124, 60, 62, 226, 137, 160, 226, 136, 168]⟩ : ByteArray))[9]'h).toNat = 136 := fun _ => rfl
  have s10 : ∀ h, (((⟨#[43, 45, 124, 60, 62, 226, 137, 160, 226, 136, 168]⟩ : ByteArray))[10]'h).toNat = 168 := fun _ => rfl
  have r0 : ∀ h, ((⟨#[X, T, Y, Z]⟩ : ByteArray))[0]'h = X := fun _ => rfl
  have r1 : ∀ h, ((⟨#[X, T, Y, Z]⟩ : ByteArray))[1]'h = T := fun _ => rfl
  have r2 : ∀ h, ((⟨#[X, T, Y, Z]⟩ : ByteArray))[2]'h = Y := fun _ => rfl
  have r3 : ∀ h, ((⟨#[X, T, Y, Z]⟩ : ByteArray))[3]'h = Z := fun _ => rfl
  go_enter Tryz.func136, Tryz.ntmps136
  go_wp2_with fail
  refine (Tryz.utf8_ValidRune _ _).mono ?_
  rintro e w' ⟨rfl, hw⟩
  obtain rfl := hw.symm
  rw [hv]
  clear c1 c2 h1 h2 hv hw
  have W0 := Below.refl w.heap.size w
  have W1 := below_drewX W0
  have W2 := below_drewX W1
  have W3 := below_drewX W2
  have W4 := below_drewX W3
  have W5 := below_drewX W4
  have W6 := below_drewX W5
  have W7 := below_drewX W6
  have W8 := below_drewX W7
  have W9 := below_drewX W8
  go_wp2_with fail
  apply wp_scope_straight
  go_wp2_with fail
  clear he
  by_cases z136 : Z = 136
  · subst z136
    refine wp_loop_rounds 4 ?_
    rw [rounds_succ]
    go_wp2_with fail
    refine wp_scope_once 0 rfl ?_
    go_wp2_with fail
    go_region
    go_upto_region 7 with fail
    go_cut [11] from 34 to 42 (fun s wx => s = .int .i64 (5) ∧ Below w.heap.size w wx)
    case first =>
      go_region_with (go_at_call 186; refine (Tryz.strings_IndexByte _ _ _).mono ?_; rintro e w' ⟨rfl, hw'⟩; obtain rfl := hw'.symm; (try clear hw'); rw [show Lib.indexByte _ _ = 5 from by decide +kernel])
      all_goals (go_wp2_with fail; go_meet; exact ⟨rfl, by repeat (first | assumption | exact Below.refl _ _ | refine below_drewX ?_)⟩)
    case rest =>
      obtain ⟨rfl, hwc⟩ := hcut
      go_wp2_with fail
      refine wp_loop_rounds 4 ?_
      rw [rounds_succ]
      go_wp2_with fail
      have dY : ((226 : Int) != (Y.toNat : Int)) = true := by rw [bne_iff_ne]; omega
      go_region
      go_wp2_with fail
      apply wp_goto
      go_simp
      refine ⟨rfl, ?_⟩
      go_wp2_with fail
      refine (Tryz.bytealg_Cutover (10 : Int) (by omega) (by omega) _).mono ?_
      rintro e w' ⟨rfl, hw'⟩
      obtain rfl := hw'.symm
      try clear hw'
      go_wp2_with fail
      simp only [Exit.noGoto, Exit.inBlock, Exit.then]
      rw [rounds_succ]
      go_wp2_with fail
      refine wp_scope_once 0 rfl ?_
      go_wp2_with fail
      go_region
      go_upto_region 7 with fail
      go_cut [11] from 34 to 42 (fun s wx => s = .int .i64 (-1) ∧ Below w.heap.size w wx)
      case first =>
        go_region_with (go_at_call 186; refine (Tryz.strings_IndexByte _ _ _).mono ?_; rintro e w' ⟨rfl, hw'⟩; obtain rfl := hw'.symm; (try clear hw'); rw [show Lib.indexByte _ _ = -1 from by decide +kernel])
        all_goals (go_wp2_with fail; go_meet; exact ⟨rfl, by repeat (first | assumption | exact Below.refl _ _ | refine below_drewX ?_)⟩)
      case rest =>
        obtain ⟨rfl, hwc⟩ := hcut
        go_wp2
        simp only [oneJump_ret, Exit.noGoto_ret, Exit.inBlock, Exit.then]
        go_ret
        exact ⟨rfl, by repeat (first | assumption | exact Below.refl _ _ | refine below_drewX ?_)⟩
  by_cases z137 : Z = 137
  · subst z137
    refine wp_loop_rounds 4 ?_
    rw [rounds_succ]
    go_wp2_with fail
    refine wp_scope_once 0 rfl ?_
    go_wp2_with fail
    go_region
    go_upto_region 7 with fail
    go_cut [11] from 34 to 42 (fun s wx => s = .int .i64 (2) ∧ Below w.heap.size w wx)
    case first =>
      go_region_with (go_at_call 186; refine (Tryz.strings_IndexByte _ _ _).mono ?_; rintro e w' ⟨rfl, hw'⟩; obtain rfl := hw'.symm; (try clear hw'); rw [show Lib.indexByte _ _ = 2 from by decide +kernel])
      all_goals (go_wp2_with fail; go_meet; exact ⟨rfl, by repeat (first | assumption | exact Below.refl _ _ | refine below_drewX ?_)⟩)
    case rest =>
      obtain ⟨rfl, hwc⟩ := hcut
      go_wp2_with fail
      refine wp_loop_rounds 4 ?_
      rw [rounds_succ]
      go_wp2_with fail
      have dY : ((226 : Int) != (Y.toNat : Int)) = true := by rw [bne_iff_ne]; omega
      go_region
      go_wp2_with fail
      apply wp_goto
      go_simp
      refine ⟨rfl, ?_⟩
      go_wp2_with fail
      refine (Tryz.bytealg_Cutover (7 : Int) (by omega) (by omega) _).mono ?_
      rintro e w' ⟨rfl, hw'⟩
      obtain rfl := hw'.symm
      try clear hw'
      go_wp2_with fail
      simp only [Exit.noGoto, Exit.inBlock, Exit.then]
      rw [rounds_succ]
      go_wp2_with fail
      refine wp_scope_once 0 rfl ?_
      go_wp2_with fail
      go_region
      go_upto_region 7 with fail
      go_cut [11] from 34 to 42 (fun s wx => s = .int .i64 (-1) ∧ Below w.heap.size w wx)
      case first =>
        go_region_with (go_at_call 186; refine (Tryz.strings_IndexByte _ _ _).mono ?_; rintro e w' ⟨rfl, hw'⟩; obtain rfl := hw'.symm; (try clear hw'); rw [show Lib.indexByte _ _ = -1 from by decide +kernel])
        all_goals (go_wp2_with fail; go_meet; exact ⟨rfl, by repeat (first | assumption | exact Below.refl _ _ | refine below_drewX ?_)⟩)
      case rest =>
        obtain ⟨rfl, hwc⟩ := hcut
        go_wp2
        simp only [oneJump_ret, Exit.noGoto_ret, Exit.inBlock, Exit.then]
        go_ret
        exact ⟨rfl, by repeat (first | assumption | exact Below.refl _ _ | refine below_drewX ?_)⟩
  by_cases z160 : Z = 160
  · subst z160
    refine wp_loop_rounds 4 ?_
    rw [rounds_succ]
    go_wp2_with fail
    refine wp_scope_once 0 rfl ?_
    go_wp2_with fail
    go_region
    go_upto_region 7 with fail
    go_cut [11] from 34 to 42 (fun s wx => s = .int .i64 (3) ∧ Below w.heap.size w wx)
    case first =>
      go_region_with (go_at_call 186; refine (Tryz.strings_IndexByte _ _ _).mono ?_; rintro e w' ⟨rfl, hw'⟩; obtain rfl := hw'.symm; (try clear hw'); rw [show Lib.indexByte _ _ = 3 from by decide +kernel])
      all_goals (go_wp2_with fail; go_meet; exact ⟨rfl, by repeat (first | assumption | exact Below.refl _ _ | refine below_drewX ?_)⟩)
    case rest =>
      obtain ⟨rfl, hwc⟩ := hcut
      go_wp2_with fail
      refine wp_loop_rounds 4 ?_
      rw [rounds_succ]
      go_wp2_with fail
      by_cases yY : Y = 137
      · subst yY
        go_region
        go_wp2_with fail
        rw [rounds_succ]
        go_wp2_with fail
        have dT : ((226 : Int) != (T.toNat : Int)) = true := by rw [bne_iff_ne]; omega
        go_region
        go_wp2_with fail
        apply wp_goto
        go_simp
        refine ⟨rfl, ?_⟩
        go_wp2_with fail
        refine (Tryz.bytealg_Cutover (8 : Int) (by omega) (by omega) _).mono ?_
        rintro e w' ⟨rfl, hw'⟩
        obtain rfl := hw'.symm
        try clear hw'
        go_wp2_with fail
        simp only [Exit.noGoto, Exit.inBlock, Exit.then]
        rw [rounds_succ]
        go_wp2_with fail
        refine wp_scope_once 0 rfl ?_
        go_wp2_with fail
        go_region
        go_upto_region 7 with fail
        go_cut [11] from 34 to 42 (fun s wx => s = .int .i64 (-1) ∧ Below w.heap.size w wx)
        case first =>
          go_region_with (go_at_call 186; refine (Tryz.strings_IndexByte _ _ _).mono ?_; rintro e w' ⟨rfl, hw'⟩; obtain rfl := hw'.symm; (try clear hw'); rw [show Lib.indexByte _ _ = -1 from by decide +kernel])
          all_goals (go_wp2_with fail; go_meet; exact ⟨rfl, by repeat (first | assumption | exact Below.refl _ _ | refine below_drewX ?_)⟩)
        case rest =>
          obtain ⟨rfl, hwc⟩ := hcut
          go_wp2
          simp only [oneJump_ret, Exit.noGoto_ret, Exit.inBlock, Exit.then]
          go_ret
          exact ⟨rfl, by repeat (first | assumption | exact Below.refl _ _ | refine below_drewX ?_)⟩
      · have dY : ((137 : Int) != (Y.toNat : Int)) = true := by rw [bne_iff_ne]; exact fun e => yY (UInt8.toNat_inj.1 (show Y.toNat = 137 by omega))
        go_region
        go_wp2_with fail
        apply wp_goto
        go_simp
        refine ⟨rfl, ?_⟩
        go_wp2_with fail
        refine (Tryz.bytealg_Cutover (8 : Int) (by omega) (by omega) _).mono ?_
        rintro e w' ⟨rfl, hw'⟩
        obtain rfl := hw'.symm
        try clear hw'
        go_wp2_with fail
        simp only [Exit.noGoto, Exit.inBlock, Exit.then]
        rw [rounds_succ]
        go_wp2_with fail
        refine wp_scope_once 0 rfl ?_
        go_wp2_with fail
        go_region
        go_upto_region 7 with fail
        go_cut [11] from 34 to 42 (fun s wx => s = .int .i64 (-1) ∧ Below w.heap.size w wx)
        case first =>
          go_region_with (go_at_call 186; refine (Tryz.strings_IndexByte _ _ _).mono ?_; rintro e w' ⟨rfl, hw'⟩; obtain rfl := hw'.symm; (try clear hw'); rw [show Lib.indexByte _ _ = -1 from by decide +kernel])
          all_goals (go_wp2_with fail; go_meet; exact ⟨rfl, by repeat (first | assumption | exact Below.refl _ _ | refine below_drewX ?_)⟩)
        case rest =>
          obtain ⟨rfl, hwc⟩ := hcut
          go_wp2
          simp only [oneJump_ret, Exit.noGoto_ret, Exit.inBlock, Exit.then]
          go_ret
          exact ⟨rfl, by repeat (first | assumption | exact Below.refl _ _ | refine below_drewX ?_)⟩
  by_cases z168 : Z = 168
  · subst z168
    refine wp_loop_rounds 4 ?_
    rw [rounds_succ]
    go_wp2_with fail
    refine wp_scope_once 0 rfl ?_
    go_wp2_with fail
    go_region
    go_upto_region 7 with fail
    go_cut [11] from 34 to 42 (fun s wx => s = .int .i64 (6) ∧ Below w.heap.size w wx)
    case first =>
      go_region_with (go_at_call 186; refine (Tryz.strings_IndexByte _ _ _).mono ?_; rintro e w' ⟨rfl, hw'⟩; obtain rfl := hw'.symm; (try clear hw'); rw [show Lib.indexByte _ _ = 6 from by decide +kernel])
      all_goals (go_wp2_with fail; go_meet; exact ⟨rfl, by repeat (first | assumption | exact Below.refl _ _ | refine below_drewX ?_)⟩)
    case rest =>
      obtain ⟨rfl, hwc⟩ := hcut
      go_wp2_with fail
      refine wp_loop_rounds 4 ?_
      rw [rounds_succ]
      go_wp2_with fail
      by_cases yY : Y = 136
      · subst yY
        go_region
        go_wp2_with fail
        rw [rounds_succ]
        go_wp2_with fail
        have dT : ((226 : Int) != (T.toNat : Int)) = true := by rw [bne_iff_ne]; omega
        go_region
        go_wp2_with fail
        apply wp_goto
        go_simp
        refine ⟨rfl, ?_⟩
        go_wp2_with fail
        refine (Tryz.bytealg_Cutover (11 : Int) (by omega) (by omega) _).mono ?_
        rintro e w' ⟨rfl, hw'⟩
        obtain rfl := hw'.symm
        try clear hw'
        go_wp2_with fail
        simp only [Exit.noGoto, Exit.inBlock, Exit.then]
        rw [rounds_succ]
        go_wp2
        simp only [oneJump_ret, Exit.noGoto_ret, Exit.inBlock, Exit.then]
        go_ret
        exact ⟨rfl, by repeat (first | assumption | exact Below.refl _ _ | refine below_drewX ?_)⟩
      · have dY : ((136 : Int) != (Y.toNat : Int)) = true := by rw [bne_iff_ne]; exact fun e => yY (UInt8.toNat_inj.1 (show Y.toNat = 136 by omega))
        go_region
        go_wp2_with fail
        apply wp_goto
        go_simp
        refine ⟨rfl, ?_⟩
        go_wp2_with fail
        refine (Tryz.bytealg_Cutover (11 : Int) (by omega) (by omega) _).mono ?_
        rintro e w' ⟨rfl, hw'⟩
        obtain rfl := hw'.symm
        try clear hw'
        go_wp2_with fail
        simp only [Exit.noGoto, Exit.inBlock, Exit.then]
        rw [rounds_succ]
        go_wp2
        simp only [oneJump_ret, Exit.noGoto_ret, Exit.inBlock, Exit.then]
        go_ret
        exact ⟨rfl, by repeat (first | assumption | exact Below.refl _ _ | refine below_drewX ?_)⟩
  have n62 : ((62 : UInt8) == Z) = false := by rw [beq_eq_false_iff_ne]; intro h; subst h; (revert bZ; decide)
  have n136 : ((136 : UInt8) == Z) = false := by rw [beq_eq_false_iff_ne]; intro h; subst h; exact z136 rfl
  have n137 : ((137 : UInt8) == Z) = false := by rw [beq_eq_false_iff_ne]; intro h; subst h; exact z137 rfl
  have n160 : ((160 : UInt8) == Z) = false := by rw [beq_eq_false_iff_ne]; intro h; subst h; exact z160 rfl
  have n168 : ((168 : UInt8) == Z) = false := by rw [beq_eq_false_iff_ne]; intro h; subst h; exact z168 rfl
  have n226 : ((226 : UInt8) == Z) = false := by rw [beq_eq_false_iff_ne]; intro h; subst h; (revert bZ; decide)
  have HI : Lib.indexByte ((⟨#[43, 45, 124, 60, 62, 226, 137, 160, 226, 136, 168]⟩ : ByteArray).extract 4 11).data.toList ((Z.toNat : Int)).toNat.toUInt8 = -1 := by
    rw [show ((Z.toNat : Int)).toNat.toUInt8 = Z by simp, show ((⟨#[43, 45, 124, 60, 62, 226, 137, 160, 226, 136, 168]⟩ : ByteArray).extract 4 11).data.toList = [62, 226, 137, 160, 226, 136, 168] from by decide +kernel]
    simp [Lib.indexByte, n62, n136, n137, n160, n168, n226]
  clear n62 n136 n137 n160 n168 n226
  refine wp_loop_rounds 4 ?_
  rw [rounds_succ]
  go_wp2_with fail
  refine wp_scope_once 0 rfl ?_
  go_wp2_with fail
  have dZ : ((60 : Int) != (Z.toNat : Int)) = true := by rw [bne_iff_ne]; omega
  go_region
  go_upto_region 7 with fail
  go_cut [11] from 34 to 42 (fun s wx => s = .int .i64 (-1) ∧ Below w.heap.size w wx)
  case first =>
    go_region_with (go_at_call 186; refine (Tryz.strings_IndexByte _ _ _).mono ?_; rintro e w' ⟨rfl, hw'⟩; obtain rfl := hw'.symm; (try clear hw'); rw [show Lib.indexByte _ _ = -1 from HI])
    all_goals (go_wp2_with fail; go_meet; exact ⟨rfl, by repeat (first | assumption | exact Below.refl _ _ | refine below_drewX ?_)⟩)
  case rest =>
    obtain ⟨rfl, hwc⟩ := hcut
    go_wp2
    simp only [oneJump_ret, Exit.noGoto_ret, Exit.inBlock, Exit.then]
    go_ret
    exact ⟨rfl, by repeat (first | assumption | exact Below.refl _ _ | refine below_drewX ?_)⟩
end Go.Proofs.YtopndegbofokiaaGreat
