/- strings.IndexRune of a character of 2 bytes in the text of scalar.Identity number 1: it is not there. -/
import Derived.Test.YtopndegbofokiaaGreatGA
namespace Go.Proofs.YtopndegbofokiaaGreat
set_option linter.unusedVariables false
set_option linter.unusedSimpArgs false
open Go.RowKit

set_option maxRecDepth 100000 in
set_option maxHeartbeats 3200000 in
theorem ix_1_2 (r : Int) (X Z : UInt8) (w : World) (h1 : 128 ≤ r) (h2 : (r == 65533) = false) (hv : Lib.validRune r = true) (he : Utf8.encode r = ⟨#[X, Z]⟩) (bX : 192 ≤ X.toNat ∧ X.toNat < 224) (bZ : 128 ≤ Z.toNat ∧ Z.toNat < 192) (o1 : Hid (¬ (X = 195 ∧ Z = 151))) (o3 : Hid (¬ (X = 195 ∧ Z = 183))) :
    Calls Tryz.prog 136 #[.string ⟨#[195, 151, 195, 183, 42, 33, 226, 137, 164, 61, 226, 137, 165, 226, 136, 167]⟩, .int .i32 r] w fun e w' => e = .returned (.int .i64 (-1)) ∧ Below w.heap.size w w' := by
  have c1 : decide (0 ≤ r) = true := by simp; omega
  have c2 : decide (r < 128) = false := by simp; omega
  have s0 : ∀ h, (((⟨#[195, 151, 195, 183, 42, 33, 226, 137, 164, 61, 226, 137, 165, 226, 136, 167]⟩ : ByteArray))[0]'h).toNat = 195 := fun _ => rfl
  have s1 : ∀ h, (((⟨#[195, 151, 195, 183, 42, 33, 226, 137, 164, 61, 226, 137, 165, 226, 136, 167]⟩ : ByteArray))[1]'h).toNat = 151 := fun _ => rfl
  have s2 : ∀ h, (((⟨#[195, 151, 195, 183, 42, 33, 226, 137, 164, 61, 226, 137, 165, 226, 136, 167]⟩ : ByteArray))[2]'h).toNat = 195 := fun _ => rfl
  have s3 : ∀ h, (((⟨#[195, 151, 195, 183, 42, 33, 226, 137, 164, 61, 226, 137, 165, 226, 136, 167]⟩ : ByteArray))[3]'h).toNat = 183 := fun _ => rfl
  have s4 : ∀ h, (((⟨#[195, 151, 195, 183, 42, 33, 226, 137, 164, 61, 226, 137, 165, 226, 136, 167]⟩ : ByteArray))[4]'h).toNat = 42 := fun _ => rfl
  have s5 : ∀ h, (((⟨#[195, 151, 195, 183, 42, 33, 226, 137, 164, 61, 226, 137, 165, 226, 136, 167]⟩ : ByteArray))[5]'h).toNat = 33 := fun _ => rfl
  have s6 : ∀ h, (((⟨#[195, 151, 195, 183, 42, 33, 226, 137, 164, 61, 226, 137, 165, 226, 136, 167]⟩ : ByteArray))[6]'h).toNat = 226 := fun _ => rfl
  have s7 : ∀ h, (((⟨#[195, 151, 195, 183, 42, 33, 226, 137, 164, 61, 226, 137, 165, 226, 136, 167]⟩ : ByteArray))[7]'h).toNat = 137 := fun _ => rfl
  have s8 : ∀ h, (((⟨#[195, 151, 195, 183, 42, 33, 226, 137, 164, 61, 226, 137, 165, 226, 136, 167]⟩ : ByteArray))[8]'h).toNat = 164 := fun _ => rfl
  have s9 : ∀ h, (((⟨#[195, 151, 195, 183, 42, 33, 226, 137, 164, 61, 226, 137, 165, 226, 136, 167]⟩ : ByteArray))[9]'h).toNat = 61 := fun _ => rfl
  have s10 : ∀ h, (((⟨#[195, 151, 195, 183, 42, 33, 226, 137, 164, 61, 226, 137, 165, 226, 136, 167]⟩ : ByteArray))[10]'h).toNat = 226 := fun _ => rfl
  have s11 : ∀ h, (((⟨#[195, 151, 195, 183, 42, 33, 226, 137, 164, 61, 226, 137, 165, 226, 136, 167]⟩ : ByteArray))[11]'h).toNat = 137 := fun _ => rfl
  have s12 : ∀ h, (((⟨#[195, 151, 195, 183, 42, 33, 226, 137, 164, 61, 226, 137, 165, 226, 136, 167]⟩ : ByteArray))[12]'h).toNat = 165 := fun _ => rfl
  have s13 : ∀ h, (((⟨#[195, 151, 195, 183, 42, 33, 226, 137, 164, 61, 226, 137, 165, 226, 136, 167]⟩ : ByteArray))[13]'h).toNat = 226 := fun _ => rfl
  have s14 : ∀ h, (((⟨#[195, 151, 195, 183, 42, 33, 226, 137, 164, 61, 226, 137, 165, 226, 136, 167]⟩ : ByteArray))[14]'h).toNat = 136 := fun _ => rfl
  have s15 : ∀ h, (((⟨#[195, 151, 195, 183, 42, 33, 226, 137, 164, 61, 226, 137, 165, 226, 136, 167]⟩ : ByteArray))[15]'h).toNat = 167 := fun _ => rfl
  have r0 : ∀ h, ((⟨#[X, Z]⟩ : ByteArray))[0]'h = X := fun _ => rfl
  have r1 : ∀ h, ((⟨#[X, Z]⟩ : ByteArray))[1]'h = Z := fun _ => rfl
  go_enter Tryz.func136, Tryz.ntmps136
  go_wp2_with fail
  refine (Tryz.utf8_ValidRune _ _).mono ?_
  rintro e w' ⟨rfl, hw⟩
  obtain rfl := hw.symm
  rw [hv]
  clear c1 c2 h1 h2 hv hw
  have W0 := Below.refl w.heap.size w
  have W1 := below_drewX W0
  have W2 := below_drewX W1
  have W3 := below_drewX W2
  have W4 := below_drewX W3
  have W5 := below_drewX W4
  have W6 := below_drewX W5
  have W7 := below_drewX W6
  have W8 := below_drewX W7
  have W9 := below_drewX W8
  go_wp2_with fail
  apply wp_scope_straight
  go_wp2_with fail
  clear he
  by_cases z136 : Z = 136
  · subst z136
    refine wp_loop_rounds 4 ?_
    rw [rounds_succ]
    go_wp2_with fail
    refine wp_scope_once 0 rfl ?_
    go_wp2_with fail
    go_region
    go_upto_region 7 with fail
    go_cut [11] from 34 to 42 (fun s wx => s = .int .i64 (12) ∧ Below w.heap.size w wx)
    case first =>
      go_region_with (go_at_call 186; refine (Tryz.strings_IndexByte _ _ _).mono ?_; rintro e w' ⟨rfl, hw'⟩; obtain rfl := hw'.symm; (try clear hw'); rw [show Lib.indexByte _ _ = 12 from by decide +kernel])
      all_goals (go_wp2_with fail; go_meet; exact ⟨rfl, by repeat (first | assumption | exact Below.refl _ _ | refine below_drewX ?_)⟩)
    case rest =>
      obtain ⟨rfl, hwc⟩ := hcut
      go_wp2_with fail
      refine wp_loop_rounds 2 ?_
      rw [rounds_succ]
      go_wp2_with fail
      have dX : ((226 : Int) != (X.toNat : Int)) = true := by rw [bne_iff_ne]; omega
      go_region
      go_wp2_with fail
      apply wp_goto
      go_simp
      refine ⟨rfl, ?_⟩
      go_wp2_with fail
      refine (Tryz.bytealg_Cutover (15 : Int) (by omega) (by omega) _).mono ?_
      rintro e w' ⟨rfl, hw'⟩
      obtain rfl := hw'.symm
      try clear hw'
      go_wp2_with fail
      simp only [Exit.noGoto, Exit.inBlock, Exit.then]
      rw [rounds_succ]
      go_wp2_with fail
      refine wp_scope_once 0 rfl ?_
      go_wp2_with fail
      go_region
      go_upto_region 7 with fail
      go_cut [11] from 34 to 42 (fun s wx => s = .int .i64 (-1) ∧ Below w.heap.size w wx)
      case first =>
        go_region_with (go_at_call 186; refine (Tryz.strings_IndexByte _ _ _).mono ?_; rintro e w' ⟨rfl, hw'⟩; obtain rfl := hw'.symm; (try clear hw'); rw [show Lib.indexByte _ _ = -1 from by decide +kernel])
        all_goals (go_wp2_with fail; go_meet; exact ⟨rfl, by repeat (first | assumption | exact Below.refl _ _ | refine below_drewX ?_)⟩)
      case rest =>
        obtain ⟨rfl, hwc⟩ := hcut
        go_wp2
        simp only [oneJump_ret, Exit.noGoto_ret, Exit.inBlock, Exit.then]
        go_ret
        exact ⟨rfl, by repeat (first | assumption | exact Below.refl _ _ | refine below_drewX ?_)⟩
  by_cases z137 : Z = 137
  · subst z137
    refine wp_loop_rounds 4 ?_
    rw [rounds_succ]
    go_wp2_with fail
    refine wp_scope_once 0 rfl ?_
    go_wp2_with fail
    go_region
    go_upto_region 7 with fail
    go_cut [11] from 34 to 42 (fun s wx => s = .int .i64 (5) ∧ Below w.heap.size w wx)
    case first =>
      go_region_with (go_at_call 186; refine (Tryz.strings_IndexByte _ _ _).mono ?_; rintro e w' ⟨rfl, hw'⟩; obtain rfl := hw'.symm; (try clear hw'); rw [show Lib.indexByte _ _ = 5 from by decide +kernel])
      all_goals (go_wp2_with fail; go_meet; exact ⟨rfl, by repeat (first | assumption | exact Below.refl _ _ | refine below_drewX ?_)⟩)
    case rest =>
      obtain ⟨rfl, hwc⟩ := hcut
      go_wp2_with fail
      refine wp_loop_rounds 2 ?_
      rw [rounds_succ]
      go_wp2_with fail
      have dX : ((226 : Int) != (X.toNat : Int)) = true := by rw [bne_iff_ne]; omega
      go_region
      go_wp2_with fail
      apply wp_goto
      go_simp
      refine ⟨rfl, ?_⟩
      go_wp2_with fail
      refine (Tryz.bytealg_Cutover (8 : Int) (by omega) (by omega) _).mono ?_
      rintro e w' ⟨rfl, hw'⟩
      obtain rfl := hw'.symm
      try clear hw'
      go_wp2_with fail
      simp only [Exit.noGoto, Exit.inBlock, Exit.then]
      rw [rounds_succ]
      go_wp2_with fail
      refine wp_scope_once 0 rfl ?_
      go_wp2_with fail
      go_region
      go_upto_region 7 with fail
      go_cut [11] from 34 to 42 (fun s wx => s = .int .i64 (2) ∧ Below w.heap.size w wx)
      case first =>
        go_region_with (go_at_call 186; refine (Tryz.strings_IndexByte _ _ _).mono ?_; rintro e w' ⟨rfl, hw'⟩; obtain rfl := hw'.symm; (try clear hw'); rw [show Lib.indexByte _ _ = 2 from by decide +kernel])
        all_goals (go_wp2_with fail; go_meet; exact ⟨rfl, by repeat (first | assumption | exact Below.refl _ _ | refine below_drewX ?_)⟩)
      case rest =>
        obtain ⟨rfl, hwc⟩ := hcut
        go_wp2_with fail
        refine wp_loop_rounds 2 ?_
        rw [rounds_succ]
        go_wp2_with fail
        have dX : ((226 : Int) != (X.toNat : Int)) = true := by rw [bne_iff_ne]; omega
        go_region
        go_wp2_with fail
        apply wp_goto
        go_simp
        refine ⟨rfl, ?_⟩
        go_wp2_with fail
        refine (Tryz.bytealg_Cutover (12 : Int) (by omega) (by omega) _).mono ?_
        rintro e w' ⟨rfl, hw'⟩
        obtain rfl := hw'.symm
        try clear hw'
        go_wp2_with fail
        simp only [Exit.noGoto, Exit.inBlock, Exit.then]
        rw [rounds_succ]
        go_wp2_with fail
        refine wp_scope_once 0 rfl ?_
        go_wp2_with fail
        go_region
        go_upto_region 7 with fail
        go_cut [11] from 34 to 42 (fun s wx => s = .int .i64 (-1) ∧ Below w.heap.size w wx)
        case first =>
          go_region_with (go_at_call 186; refine (Tryz.strings_IndexByte _ _ _).mono ?_; rintro e w' ⟨rfl, hw'⟩; obtain rfl := hw'.symm; (try clear hw'); rw [show Lib.indexByte _ _ = -1 from by decide +kernel])
          all_goals (go_wp2_with fail; go_meet; exact ⟨rfl, by repeat (first | assumption | exact Below.refl _ _ | refine below_drewX ?_)⟩)
        case rest =>
          obtain ⟨rfl, hwc⟩ := hcut
          go_wp2
          simp only [oneJump_ret, Exit.noGoto_ret, Exit.inBlock, Exit.then]
          go_ret
          exact ⟨rfl, by repeat (first | assumption | exact Below.refl _ _ | refine below_drewX ?_)⟩
  by_cases z151 : Z = 151
  · subst z151
    refine wp_loop_rounds 4 ?_
    rw [rounds_succ]
    go_wp2_with fail
    refine wp_scope_once 0 rfl ?_
    go_wp2_with fail
    go_region
    go_wp2_with fail
    refine wp_loop_rounds 2 ?_
    rw [rounds_succ]
    go_wp2_with fail
    by_cases yX : X = 195
    · subst yX
      exact (o1.out (by simp)).elim
    · have dX : ((195 : Int) != (X.toNat : Int)) = true := by rw [bne_iff_ne]; exact fun e => yX (UInt8.toNat_inj.1 (show X.toNat = 195 by omega))
      go_region
      go_wp2_with fail
      apply wp_goto
      go_simp
      refine ⟨rfl, ?_⟩
      go_wp2_with fail
      refine (Tryz.bytealg_Cutover (2 : Int) (by omega) (by omega) _).mono ?_
      rintro e w' ⟨rfl, hw'⟩
      obtain rfl := hw'.symm
      try clear hw'
      go_wp2_with fail
      simp only [Exit.noGoto, Exit.inBlock, Exit.then]
      rw [rounds_succ]
      go_wp2_with fail
      refine wp_scope_once 0 rfl ?_
      go_wp2_with fail
      go_region
      go_upto_region 7 with fail
      go_cut [11] from 34 to 42 (fun s wx => s = .int .i64 (-1) ∧ Below w.heap.size w wx)
      case first =>
        go_region_with (go_at_call 186; refine (Tryz.strings_IndexByte _ _ _).mono ?_; rintro e w' ⟨rfl, hw'⟩; obtain rfl := hw'.symm; (try clear hw'); rw [show Lib.indexByte _ _ = -1 from by decide +kernel])
        all_goals (go_wp2_with fail; go_meet; exact ⟨rfl, by repeat (first | assumption | exact Below.refl _ _ | refine below_drewX ?_)⟩)
      case rest =>
        obtain ⟨rfl, hwc⟩ := hcut
        go_wp2
        simp only [oneJump_ret, Exit.noGoto_ret, Exit.inBlock, Exit.then]
        go_ret
        exact ⟨rfl, by repeat (first | assumption | exact Below.refl _ _ | refine below_drewX ?_)⟩
  by_cases z164 : Z = 164
  · subst z164
    refine wp_loop_rounds 4 ?_
    rw [rounds_succ]
    go_wp2_with fail
    refine wp_scope_once 0 rfl ?_
    go_wp2_with fail
    go_region
    go_upto_region 7 with fail
    go_cut [11] from 34 to 42 (fun s wx => s = .int .i64 (6) ∧ Below w.heap.size w wx)
    case first =>
      go_region_with (go_at_call 186; refine (Tryz.strings_IndexByte _ _ _).mono ?_; rintro e w' ⟨rfl, hw'⟩; obtain rfl := hw'.symm; (try clear hw'); rw [show Lib.indexByte _ _ = 6 from by decide +kernel])
      all_goals (go_wp2_with fail; go_meet; exact ⟨rfl, by repeat (first | assumption | exact Below.refl _ _ | refine below_drewX ?_)⟩)
    case rest =>
      obtain ⟨rfl, hwc⟩ := hcut
      go_wp2_with fail
      refine wp_loop_rounds 2 ?_
      rw [rounds_succ]
      go_wp2_with fail
      have dX : ((137 : Int) != (X.toNat : Int)) = true := by rw [bne_iff_ne]; omega
      go_region
      go_wp2_with fail
      apply wp_goto
      go_simp
      refine ⟨rfl, ?_⟩
      go_wp2_with fail
      refine (Tryz.bytealg_Cutover (9 : Int) (by omega) (by omega) _).mono ?_
      rintro e w' ⟨rfl, hw'⟩
      obtain rfl := hw'.symm
      try clear hw'
      go_wp2_with fail
      simp only [Exit.noGoto, Exit.inBlock, Exit.then]
      rw [rounds_succ]
      go_wp2_with fail
      refine wp_scope_once 0 rfl ?_
      go_wp2_with fail
      go_region
      go_upto_region 7 with fail
      go_cut [11] from 34 to 42 (fun s wx => s = .int .i64 (-1) ∧ Below w.heap.size w wx)
      case first =>
        go_region_with (go_at_call 186; refine (Tryz.strings_IndexByte _ _ _).mono ?_; rintro e w' ⟨rfl, hw'⟩; obtain rfl := hw'.symm; (try clear hw'); rw [show Lib.indexByte _ _ = -1 from by decide +kernel])
        all_goals (go_wp2_with fail; go_meet; exact ⟨rfl, by repeat (first | assumption | exact Below.refl _ _ | refine below_drewX ?_)⟩)
      case rest =>
        obtain ⟨rfl, hwc⟩ := hcut
        go_wp2
        simp only [oneJump_ret, Exit.noGoto_ret, Exit.inBlock, Exit.then]
        go_ret
        exact ⟨rfl, by repeat (first | assumption | exact Below.refl _ _ | refine below_drewX ?_)⟩
  by_cases z165 : Z = 165
  · subst z165
    refine wp_loop_rounds 4 ?_
    rw [rounds_succ]
    go_wp2_with fail
    refine wp_scope_once 0 rfl ?_
    go_wp2_with fail
    go_region
    go_upto_region 7 with fail
    go_cut [11] from 34 to 42 (fun s wx => s = .int .i64 (10) ∧ Below w.heap.size w wx)
    case first =>
      go_region_with (go_at_call 186; refine (Tryz.strings_IndexByte _ _ _).mono ?_; rintro e w' ⟨rfl, hw'⟩; obtain rfl := hw'.symm; (try clear hw'); rw [show Lib.indexByte _ _ = 10 from by decide +kernel])
      all_goals (go_wp2_with fail; go_meet; exact ⟨rfl, by repeat (first | assumption | exact Below.refl _ _ | refine below_drewX ?_)⟩)
    case rest =>
      obtain ⟨rfl, hwc⟩ := hcut
      go_wp2_with fail
      refine wp_loop_rounds 2 ?_
      rw [rounds_succ]
      go_wp2_with fail
      have dX : ((137 : Int) != (X.toNat : Int)) = true := by rw [bne_iff_ne]; omega
      go_region
      go_wp2_with fail
      apply wp_goto
      go_simp
      refine ⟨rfl, ?_⟩
      go_wp2_with fail
      refine (Tryz.bytealg_Cutover (13 : Int) (by omega) (by omega) _).mono ?_
      rintro e w' ⟨rfl, hw'⟩
      obtain rfl := hw'.symm
      try clear hw'
      go_wp2_with fail
      simp only [Exit.noGoto, Exit.inBlock, Exit.then]
      rw [rounds_succ]
      go_wp2_with fail
      refine wp_scope_once 0 rfl ?_
      go_wp2_with fail
      go_region
      go_upto_region 7 with fail
      go_cut [11] from 34 to 42 (fun s wx => s = .int .i64 (-1) ∧ Below w.heap.size w wx)
      case first =>
        go_region_with (go_at_call 186; refine (Tryz.strings_IndexByte _ _ _).mono ?_; rintro e w' ⟨rfl, hw'⟩; obtain rfl := hw'.symm; (try clear hw'); rw [show Lib.indexByte _ _ = -1 from by decide +kernel])
        all_goals (go_wp2_with fail; go_meet; exact ⟨rfl, by repeat (first | assumption | exact Below.refl _ _ | refine below_drewX ?_)⟩)
      case rest =>
        obtain ⟨rfl, hwc⟩ := hcut
        go_wp2
        simp only [oneJump_ret, Exit.noGoto_ret, Exit.inBlock, Exit.then]
        go_ret
        exact ⟨rfl, by repeat (first | assumption | exact Below.refl _ _ | refine below_drewX ?_)⟩
  by_cases z167 : Z = 167
  · subst z167
    refine wp_loop_rounds 4 ?_
    rw [rounds_succ]
    go_wp2_with fail
    refine wp_scope_once 0 rfl ?_
    go_wp2_with fail
    go_region
    go_upto_region 7 with fail
    go_cut [11] from 34 to 42 (fun s wx => s = .int .i64 (13) ∧ Below w.heap.size w wx)
    case first =>
      go_region_with (go_at_call 186; refine (Tryz.strings_IndexByte _ _ _).mono ?_; rintro e w' ⟨rfl, hw'⟩; obtain rfl := hw'.symm; (try clear hw'); rw [show Lib.indexByte _ _ = 13 from by decide +kernel])
      all_goals (go_wp2_with fail; go_meet; exact ⟨rfl, by repeat (first | assumption | exact Below.refl _ _ | refine below_drewX ?_)⟩)
    case rest =>
      obtain ⟨rfl, hwc⟩ := hcut
      go_wp2_with fail
      refine wp_loop_rounds 2 ?_
      rw [rounds_succ]
      go_wp2_with fail
      have dX : ((136 : Int) != (X.toNat : Int)) = true := by rw [bne_iff_ne]; omega
      go_region
      go_wp2_with fail
      apply wp_goto
      go_simp
      refine ⟨rfl, ?_⟩
      go_wp2_with fail
      refine (Tryz.bytealg_Cutover (16 : Int) (by omega) (by omega) _).mono ?_
      rintro e w' ⟨rfl, hw'⟩
      obtain rfl := hw'.symm
      try clear hw'
      go_wp2_with fail
      simp only [Exit.noGoto, Exit.inBlock, Exit.then]
      rw [rounds_succ]
      go_wp2
      simp only [oneJump_ret, Exit.noGoto_ret, Exit.inBlock, Exit.then]
      go_ret
      exact ⟨rfl, by repeat (first | assumption | exact Below.refl _ _ | refine below_drewX ?_)⟩
  by_cases z183 : Z = 183
  · subst z183
    refine wp_loop_rounds 4 ?_
    rw [rounds_succ]
    go_wp2_with fail
    refine wp_scope_once 0 rfl ?_
    go_wp2_with fail
    go_region
    go_upto_region 7 with fail
    go_cut [11] from 34 to 42 (fun s wx => s = .int .i64 (1) ∧ Below w.heap.size w wx)
    case first =>
      go_region_with (go_at_call 186; refine (Tryz.strings_IndexByte _ _ _).mono ?_; rintro e w' ⟨rfl, hw'⟩; obtain rfl := hw'.symm; (try clear hw'); rw [show Lib.indexByte _ _ = 1 from by decide +kernel])
      all_goals (go_wp2_with fail; go_meet; exact ⟨rfl, by repeat (first | assumption | exact Below.refl _ _ | refine below_drewX ?_)⟩)
    case rest =>
      obtain ⟨rfl, hwc⟩ := hcut
      go_wp2_with fail
      refine wp_loop_rounds 2 ?_
      rw [rounds_succ]
      go_wp2_with fail
      by_cases yX : X = 195
      · subst yX
        exact (o3.out (by simp)).elim
      · have dX : ((195 : Int) != (X.toNat : Int)) = true := by rw [bne_iff_ne]; exact fun e => yX (UInt8.toNat_inj.1 (show X.toNat = 195 by omega))
        go_region
        go_wp2_with fail
        apply wp_goto
        go_simp
        refine ⟨rfl, ?_⟩
        go_wp2_with fail
        refine (Tryz.bytealg_Cutover (4 : Int) (by omega) (by omega) _).mono ?_
        rintro e w' ⟨rfl, hw'⟩
        obtain rfl := hw'.symm
        try clear hw'
        go_wp2_with fail
        simp only [Exit.noGoto, Exit.inBlock, Exit.then]
        rw [rounds_succ]
        go_wp2_with fail
        refine wp_scope_once 0 rfl ?_
        go_wp2_with fail
        go_region
        go_upto_region 7 with fail
        go_cut [11] from 34 to 42 (fun s wx => s = .int .i64 (-1) ∧ Below w.heap.size w wx)
        case first =>
          go_region_with (go_at_call 186; refine (Tryz.strings_IndexByte _ _ _).mono ?_; rintro e w' ⟨rfl, hw'⟩; obtain rfl := hw'.symm; (try clear hw'); rw [show Lib.indexByte _ _ = -1 from by decide +kernel])
          all_goals (go_wp2_with fail; go_meet; exact ⟨rfl, by repeat (first | assumption | exact Below.refl _ _ | refine below_drewX ?_)⟩)
        case rest =>
          obtain ⟨rfl, hwc⟩ := hcut
          go_wp2
          simp only [oneJump_ret, Exit.noGoto_ret, Exit.inBlock, Exit.then]
          go_ret
          exact ⟨rfl, by repeat (first | assumption | exact Below.refl _ _ | refine below_drewX ?_)⟩
  have n33 : ((33 : UInt8) == Z) = false := by rw [beq_eq_false_iff_ne]; intro h; subst h; (revert bZ; decide)
  have n42 : ((42 : UInt8) == Z) = false := by rw [beq_eq_false_iff_ne]; intro h; subst h; (revert bZ; decide)
  have n61 : ((61 : UInt8) == Z) = false := by rw [beq_eq_false_iff_ne]; intro h; subst h; (revert bZ; decide)
  have n136 : ((136 : UInt8) == Z) = false := by rw [beq_eq_false_iff_ne]; intro h; subst h; exact z136 rfl
  have n137 : ((137 : UInt8) == Z) = false := by rw [beq_eq_false_iff_ne]; intro h; subst h; exact z137 rfl
  have n164 : ((164 : UInt8) == Z) = false := by rw [beq_eq_false_iff_ne]; intro h; subst h; exact z164 rfl
  have n165 : ((165 : UInt8) == Z) = false := by rw [beq_eq_false_iff_ne]; intro h; subst h; exact z165 rfl
  have n167 : ((167 : UInt8) == Z) = false := by rw [beq_eq_false_iff_ne]; intro h; subst h; exact z167 rfl
  have n183 : ((183 : UInt8) == Z) = false := by rw [beq_eq_false_iff_ne]; intro h; subst h; exact z183 rfl
  have n195 : ((195 : UInt8) == Z) = false := by rw [beq_eq_false_iff_ne]; intro h; subst h; (revert bZ; decide)
  have n226 : ((226 : UInt8) == Z) = false := by rw [beq_eq_false_iff_ne]; intro h; subst h; (revert bZ; decide)
  have HI : Lib.indexByte ((⟨#[195, 151, 195, 183, 42, 33, 226, 137, 164, 61, 226, 137, 165, 226, 136, 167]⟩ : ByteArray).extract 2 16).data.toList ((Z.toNat : Int)).toNat.toUInt8 = -1 := by
    rw [show ((Z.toNat : Int)).toNat.toUInt8 = Z by simp, show ((⟨#[195, 151, 195, 183, 42, 33, 226, 137, 164, 61, 226, 137, 165, 226, 136, 167]⟩ : ByteArray).extract 2 16).data.toList = [195, 183, 42, 33, 226, 137, 164, 61, 226, 137, 165, 226, 136, 167] from by decide +kernel]
    simp [Lib.indexByte, n33, n42, n61, n136, n137, n164, n165, n167, n183, n195, n226]
  clear n33 n42 n61 n136 n137 n164 n165 n167 n183 n195 n226
  refine wp_loop_rounds 4 ?_
  rw [rounds_succ]
  go_wp2_with fail
  refine wp_scope_once 0 rfl ?_
  go_wp2_with fail
  have dZ : ((151 : Int) != (Z.toNat : Int)) = true := by rw [bne_iff_ne]; intro h; have hZ : Z = 151 := UInt8.toNat_inj.1 (show Z.toNat = 151 by omega); subst hZ; first | exact z151 rfl | (revert bZ; decide)
  go_region
  go_upto_region 7 with fail
  go_cut [11] from 34 to 42 (fun s wx => s = .int .i64 (-1) ∧ Below w.heap.size w wx)
  case first =>
    go_region_with (go_at_call 186; refine (Tryz.strings_IndexByte _ _ _).mono ?_; rintro e w' ⟨rfl, hw'⟩; obtain rfl := hw'.symm; (try clear hw'); rw [show Lib.indexByte _ _ = -1 from HI])
    all_goals (go_wp2_with fail; go_meet; exact ⟨rfl, by repeat (first | assumption | exact Below.refl _ _ | refine below_drewX ?_)⟩)
  case rest =>
    obtain ⟨rfl, hwc⟩ := hcut
    go_wp2
    simp only [oneJump_ret, Exit.noGoto_ret, Exit.inBlock, Exit.then]
    go_ret
    exact ⟨rfl, by repeat (first | assumption | exact Below.refl _ _ | refine below_drewX ?_)⟩
end Go.Proofs.YtopndegbofokiaaGreat
