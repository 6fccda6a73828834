/- law05.live: it is true. -/
import Derived.Test.YtmijanocljmaeaaGreatKS4
namespace Go.Proofs.YtmijanocljmaeaaGreat
set_option linter.unusedVariables false
set_option linter.unusedSimpArgs false
open Go.RowKit

theorem in12 : ∀ x ∈ ([1, 2] : List Int), -1000 ≤ x ∧ x ≤ 1000 := by intro x hx; simp at hx; omega
theorem in123 : ∀ x ∈ ([1, 2, 3] : List Int), -1000 ≤ x ∧ x ≤ 1000 := by intro x hx; simp at hx; omega
theorem in1112 : ∀ x ∈ ([11, 12] : List Int), -1000 ≤ x ∧ x ≤ 1000 := by intro x hx; simp at hx; omega
theorem tree12 : vecT (wholeT 0) (([1, 2] : List Int).map wholeT) = (arrT [2] [wholeT 1, wholeT 2]) := rfl
theorem tree123 : vecT (wholeT 0) (([1, 2, 3] : List Int).map wholeT) = (arrT [3] [wholeT 1, wholeT 2, wholeT 3]) := rfl
theorem tree1112 : vecT (wholeT 0) (([11, 12] : List Int).map wholeT) = (arrT [2] [wholeT 11, wholeT 12]) := rfl
theorem one_right : RightP false [] [(1 : Int)] := ⟨by simp, by simp, can_nil, can_one, by simp, by simp, by rw [one_val]; exact gI_one_right _⟩
set_option maxRecDepth 100000 in
set_option maxHeartbeats 16000000 in
theorem live5_ok : LiveOK5 := by
 intro w
 go_enter Tryz.func9, Tryz.ntmps9
 go_wp2_with fail
 refine (env_any w).mono ?_
 rintro e w1 ⟨ds1, ea1, ec1, hd1, rfl, ho1, p1⟩
 have HO1 : Hid (Own w.heap.size w1 (.slice ea1 ds1.length ec1) ds1) := ho1
 clear ho1
 have k2 := below_alloc w1 (.cells #[.int .i64 1, .int .i64 2] 3)
 have B2 := boxA_new w1 #[.int .i64 1, .int .i64 2] 3
 have C2 := ints_lit (l := [1, 2]) B2 rfl in12 (by simp)
 rw [tree12] at C2
 go_wp2_with fail
 generalize hA2 : w1.alloc (.cells #[.int .i64 1, .int .i64 2] 3) = w2 at *
 clear hA2 B2
 refine C2.mono ?_
 rintro e w3 ⟨z1, m1, u1, z2, m2, u2, rfl, hv3, p3⟩
 clear C2
 have HV3 : Hid (ArV 1 (Fr w2.heap.size w3.heap.size) w3 (.slice z1 m1 u1) (.slice z2 m2 u2) (arrT [2] [wholeT 1, wholeT 2])) := hv3
 clear hv3
 go_wp2_with fail
 refine (int_lit 10 (by omega) (by omega) w3).mono ?_
 rintro e w4 ⟨k, rfl, hv4, p4⟩
 have HV4 : Hid (ArV 1 (Fr w3.heap.size w4.heap.size) w4 (.slice none 0 0) (.slice (some ⟨k, 0, none⟩) 1 1) (arrT [] [wholeT 10])) := hv4
 clear hv4
 have s1 := p1.size
 have s2 := k2.size
 have s3 := p3.size
 have s4 := p4.size
 have q14 : Below w1.heap.size w1 w4 := (k2.trans (p3.mono s2)).trans (p4.mono (by omega))
 have DI : Hid (DyIn (· < w4.heap.size) 1 w4 false none ea1 [] ds1 0 ec1 z1 z2 none (some ⟨k, 0, none⟩) m1 u1 m2 u2 0 0 1 1 (arrT [2] [wholeT 1, wholeT 2]) (arrT [] [wholeT 10])) := ⟨fun g h => h, (HV3.out.agree (Agree.of p4 (fun q hq => hq.2))).mono (fun q hq => by have := hq.2; omega), HV4.out.mono (fun q hq => hq.2), (own_nilT 0 w4).rd, (HO1.out.below q14 (Nat.le_refl _)).rd, by rw [hd1.out]; exact one_right, by rw [← tree12]; exact meas_row in12, meas_one 10 (by omega) (by omega)⟩
 have C5 : Calls Tryz.prog 7 #[.agg #[.int .i64 1, .bool false, .slice none 0 0, .slice ea1 ds1.length ec1, .int .i64 0], .int .i32 43, .agg #[.slice z1 m1 u1, .slice z2 m2 u2], .agg #[.slice none 0 0, .slice (some ⟨k, 0, none⟩) 1 1]] w4 fun e w' => ∃ x5 y5 b3 d3, e = .returned (.tuple #[.agg #[.slice x5 1 y5, .slice b3 2 d3], .int .i64 0]) ∧ ArV 1 (Fr w4.heap.size w'.heap.size) w' (.slice x5 1 y5) (.slice b3 2 d3) (arrT [2] [wholeT 11, wholeT 12]) ∧ Below w4.heap.size w4 w' := dyadic_scalar (io := 1) (pp := 0) (qa := [1, 2]) (qb := [10]) (L := [wholeT 11, wholeT 12]) DI.out (by decide) (by decide) rfl rfl ⟨rfl, fun x hx => by have := in12 x hx; omega⟩ ⟨rfl, fun x hx => by simp at hx; omega⟩ (by decide) (by decide) (by decide) rfl (fun i hi => by
  have hi : i < 2 := hi
  match i, hi with
  | 0, _ => rfl
  | 1, _ => rfl)
 have HC5 : Hid (Calls Tryz.prog 7 #[.agg #[.int .i64 1, .bool false, .slice none 0 0, .slice ea1 ds1.length ec1, .int .i64 0], .int .i32 43, .agg #[.slice z1 m1 u1, .slice z2 m2 u2], .agg #[.slice none 0 0, .slice (some ⟨k, 0, none⟩) 1 1]] w4 fun e w' => ∃ x5 y5 b3 d3, e = .returned (.tuple #[.agg #[.slice x5 1 y5, .slice b3 2 d3], .int .i64 0]) ∧ ArV 1 (Fr w4.heap.size w'.heap.size) w' (.slice x5 1 y5) (.slice b3 2 d3) (arrT [2] [wholeT 11, wholeT 12]) ∧ Below w4.heap.size w4 w') := C5
 clear C5 DI HO1 HV3 HV4 hd1
 go_wp2_with fail
 refine HC5.out.mono ?_
 rintro e w5 ⟨x5, y5, b3, d3, rfl, hv5, p5⟩
 have HV5 : Hid (ArV 1 (Fr w4.heap.size w5.heap.size) w5 (.slice x5 1 y5) (.slice b3 2 d3) (arrT [2] [wholeT 11, wholeT 12])) := hv5
 clear hv5 HC5
 have s5 := p5.size
 have k6 := below_alloc w5 (.cells #[.slice x5 1 y5, .slice b3 2 d3] 25)
 have B6 := boxA_new w5 #[.slice x5 1 y5, .slice b3 2 d3] 25
 have g6 : Below w.heap.size w (w5.alloc (.cells #[.slice x5 1 y5, .slice b3 2 d3] 25)) := (((p1.trans (q14.mono s1)).trans (p5.mono (by omega)))).trans (k6.mono (by omega))
 have lB6 := B6.lt
 have HV6 : Hid (ArV 1 (Fr w4.heap.size w5.heap.size) (w5.alloc (.cells #[.slice x5 1 y5, .slice b3 2 d3] 25)) (.slice x5 1 y5) (.slice b3 2 d3) (arrT [2] [wholeT 11, wholeT 12])) := HV5.out.agree (Agree.of k6 (fun q hq => hq.2))
 go_wp2_with fail
 generalize hA6 : w5.alloc (.cells #[.slice x5 1 y5, .slice b3 2 d3] 25) = w6 at *
 clear hA6 HV5 k2 p3 p4 q14
 have s6 := k6.size
 refine (env_any w6).mono ?_
 rintro e w7 ⟨ds7, ea7, ec7, hd7, rfl, ho7, p7⟩
 have HO7 : Hid (Own w6.heap.size w7 (.slice ea7 ds7.length ec7) ds7) := ho7
 clear ho7
 have k8 := below_alloc w7 (.cells #[.int .i64 1, .int .i64 2] 3)
 have B8 := boxA_new w7 #[.int .i64 1, .int .i64 2] 3
 have C8 := ints_lit (l := [1, 2]) B8 rfl in12 (by simp)
 rw [tree12] at C8
 go_wp2_with fail
 generalize hA8 : w7.alloc (.cells #[.int .i64 1, .int .i64 2] 3) = w8 at *
 clear hA8 B8
 refine C8.mono ?_
 rintro e w9 ⟨z1', m1', u1', z2', m2', u2', rfl, hv9, p9⟩
 clear C8
 have HV9 : Hid (ArV 1 (Fr w8.heap.size w9.heap.size) w9 (.slice z1' m1' u1') (.slice z2' m2' u2') (arrT [2] [wholeT 1, wholeT 2])) := hv9
 clear hv9
 have k10 := below_alloc w9 (.cells #[.int .i64 1, .int .i64 2, .int .i64 3] 3)
 have B10 := boxA_new w9 #[.int .i64 1, .int .i64 2, .int .i64 3] 3
 have C10 := ints_lit (l := [1, 2, 3]) B10 rfl in123 (by simp)
 rw [tree123] at C10
 go_wp2_with fail
 generalize hA10 : w9.alloc (.cells #[.int .i64 1, .int .i64 2, .int .i64 3] 3) = w10 at *
 clear hA10 B10
 refine C10.mono ?_
 rintro e w11 ⟨z3', m3', u3', z4', m4', u4', rfl, hv11, p11⟩
 clear C10
 have s7 := p7.size
 have s8 := k8.size
 have s9 := p9.size
 have s10 := k10.size
 have s11 := p11.size
 have q911 : Below w9.heap.size w9 w11 := k10.trans (p11.mono s10)
 have q711 : Below w7.heap.size w7 w11 := (k8.trans (p9.mono s8)).trans (q911.mono (by omega))
 have DI : Hid (DyIn (· < w11.heap.size) 1 w11 false none ea7 [] ds7 0 ec7 z1' z2' z3' z4' m1' u1' m2' u2' m3' u3' m4' u4' (arrT [2] [wholeT 1, wholeT 2]) (arrT [3] [wholeT 1, wholeT 2, wholeT 3])) := ⟨fun g h => h, (HV9.out.agree (Agree.of q911 (fun q hq => hq.2))).mono (fun q hq => by have := hq.2; omega), hv11.mono (fun q hq => hq.2), (own_nilT 0 w11).rd, (HO7.out.below q711 (Nat.le_refl _)).rd, by rw [hd7.out]; exact one_right, by rw [← tree12]; exact meas_row in12, by rw [← tree123]; exact meas_row in123⟩
 have C12 := dyadic_len (io := 1) (pp := 0) DI.out (by decide) (by decide) (by decide) rfl
 have HC12 : Hid (Calls Tryz.prog 7 _ w11 _) := C12
 clear C12 DI HO7 HV9 hv11 hd7
 go_wp2_with fail
 refine HC12.out.mono ?_
 rintro e w12 ⟨rfl, p12⟩
 have s12 := p12.size
 have k13 := below_alloc w12 (.cells #[.slice none 0 0, .slice none 0 0] 25)
 have q6 : Below w6.heap.size w6 (w12.alloc (.cells #[.slice none 0 0, .slice none 0 0] 25)) := ((p7.trans (q711.mono s7)).trans (p12.mono (by omega))).trans (k13.mono (by omega))
 go_upto_region 3 with fail
 generalize hA13 : w12.alloc (.cells #[.slice none 0 0, .slice none 0 0] 25) = w13 at *
 clear hA13 HC12
 have B13 := B6.below q6 (by omega)
 have s13 := q6.size
 have HV13 : Hid (ArV 1 (Fr w4.heap.size w5.heap.size) w13 (.slice x5 1 y5) (.slice b3 2 d3) (arrT [2] [wholeT 11, wholeT 12])) := HV6.out.agree (Agree.of q6 (fun q hq => by have := hq.2; omega))
 have g13 : Below w.heap.size w w13 := g6.trans (q6.mono g6.size)
 have s14 : w5.heap.size ≤ w13.heap.size := by omega
 clear HV6 B6 k6 p5 p7 k8 p9 k10 p11 q911 q711 p12 k13 q6 p1 g6
 have d0 : Below w13.heap.size w13 w13.drew := ⟨rfl, rfl, rfl, Nat.le_refl _, fun _ _ => rfl⟩
 have kI := below_alloc w13.drew (.cells #[.int .i64 11, .int .i64 12] 3)
 have BI := boxA_new w13.drew #[.int .i64 11, .int .i64 12] 3
 have kI' : Below w13.heap.size w13 (w13.drew.alloc (.cells #[.int .i64 11, .int .i64 12] 3)) := d0.trans (kI.mono d0.size)
 have lB13 := B13.lt
 have HCe : Hid (∀ {w' : World}, Below w13.heap.size w13 w' → w'.cell? ⟨w5.heap.size, 0, none⟩ = some (.slice x5 1 y5) ∧ w'.cell? ⟨w5.heap.size, 1, none⟩ = some (.slice b3 2 d3)) := fun k => ⟨(B13.below k lB13).cell 0 rfl, (B13.below k lB13).cell 1 rfl⟩
 obtain ⟨c0, c1⟩ := HCe.out d0
 obtain ⟨c2, c3⟩ := HCe.out kI'
 obtain ⟨c4, c5⟩ := HCe.out (Below.refl _ w13)
 have CI : Hid (Calls Tryz.prog 17 #[.slice (some ⟨w13.heap.size, 0, none⟩) 2 2] (w13.drew.alloc (.cells #[.int .i64 11, .int .i64 12] 3)) fun e w' => ∃ z1 m1 u1 z2 m2 u2, e = .returned (.agg #[.slice z1 m1 u1, .slice z2 m2 u2]) ∧ ArV 1 (Fr (w13.drew.alloc (.cells #[.int .i64 11, .int .i64 12] 3)).heap.size w'.heap.size) w' (.slice z1 m1 u1) (.slice z2 m2 u2) (arrT [2] [wholeT 11, wholeT 12]) ∧ Below (w13.drew.alloc (.cells #[.int .i64 11, .int .i64 12] 3)).heap.size (w13.drew.alloc (.cells #[.int .i64 11, .int .i64 12] 3)) w') := by
  have := ints_lit (l := [11, 12]) BI rfl in1112 (by simp)
  rw [tree1112] at this
  exact this
 clear BI
 first | go_region_with (first | (go_at_call 17; refine CI.out.mono ?_; rintro e w14 ⟨y1a, y2a, y3a, y4a, y5a, y6a, rfl, hv14, p14⟩; have HV14 : Hid (ArV 1 (Fr (w13.drew.alloc (.cells #[.int .i64 11, .int .i64 12] 3)).heap.size w14.heap.size) w14 (.slice y1a y2a y3a) (.slice y4a y5a y6a) (arrT [2] [wholeT 11, wholeT 12])) := hv14; clear hv14; have k14 : Below w13.heap.size w13 w14 := kI'.trans (p14.mono kI'.size); obtain ⟨c6, c7⟩ := HCe.out k14) | (have j14 := HV14; go_at_call 23; refine (match_same (D := (· < w14.heap.size)) (f := 1) (t := (arrT [2] [wholeT 11, wholeT 12])) (fun g h => h) ((HV13.out.agree (Agree.of k14 (fun q hq => by have := hq.2; omega))).mono (fun q hq => by have := hq.2; have := k14.size; omega)) (HV14.out.mono (fun q hq => hq.2)) (by rw [← tree1112]; exact meas_row in1112)).mono ?_; rintro e w15 ⟨rfl, p15⟩; have k15 : Below w13.heap.size w13 w15 := k14.trans (p15.mono k14.size))) | fail
 all_goals
  go_wp2
  go_ret
  exact ⟨rfl, g13.trans (k15.mono g13.size)⟩
end Go.Proofs.YtmijanocljmaeaaGreat
