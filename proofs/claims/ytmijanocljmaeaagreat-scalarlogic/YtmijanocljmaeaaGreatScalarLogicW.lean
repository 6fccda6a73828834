/- ScalarLogic: not and, not or are not of and, of or; not twice is the same. -/
import Derived.Test.YtmijanocljmaeaaGreatM1
import Derived.Test.YtmijanocljmaeaaGreatM3
import Derived.Test.YtmijanocljmaeaaGreatKS5
import Derived.Test.YtmijanocljmaeaaGreatM4
import Derived.Deep.CutBlock
namespace Go.Proofs.YtmijanocljmaeaaGreat
set_option linter.unusedVariables false
set_option linter.unusedSimpArgs false
open Go.RowKit

/-- A variable that holds an array. -/
structure AV (w : World) (k : Nat) (x1 : Option Addr) (n1 y1 : Nat) (x2 : Option Addr) (n2 y2 : Nat) (t : Tr) : Prop where
 box : BoxA w k 25 #[.slice x1 n1 y1, .slice x2 n2 y2]
 arr : ArV 1 (· < w.heap.size) w (.slice x1 n1 y1) (.slice x2 n2 y2) t
theorem AV.below {w w' : World} {k : Nat} {x1 : Option Addr} {n1 y1 : Nat} {x2 : Option Addr} {n2 y2 : Nat} {t : Tr} (h : AV w k x1 n1 y1 x2 n2 y2 t) (b : Below w.heap.size w w') : AV w' k x1 n1 y1 x2 n2 y2 t :=
 ⟨h.box.below b h.box.lt, (h.arr.agree (Agree.of b (fun _ q => q))).mono (fun q hq => Nat.lt_of_lt_of_le hq b.size)⟩
theorem one_right5 : RightP false [] [(1 : Int)] := ⟨by simp, by simp, can_nil, can_one, by simp, by simp, by rw [one_val]; exact gI_one_right _⟩
section
variable {v : World} {ka kb : Nat} {x1 x2 x3 x4 : Option Addr} {n1 y1 n2 y2 n3 y3 n4 y4 m : Nat} {qa qb : List Bool} {gl : Int} {kf d : Nat} {op : Bool → Bool → Bool} {U : Tr}
set_option maxRecDepth 100000 in
set_option maxHeartbeats 1000000 in
theorem dy_of (hK : LogK gl kf op d) (A : AV v ka x1 n1 y1 x2 n2 y2 (rowT qa)) (B : AV v kb x3 n3 y3 x4 n4 y4 (rowT qb)) (hl : qa.length = qb.length) (h5 : qa.length ≤ 50) (hm : max 1 qa.length = m) (hU : rowT (List.zipWith op qa qb) = U) :
    Hid (∀ u (ds0 : List Int) ea ec, Hid (ds0 = [(1 : Int)]) → Rd u.heap.size u (.slice ea ds0.length ec) ds0 → Below v.heap.size v u → Calls Tryz.prog 7 #[.agg #[.int .i64 1, .bool false, .slice none 0 0, .slice ea ds0.length ec, .int .i64 0], .int .i32 gl, .agg #[.slice x1 n1 y1, .slice x2 n2 y2], .agg #[.slice x3 n3 y3, .slice x4 n4 y4]] u fun e w' => (∃ x5 y5 b3 d3, e = .returned (.tuple #[.agg #[.slice x5 1 y5, .slice b3 m d3], .int .i64 0]) ∧ ArV 1 (Fr u.heap.size w'.heap.size) w' (.slice x5 1 y5) (.slice b3 m d3) U) ∧ Below u.heap.size u w') := by
 subst hU
 intro u ds0 ea ec hd hr k
 have DI : DyIn (· < u.heap.size) 1 u false none ea [] ds0 0 ec x1 x2 x3 x4 n1 y1 n2 y2 n3 y3 n4 y4 (rowT qa) (rowT qb) := ⟨fun g h => h, (A.below k).arr, (B.below k).arr, (own_nilT 0 u).rd, hr, by rw [hd.out]; exact one_right5, rowT_meas qa, rowT_meas qb⟩
 have h := dyadic_rows (io := 1) (pp := 0) hK DI hl h5 hm
 simp only [List.length_nil] at h
 exact h
set_option maxRecDepth 100000 in
set_option maxHeartbeats 1000000 in
theorem mo_of (A : AV v ka x1 n1 y1 x2 n2 y2 (rowT qa)) (h5 : qa.length ≤ 50) (hm : max 1 qa.length = m) (hU : rowT (qa.map (fun h => !h)) = U) :
    Hid (∀ u (ds0 : List Int) ea ec, Hid (ds0 = [(1 : Int)]) → Rd u.heap.size u (.slice ea ds0.length ec) ds0 → Below v.heap.size v u → Calls Tryz.prog 11 #[.agg #[.int .i64 1, .bool false, .slice none 0 0, .slice ea ds0.length ec, .int .i64 0], .int .i32 126, .agg #[.slice x1 n1 y1, .slice x2 n2 y2]] u fun e w' => (∃ x5 y5 b3 d3, e = .returned (.tuple #[.agg #[.slice x5 1 y5, .slice b3 m d3], .int .i64 0]) ∧ ArV 1 (Fr u.heap.size w'.heap.size) w' (.slice x5 1 y5) (.slice b3 m d3) U) ∧ Below u.heap.size u w') := by
 subst hU
 intro u ds0 ea ec hd hr k
 have DI : MoIn (· < u.heap.size) 1 u false none ea [] ds0 0 ec x1 x2 n1 y1 n2 y2 (rowT qa) := ⟨fun g h => h, (A.below k).arr, (own_nilT 0 u).rd, hr, by rw [hd.out]; exact one_right5, rowT_meas qa⟩
 have h := monadic_rows (io := 1) (pp := 0) DI h5 hm
 simp only [List.length_nil] at h
 exact h
end
theorem nand1 : ∀ a b : List Bool, (List.zipWith (fun a b => a && b) a b).map (fun h => !h) = List.zipWith (fun a b => !(a && b)) a b
 | [], _ => by simp
 | _ :: _, [] => by simp
 | x :: a, y :: b => by simp
theorem nand2 : ∀ a b : List Bool, List.zipWith (fun a b => a || b) (a.map (fun h => !h)) (b.map (fun h => !h)) = List.zipWith (fun a b => !(a && b)) a b
 | [], _ => by simp
 | _ :: _, [] => by simp
 | x :: a, y :: b => by cases x <;> cases y <;> simp
theorem notnot (a : List Bool) : (a.map (fun h => !h)).map (fun h => !h) = a := by simp [List.map_map, Function.comp_def]
section
variable {w : World} {a1 a2 : Option Addr} {c1 c2 : Nat} {xs ys : List Bool}
set_option maxRecDepth 100000 in
set_option maxHeartbeats 16000000 in
theorem scalarLogic_walk (h1 : RdT w (.slice a1 xs.length c1) xs) (h2 : RdT w (.slice a2 ys.length c2) ys) :
    Calls Tryz.prog 6 #[.slice a1 xs.length c1, .slice a2 ys.length c2] w fun e w' => e = .returned (.bool true) ∧ Below w.heap.size w w' := by
 obtain ⟨N, hN⟩ : ∃ N, min (min xs.length ys.length) 50 = N := ⟨_, rfl⟩
 have hNx : N ≤ xs.length := by omega
 have hNy : N ≤ ys.length := by omega
 have hN5 : N ≤ 50 := by omega
 have hNo : ¬ N < xs.length ∨ ¬ N < ys.length ∨ ¬ N < 50 := by omega
 clear hN
 have HX : Hid (RdT w (.slice a1 xs.length c1) xs) := h1
 have HY : Hid (RdT w (.slice a2 ys.length c2) ys) := h2
 clear h1 h2
 obtain ⟨i0, hi0, hz0, hz1, hz2⟩ := info_parts info_int3
 go_enter Tryz.func6, Tryz.ntmps6
 go_upto_block 0 with fail
 go_cut [5, 6, 7] from 24 to 56 (fun p5 p6 p7 wx => ∃ (a3 : Option Addr) (c3 : Nat) (a4 : Option Addr) (c4 : Nat), p5 = .slice a3 N c3 ∧ p6 = .slice a4 N c4 ∧ p7 = .int .i64 N ∧ Hid (BitRow w.heap.size wx (.slice a3 N c3) xs N) ∧ Hid (BitRow w.heap.size wx (.slice a4 N c4) ys N) ∧ Below w.heap.size w wx)
 case first =>
  go_wp2_with fail
  go_loopw [5, 6, 7] (fun p5 p6 p7 wr => ∃ (i : Nat) (a3 : Option Addr) (c3 : Nat) (a4 : Option Addr) (c4 : Nat), p5 = .slice a3 i c3 ∧ p6 = .slice a4 i c4 ∧ p7 = .int .i64 i ∧ i ≤ N ∧ BitRow w.heap.size wr (.slice a3 i c3) xs i ∧ BitRow w.heap.size wr (.slice a4 i c4) ys i ∧ (∀ k, (Value.slice a3 i c3).ownBlock = some k → (Value.slice a4 i c4).ownBlock ≠ some k) ∧ Below w.heap.size w wr) (fun _ _ p7 _ => N - (intOf p7).toNat)
  case atStart => exact ⟨0, none, 0, none, 0, rfl, rfl, rfl, Nat.zero_le _, ⟨rfl, Or.inl ⟨rfl, rfl⟩⟩, ⟨rfl, Or.inl ⟨rfl, rfl⟩⟩, (fun k h => by cases h), Below.refl _ _⟩
  case round =>
   obtain ⟨i, a3, c3, a4, c4, rfl, rfl, rfl, hil, r3, r4, hne, hb⟩ := hrel
   by_cases hlt : i < N
   · obtain ⟨g1, o1, rfl, l1, e1⟩ := HX.out.at (show i < xs.length by omega)
     obtain ⟨g2, o2, rfl, l2, e2⟩ := HY.out.at (show i < ys.length by omega)
     obtain ⟨bxs, hbx⟩ : ∃ b, xs.getD i false = b := ⟨_, rfl⟩
     obtain ⟨bys, hby⟩ : ∃ b, ys.getD i false = b := ⟨_, rfl⟩
     rw [hbx] at e1
     rw [hby] at e2
     have hx : i < xs.length := by omega
     have hy : i < ys.length := by omega
     have h50 : i < 50 := by omega
     have d1 := (hb.cell (p := ⟨g1, o1 + i, none⟩) l1).trans e1
     have HO : Hid (wr.ownsRow w.heap.size 3 1 (.slice a3 i c3) i ((xs.take i).map (fun h => Value.int .i64 (bitI h)))) := r3
     have HP : Hid (wr.ownsRow w.heap.size 3 1 (.slice a4 i c4) i ((ys.take i).map (fun h => Value.int .i64 (bitI h)))) := r4
     have HNE : Hid (∀ k, (Value.slice a3 i c3).ownBlock = some k → (Value.slice a4 i c4).ownBlock ≠ some k) := hne
     have HE2 : Hid (w.cell? ⟨g2, o2 + i, none⟩ = some (.bool bys)) := e2
     have sb := hb.size
     clear e1 e2 r3 r4 hne
     go_wp2_with fail
     clear d1
     refine (bit_any _ _).mono ?_
     rintro e w1 ⟨rfl, hw1⟩
     obtain rfl := hw1.symm
     go_wp2_with (at_builtin; refine wpList_append_own_at _ rfl _ _ 22 rfl w.heap.size 3 i0 (.int .i64 0) 1 8 Tryz.underlying22 hi0 hz0 hz1 hz2 rfl (by decide) _ i ((xs.take i).map (fun h => Value.int .i64 (bitI h))) rfl (HO.out.alloc _) ⟨wr.heap.size, 0, none⟩ 1 1 [.int .i64 (bitI bxs)] rfl rfl (cells_new wr #[.int .i64 (bitI bxs)] _) (by intro u hu; simp at hu; subst hu; rfl) (by unfold maxLen; omega) (by omega) (by simp only [World.size_alloc]; omega) ?_)
     intro v3 w3 ho hgr _ hat
     obtain ⟨a5, c5, rfl⟩ := row_form3 ho
     have hb3 : Below w.heap.size w w3 := (hb.trans ((below_alloc wr (.cells #[.int .i64 (bitI bxs)] 3)).mono sb)).grown hgr (by simp; omega) (fun k e => (row_own HO.out k e).1)
     have HB3 : Hid (BitRow w.heap.size w3 (.slice a5 (i + 1) c5) xs (i + 1)) := BitRow.next hx (by rw [hbx, List.map_take]; exact ho)
     have HP3 : Hid (w3.ownsRow w.heap.size 3 1 (.slice a4 i c4) i ((ys.take i).map (fun h => Value.int .i64 (bitI h)))) := row_apart (HP.out.alloc _) hgr (fun k e e' => HNE.out k e' e)
     have HA3 : Hid (∀ k, (Value.slice a4 i c4).ownBlock = some k → (Value.slice a5 (i + 1) c5).ownBlock ≠ some k) := fun k e e' => by
      have hk := (row_own HP.out k e).2
      rcases hat with h | h
      · rw [h] at e'; exact HNE.out k e' e
      · rw [h] at e'; (try rw [World.size_alloc] at e'); cases e'; omega
     have s3 := hb3.size
     have d2 := (hb3.cell (p := ⟨g2, o2 + i, none⟩) l2).trans HE2.out
     clear ho hgr hat HO HP HNE HE2 hb
     go_wp2_with fail
     clear d2
     refine (bit_any _ _).mono ?_
     rintro e w4 ⟨rfl, hw4⟩
     obtain rfl := hw4.symm
     have HO := HP3
     go_wp2_with (at_builtin; refine wpList_append_own_at _ rfl _ _ 22 rfl w.heap.size 3 i0 (.int .i64 0) 1 8 Tryz.underlying22 hi0 hz0 hz1 hz2 rfl (by decide) _ i ((ys.take i).map (fun h => Value.int .i64 (bitI h))) rfl (HO.out.alloc _) ⟨w3.heap.size, 0, none⟩ 1 1 [.int .i64 (bitI bys)] rfl rfl (cells_new w3 #[.int .i64 (bitI bys)] _) (by intro u hu; simp at hu; subst hu; rfl) (by unfold maxLen; omega) (by omega) (by simp only [World.size_alloc]; omega) ?_)
     intro v5 w5 ho hgr _ hat
     obtain ⟨a6, c6, rfl⟩ := row_form3 ho
     have hb5 : Below w.heap.size w w5 := (hb3.trans ((below_alloc w3 (.cells #[.int .i64 (bitI bys)] 3)).mono s3)).grown hgr (by simp; omega) (fun k e => (row_own HP3.out k e).1)
     have HB5 : Hid (BitRow w.heap.size w5 (.slice a6 (i + 1) c6) ys (i + 1)) := BitRow.next hy (by rw [hby, List.map_take]; exact ho)
     have HC5 : Hid (BitRow w.heap.size w5 (.slice a5 (i + 1) c5) xs (i + 1)) := row_apart (World.ownsRow.alloc HB3.out _) hgr (fun k e e' => HA3.out k e' e)
     have HA5 : Hid (∀ k, (Value.slice a5 (i + 1) c5).ownBlock = some k → (Value.slice a6 (i + 1) c6).ownBlock ≠ some k) := fun k e e' => by
      have hk := (row_own HB3.out k e).2
      rcases hat with h | h
      · rw [h] at e'; exact HA3.out k e' e
      · rw [h] at e'; (try rw [World.size_alloc] at e'); cases e'; omega
     clear ho hgr hat HB3 HP3 HA3 HO hb3
     go_wp2
     go_roundw
     case rel => exact ⟨i + 1, a5, c5, a6, c6, rfl, rfl, by go_num, by omega, HC5.out, HB5.out, HA5.out, hb5⟩
     case measure => simp [intOf]; omega
   · obtain rfl : i = N := by omega
     have HB3 : Hid (BitRow w.heap.size wr (.slice a3 i c3) xs i) := r3
     have HB4 : Hid (BitRow w.heap.size wr (.slice a4 i c4) ys i) := r4
     clear r3 r4 hne
     by_cases hx : i < xs.length
     · by_cases hy : i < ys.length
       · have h50 : ¬ i < 50 := by omega
         go_wp2_with fail
         go_meet
         exact ⟨a3, c3, a4, c4, rfl, rfl, rfl, HB3, HB4, hb⟩
       · go_wp2_with fail
         go_meet
         exact ⟨a3, c3, a4, c4, rfl, rfl, rfl, HB3, HB4, hb⟩
     · go_wp2_with fail
       go_meet
       exact ⟨a3, c3, a4, c4, rfl, rfl, rfl, HB3, HB4, hb⟩
 case rest =>
 obtain ⟨a3, c3, a4, c4, rfl, rfl, rfl, HB3, HB4, kc⟩ := hcut
 obtain ⟨M, hM⟩ : ∃ M, max 1 N = M := ⟨_, rfl⟩
 have hlx : ((xs.take N).map bitI).length = N := by rw [List.length_map, List.length_take]; omega
 have hly : ((ys.take N).map bitI).length = N := by rw [List.length_map, List.length_take]; omega
 have hqx : (xs.take N).length = N := by rw [List.length_take]; omega
 have hqy : (ys.take N).length = N := by rw [List.length_take]; omega
 obtain ⟨wb, hwb⟩ : ∃ w1, wc = w1 := ⟨_, rfl⟩
 rw [hwb] at kc HB3 HB4 ⊢
 clear hwb
 have C1 := ints_any (HB3.out.ints hNx) (fun q hq => hq.2)
 have R4 := HB4.out.ints hNy
 rw [hlx] at C1
 rw [hly] at R4
 have HR4 : Hid (RdN (Fr w.heap.size wb.heap.size) wb (.slice a4 N c4) ((ys.take N).map bitI)) := R4
 clear R4 HB3 HB4
 have sc := kc.size
 go_wp2_with fail
 refine C1.mono ?_
 rintro e w1 ⟨z1, m1, u1, z2, m2, u2, rfl, hv1, p1⟩
 clear C1
 have s1 := p1.size
 have HV1 : Hid (ArV 1 (Fr wb.heap.size w1.heap.size) w1 (.slice z1 m1 u1) (.slice z2 m2 u2) (rowT (xs.take N))) := hv1
 clear hv1
 have C2 := ints_any (w := w1) (D := Fr w.heap.size wb.heap.size) (a := a4) (c := c4) (l := (ys.take N).map bitI) (by rw [hly]; exact HR4.out.imp (fun _ h => h) (Agree.of p1 (fun q hq => hq.2))) (fun q hq => by have := hq.2; omega)
 rw [hly] at C2
 go_wp2_with fail
 refine C2.mono ?_
 rintro e w2 ⟨z3, m3, u3, z4, m4, u4, rfl, hv2, p2⟩
 clear C2 HR4
 have s2 := p2.size
 have HV2 : Hid (ArV 1 (Fr w1.heap.size w2.heap.size) w2 (.slice z3 m3 u3) (.slice z4 m4 u4) (rowT (ys.take N))) := hv2
 clear hv2
 have k3 := below_alloc w2 (.cells #[.slice z1 m1 u1, .slice z2 m2 u2] 25)
 have k4 := below_alloc (w2.alloc (.cells #[.slice z1 m1 u1, .slice z2 m2 u2] 25)) (.cells #[.slice z3 m3 u3, .slice z4 m4 u4] 25)
 have k34 : Below w2.heap.size w2 ((w2.alloc (.cells #[.slice z1 m1 u1, .slice z2 m2 u2] 25)).alloc (.cells #[.slice z3 m3 u3, .slice z4 m4 u4] 25)) := k3.trans (k4.mono (by simp))
 have XB := (boxA_new w2 #[.slice z1 m1 u1, .slice z2 m2 u2] 25).below k4 (by simp)
 have YB := boxA_new (w2.alloc (.cells #[.slice z1 m1 u1, .slice z2 m2 u2] 25)) #[.slice z3 m3 u3, .slice z4 m4 u4] 25
 rw [World.size_alloc] at YB
 have sz : ((w2.alloc (.cells #[.slice z1 m1 u1, .slice z2 m2 u2] 25)).alloc (.cells #[.slice z3 m3 u3, .slice z4 m4 u4] 25)).heap.size = w2.heap.size + 1 + 1 := by simp
 have A8 : AV ((w2.alloc (.cells #[.slice z1 m1 u1, .slice z2 m2 u2] 25)).alloc (.cells #[.slice z3 m3 u3, .slice z4 m4 u4] 25)) w2.heap.size z1 m1 u1 z2 m2 u2 (rowT (xs.take N)) := ⟨XB, ((HV1.out.agree (Agree.of p2 (fun q hq => hq.2))).agree (Agree.of k34 (fun q hq => by have := hq.2; omega))).mono (fun q hq => by have := hq.2; omega)⟩
 have A9 : AV ((w2.alloc (.cells #[.slice z1 m1 u1, .slice z2 m2 u2] 25)).alloc (.cells #[.slice z3 m3 u3, .slice z4 m4 u4] 25)) (w2.heap.size + 1) z3 m3 u3 z4 m4 u4 (rowT (ys.take N)) := ⟨YB, (HV2.out.agree (Agree.of k34 (fun q hq => hq.2))).mono (fun q hq => by have := hq.2; omega)⟩
 have g3 : Below w.heap.size w ((w2.alloc (.cells #[.slice z1 m1 u1, .slice z2 m2 u2] 25)).alloc (.cells #[.slice z3 m3 u3, .slice z4 m4 u4] 25)) := ((kc.trans (p1.mono sc)).trans (p2.mono (by omega))).trans (k34.mono (by omega))
 clear k3 k4 k34 XB YB sz HV1 HV2
 go_upto_region 8 with fail
 generalize hA : (w2.alloc (.cells #[.slice z1 m1 u1, .slice z2 m2 u2] 25)).alloc (.cells #[.slice z3 m3 u3, .slice z4 m4 u4] 25) = v8 at *
 clear hA
 refine wp_region_noPanic ?_
 refine logic_8 (v := v8) (m := M) (U := rowT (List.zipWith (fun a b => a && b) (xs.take N) (ys.take N))) (fun q => ⟨(A8.below q).box.cell 0 rfl, (A8.below q).box.cell 1 rfl, (A9.below q).box.cell 0 rfl, (A9.below q).box.cell 1 rfl⟩) (dy_of (m := M) (Or.inl ⟨rfl, rfl, rfl, rfl⟩) A8 A9 (by (try simp only [List.length_zipWith, List.length_map]); omega) (by (try simp only [List.length_zipWith, List.length_map]); omega) (by (try simp only [List.length_zipWith, List.length_map]); omega) rfl) ?hq8 (fun _ _ _ _ _ h => h)
 intro P10 ds8 ea8 ec8 x10 y10 b10 d10 v9 BA nA HVn kn
 refine NoPanic.normal ?_
 simp only [Exit.then]
 replace A8 := A8.below kn
 replace A9 := A9.below kn
 have A10 : AV v9 P10 x10 1 y10 b10 M d10 (rowT (List.zipWith (fun a b => a && b) (xs.take N) (ys.take N))) := ⟨BA, HVn.out.mono (fun q hq => hq.2)⟩
 replace g3 := g3.trans (kn.mono g3.size)
 clear BA HVn kn nA
 go_upto_region 9 with fail
 refine wp_region_noPanic ?_
 refine logic_9 (v := v9) (m := M) (U := rowT (List.zipWith (fun a b => !(a && b)) (xs.take N) (ys.take N))) (fun q => ⟨(A8.below q).box.cell 0 rfl, (A8.below q).box.cell 1 rfl, (A9.below q).box.cell 0 rfl, (A9.below q).box.cell 1 rfl⟩) (dy_of (m := M) (Or.inr (Or.inr ⟨rfl, rfl, rfl, rfl⟩)) A8 A9 (by (try simp only [List.length_zipWith, List.length_map]); omega) (by (try simp only [List.length_zipWith, List.length_map]); omega) (by (try simp only [List.length_zipWith, List.length_map]); omega) rfl) ?hq9 (fun _ _ _ _ _ h => h)
 intro P12 ds9 ea9 ec9 x12 y12 b12 d12 v10 BA nA HVn kn
 refine NoPanic.normal ?_
 simp only [Exit.then]
 replace A8 := A8.below kn
 replace A9 := A9.below kn
 replace A10 := A10.below kn
 have A12 : AV v10 P12 x12 1 y12 b12 M d12 (rowT (List.zipWith (fun a b => !(a && b)) (xs.take N) (ys.take N))) := ⟨BA, HVn.out.mono (fun q hq => hq.2)⟩
 replace g3 := g3.trans (kn.mono g3.size)
 clear BA HVn kn nA
 go_upto_region 10 with fail
 refine wp_region_noPanic ?_
 refine logic_10 (v := v10) (m := M) (U := rowT (List.zipWith (fun a b => !(a && b)) (xs.take N) (ys.take N))) (fun q => ⟨(A10.below q).box.cell 0 rfl, (A10.below q).box.cell 1 rfl⟩) (mo_of (m := M) A10 (by (try simp only [List.length_zipWith, List.length_map]); omega) (by (try simp only [List.length_zipWith, List.length_map]); omega) (by rw [nand1])) ?hq10 (fun _ _ _ _ _ h => h)
 intro P14 ds10 ea10 ec10 x14 y14 b14 d14 v11 BA nA HVn kn
 refine NoPanic.normal ?_
 simp only [Exit.then]
 replace A8 := A8.below kn
 replace A9 := A9.below kn
 replace A10 := A10.below kn
 replace A12 := A12.below kn
 have A14 : AV v11 P14 x14 1 y14 b14 M d14 (rowT (List.zipWith (fun a b => !(a && b)) (xs.take N) (ys.take N))) := ⟨BA, HVn.out.mono (fun q hq => hq.2)⟩
 replace g3 := g3.trans (kn.mono g3.size)
 clear BA HVn kn nA
 go_upto_region 11 with fail
 refine wp_region_noPanic ?_
 refine logic_11 (v := v11) (m := M) (U := rowT ((xs.take N).map (fun h => !h))) (fun q => ⟨(A8.below q).box.cell 0 rfl, (A8.below q).box.cell 1 rfl⟩) (mo_of (m := M) A8 (by (try simp only [List.length_zipWith, List.length_map]); omega) (by (try simp only [List.length_zipWith, List.length_map]); omega) rfl) ?hq11 (fun _ _ _ _ _ h => h)
 intro P16 ds11 ea11 ec11 x16 y16 b16 d16 v12 BA nA HVn kn
 refine NoPanic.normal ?_
 simp only [Exit.then]
 replace A8 := A8.below kn
 replace A9 := A9.below kn
 replace A10 := A10.below kn
 replace A12 := A12.below kn
 replace A14 := A14.below kn
 have A16 : AV v12 P16 x16 1 y16 b16 M d16 (rowT ((xs.take N).map (fun h => !h))) := ⟨BA, HVn.out.mono (fun q hq => hq.2)⟩
 replace g3 := g3.trans (kn.mono g3.size)
 clear BA HVn kn nA
 go_upto_region 12 with fail
 refine wp_region_noPanic ?_
 refine logic_12 (v := v12) (m := M) (U := rowT ((ys.take N).map (fun h => !h))) (fun q => ⟨(A9.below q).box.cell 0 rfl, (A9.below q).box.cell 1 rfl⟩) (mo_of (m := M) A9 (by (try simp only [List.length_zipWith, List.length_map]); omega) (by (try simp only [List.length_zipWith, List.length_map]); omega) rfl) ?hq12 (fun _ _ _ _ _ h => h)
 intro P18 ds12 ea12 ec12 x18 y18 b18 d18 v13 BA nA HVn kn
 refine NoPanic.normal ?_
 simp only [Exit.then]
 replace A8 := A8.below kn
 replace A9 := A9.below kn
 replace A10 := A10.below kn
 replace A12 := A12.below kn
 replace A14 := A14.below kn
 replace A16 := A16.below kn
 have A18 : AV v13 P18 x18 1 y18 b18 M d18 (rowT ((ys.take N).map (fun h => !h))) := ⟨BA, HVn.out.mono (fun q hq => hq.2)⟩
 replace g3 := g3.trans (kn.mono g3.size)
 clear BA HVn kn nA
 go_upto_region 13 with fail
 refine wp_region_noPanic ?_
 refine logic_13 (v := v13) (m := M) (U := rowT (List.zipWith (fun a b => !(a && b)) (xs.take N) (ys.take N))) (fun q => ⟨(A16.below q).box.cell 0 rfl, (A16.below q).box.cell 1 rfl, (A18.below q).box.cell 0 rfl, (A18.below q).box.cell 1 rfl⟩) (dy_of (m := M) (Or.inr (Or.inl ⟨rfl, rfl, rfl, rfl⟩)) A16 A18 (by (try simp only [List.length_zipWith, List.length_map]); omega) (by (try simp only [List.length_zipWith, List.length_map]); omega) (by (try simp only [List.length_zipWith, List.length_map]); omega) (by rw [nand2])) ?hq13 (fun _ _ _ _ _ h => h)
 intro P20 ds13 ea13 ec13 x20 y20 b20 d20 v14 BA nA HVn kn
 refine NoPanic.normal ?_
 simp only [Exit.then]
 replace A8 := A8.below kn
 replace A9 := A9.below kn
 replace A10 := A10.below kn
 replace A12 := A12.below kn
 replace A14 := A14.below kn
 replace A16 := A16.below kn
 replace A18 := A18.below kn
 have A20 : AV v14 P20 x20 1 y20 b20 M d20 (rowT (List.zipWith (fun a b => !(a && b)) (xs.take N) (ys.take N))) := ⟨BA, HVn.out.mono (fun q hq => hq.2)⟩
 replace g3 := g3.trans (kn.mono g3.size)
 clear BA HVn kn nA
 go_upto_region 14 with fail
 refine wp_region_noPanic ?_
 refine logic_14 (v := v14) (m := M) (U := rowT (xs.take N)) (fun q => ⟨(A16.below q).box.cell 0 rfl, (A16.below q).box.cell 1 rfl⟩) (mo_of (m := M) A16 (by (try simp only [List.length_zipWith, List.length_map]); omega) (by (try simp only [List.length_zipWith, List.length_map]); omega) (by rw [notnot])) ?hq14 (fun _ _ _ _ _ h => h)
 intro P22 ds14 ea14 ec14 x22 y22 b22 d22 v15 BA nA HVn kn
 refine NoPanic.normal ?_
 simp only [Exit.then]
 replace A8 := A8.below kn
 replace A9 := A9.below kn
 replace A10 := A10.below kn
 replace A12 := A12.below kn
 replace A14 := A14.below kn
 replace A16 := A16.below kn
 replace A18 := A18.below kn
 replace A20 := A20.below kn
 have A22 : AV v15 P22 x22 1 y22 b22 M d22 (rowT (xs.take N)) := ⟨BA, HVn.out.mono (fun q hq => hq.2)⟩
 replace g3 := g3.trans (kn.mono g3.size)
 clear BA HVn kn nA
 go_wp2_with fail
 refine (live5_ok _).mono ?_
 rintro e wL ⟨rfl, kL⟩
 replace A8 := A8.below kL
 replace A12 := A12.below kL
 replace A14 := A14.below kL
 replace A20 := A20.below kL
 replace A22 := A22.below kL
 replace g3 := g3.trans (kL.mono g3.size)
 have CS := same_all 1 (· < wL.heap.size) wL _ _ _ _ _ _ _ _ _ _ _ _ _ (fun _ h => h) A12.arr A14.arr
 have p0 := A12.box.cell 0 rfl
 have p1 := A12.box.cell 1 rfl
 have q0 := A14.box.cell 0 rfl
 have q1 := A14.box.cell 1 rfl
 go_wp2_with fail
 clear p0 p1 q0 q1
 refine CS.mono ?_
 rintro e wS0 ⟨rfl, kS0⟩
 clear CS
 replace A8 := A8.below kS0
 replace A12 := A12.below kS0
 replace A14 := A14.below kS0
 replace A20 := A20.below kS0
 replace A22 := A22.below kS0
 replace g3 := g3.trans (kS0.mono g3.size)
 have CS := same_all 1 (· < wS0.heap.size) wS0 _ _ _ _ _ _ _ _ _ _ _ _ _ (fun _ h => h) A20.arr A12.arr
 have p0 := A20.box.cell 0 rfl
 have p1 := A20.box.cell 1 rfl
 have q0 := A12.box.cell 0 rfl
 have q1 := A12.box.cell 1 rfl
 go_wp2_with fail
 clear p0 p1 q0 q1
 refine CS.mono ?_
 rintro e wS1 ⟨rfl, kS1⟩
 clear CS
 replace A8 := A8.below kS1
 replace A12 := A12.below kS1
 replace A14 := A14.below kS1
 replace A20 := A20.below kS1
 replace A22 := A22.below kS1
 replace g3 := g3.trans (kS1.mono g3.size)
 have CS := same_all 1 (· < wS1.heap.size) wS1 _ _ _ _ _ _ _ _ _ _ _ _ _ (fun _ h => h) A22.arr A8.arr
 have p0 := A22.box.cell 0 rfl
 have p1 := A22.box.cell 1 rfl
 have q0 := A8.box.cell 0 rfl
 have q1 := A8.box.cell 1 rfl
 go_wp2_with fail
 clear p0 p1 q0 q1
 refine CS.mono ?_
 rintro e wS2 ⟨rfl, kS2⟩
 clear CS
 replace g3 := g3.trans (kS2.mono g3.size)
 go_wp2
 go_ret
 exact ⟨rfl, g3⟩
end
end Go.Proofs.YtmijanocljmaeaaGreat
