/- The law's live is true. -/
import Derived.Test.YtimfnalpmmkndaaGreatDoorNG
import Derived.Test.YtimfnalpmmkndaaGreatDoorAP
import Derived.Test.YtimfnalpmmkndaaGreatDoorAS
set_option maxRecDepth 100000
set_option maxHeartbeats 16000000
set_option linter.unusedVariables false
set_option linter.unusedSimpArgs false
namespace Go.Proofs.YtimfnalpmmkndaaGreatDoor
open Go.RowKit
attribute [local go_sem] Oper.semAt_some
abbrev intT (q : Int) : Tr := arrT [] [wholeT q]
theorem int_right (q : Int) (h0 : -9223372036854775808 ≤ q) (h1 : q < 9223372036854775808) : (measF 16 (intT q)).isSome = true := by
 rw [meas_scalar (L := 15) (Or.inl rfl) (whole_meas _ h0 h1)]
 rfl
theorem arrIntT (q : Int) (w : World) (h0 : -9223372036854775808 ≤ q) (h1 : q < 9223372036854775808) : Calls Tryz.prog 28 #[.int .i64 q] w fun e w' => ∃ k, e = .returned (.agg #[.slice none 0 0, .slice (some ⟨k, 0, none⟩) 1 1]) ∧ ArV 1 (Fr w.heap.size w'.heap.size) w' (.slice none 0 0) (.slice (some ⟨k, 0, none⟩) 1 1) (intT q) ∧ Below w.heap.size w w' := by
 refine (arrInt_any w q h0 h1).mono ?_
 rintro e w' ⟨b, ns, ds, hW, k, rfl, hN, hk⟩
 refine ⟨k, rfl, ?_, hk⟩
 have := numAt_arv hN
 rw [wholeIs_eq h0 h1 hW.out] at this
 exact this
theorem TabIs.lo {f : Nat} {M : Nat → Prop} {w : World} {tb : Nat} {T : List FrB} (h : TabIs f M w tb T) : ∀ g, M g → tb ≤ g ∧ g < w.heap.size := by
 obtain ⟨_, _, _, _, h⟩ := h
 exact h.lo
theorem BndIs.arr {f : Nat} {D : Nat → Prop} {w : World} {y : BV} {t : Tr} (h : BndIs f D w y (varB t)) : y.n1 = t.ns.length ∧ y.n2 = t.kids.length ∧ ArV (f + 1) D w (.slice y.a1 t.ns.length y.y1) (.slice y.a2 t.kids.length y.y2) t := by
 obtain ⟨⟨x1, y1, x2, y2, b1, z1, b2, z2, b3, z3, b4, z4, rfl, h1, h2⟩, hs⟩ := h
 exact ⟨rfl, rfl, h1⟩
theorem live11_ok (w : World) : Calls Tryz.prog 8 #[] w fun e w' => e = .returned (.bool true) ∧ Below w.heap.size w w' := by
 go_enter Tryz.func8, Tryz.ntmps8
 go_wp2_with fail
 refine (new_any w).mono ?_
 rintro e w0 ⟨rfl, hw0⟩
 have hT0 := tabIs_new 0 w
 have k0 := below_alloc w (.cells #[.slice none 0 0, .map none, .slice none 0 0] 77)
 have s0 : (w.alloc (.cells #[.slice none 0 0, .map none, .slice none 0 0] 77)).heap.size = w.heap.size + 1 := by simp
 rw [← hw0] at hT0 k0 s0
 clear hw0
 obtain ⟨tb, htb⟩ : ∃ tb, w.heap.size = tb := ⟨_, rfl⟩
 rw [htb] at hT0 k0 s0 ⊢
 have HT0 : Hid (TabIs 0 (fun g => g = tb) w0 tb [fb0]) := hT0
 clear hT0
 go_wp2_with fail
 refine (arrIntT 1 w0 (by omega) (by omega)).mono ?_
 rintro e w1 ⟨a1, rfl, hv1, q1⟩
 have HT1 := HT0.out.below q1
 have kb1 : Below tb w w1 := k0.trans (q1.mono (by omega))
 go_wp2_with fail
 refine (setVar_any (t := intT 1) (D := Fr w0.heap.size w1.heap.size) xA (by show 1 ≤ 9223372036854775807; omega) HT1 (by decide) (fun g hg => ⟨hg.2, fun e => by have := hg.1; omega⟩) hv1).mono ?_
 rintro e w2 ⟨rfl, M2, hT2, hK2, hN2⟩
 rw [live_1 (int_right 1 (by omega) (by omega))] at hT2
 have kb2 : Below tb w w2 := kb1.trans (hK2.below (fun g hg => (HT1.lo g hg).1) (by have := kb1.size; omega))
 have e2 := below_alloc w2 (.cells #[.string xA] 9)
 have hT2' := hT2.below e2
 have hR2 : RdS (w2.heap.size + 1) (w2.alloc (.cells #[.string xA] 9)) (.slice (some ⟨w2.heap.size, 0, none⟩) 1 1) [xA] := rdS_new1 w2 xA
 have kb2' : Below tb w (w2.alloc (.cells #[.string xA] 9)) := kb2.trans (e2.mono (by have := kb2.size; omega))
 have HT2 : Hid (TabIs 0 M2 (w2.alloc (.cells #[.string xA] 9)) tb [⟨[], [(xA, varB (intT 1))]⟩]) := hT2'
 clear hT2 hT2' HT1 hK2 hN2 hv1 HT0 q1 kb1 kb2 e2 k0
 go_wp2_with fail
 refine (tPush_any (ss := [xA]) HT2.out hR2 (by simp) (fun x hx => by rw [List.mem_singleton.1 hx]; show 1 ≤ 9223372036854775807; omega)).mono ?_
 rintro e w3 ⟨rfl, M3, hT3, hK3, hN3⟩
 rw [live_2] at hT3
 have kb3 : Below tb w w3 := kb2'.trans (hK3.below (fun g hg => (HT2.out.lo g hg).1) (by have := kb2'.size; omega))
 have HT3 : Hid (TabIs 0 M3 w3 tb [⟨[], [(xA, varB (intT 1))]⟩, ⟨[xA], []⟩]) := hT3
 clear hT3 hK3 hN3 HT2 hR2 kb2'
 go_wp2_with fail
 refine (arrIntT 2 w3 (by omega) (by omega)).mono ?_
 rintro e w4 ⟨a4, rfl, hv4, q4⟩
 have HT4 := HT3.out.below q4
 have kb4 : Below tb w w4 := kb3.trans (q4.mono (by have := kb3.size; omega))
 have hlo3 := HT3.out.lo
 go_wp2_with fail
 refine (setVar_any (t := intT 2) (D := Fr w3.heap.size w4.heap.size) xA (by show 1 ≤ 9223372036854775807; omega) HT4 (by show 1 + (0 + 0) ≤ 1000000; omega) (fun g hg => ⟨hg.2, fun e => by have := hg.1; have := (hlo3 g e).2; omega⟩) hv4).mono ?_
 rintro e w5 ⟨rfl, M5, hT5, hK5, hN5⟩
 rw [live_3 (int_right 2 (by omega) (by omega))] at hT5
 have kb5 : Below tb w w5 := kb4.trans (hK5.below (fun g hg => (HT4.lo g hg).1) (by have := kb4.size; omega))
 have HT5 : Hid (TabIs 0 M5 w5 tb [⟨[], [(xA, varB (intT 1))]⟩, ⟨[xA], [(xA, varB (intT 2))]⟩]) := hT5
 clear hT5 hK5 hN5 HT4 hv4 q4 HT3 kb3 kb4 hlo3
 go_wp2_with fail
 refine (tGet_any xA HT5.out).mono ?_
 rintro e w6 ⟨yb, rfl, hYb, q6⟩
 rw [live_4, (live_7 _).2, cpB_right (int_right 2 (by omega) (by omega))] at hYb
 rw [live_4, (live_7 _).1]
 obtain ⟨hb1, hb2, hbA⟩ := hYb.arr
 have e6 := below_alloc w6 (.cells yb.cells 49)
 have B6 := boxA_new w6 yb.cells 49
 have K6 : Below w5.heap.size w5 (w6.alloc (.cells yb.cells 49)) := q6.trans (e6.mono q6.size)
 have HT6 : Hid (TabIs 0 M5 (w6.alloc (.cells yb.cells 49)) tb [⟨[], [(xA, varB (intT 1))]⟩, ⟨[xA], [(xA, varB (intT 2))]⟩]) := HT5.out.below K6
 have kb6 : Below tb w (w6.alloc (.cells yb.cells 49)) := kb5.trans (K6.mono (by have := kb5.size; omega))
 have HA6 : Hid (ArV 1 (Fr w5.heap.size w6.heap.size) (w6.alloc (.cells yb.cells 49)) (.slice yb.a1 0 yb.y1) (.slice yb.a2 1 yb.y2) (intT 2)) := hbA.agree (fun g hg => e6.block g hg.2)
 have HN5 : Hid (∀ g, M5 g → g < w5.heap.size) := fun g hg => (HT5.out.lo g hg).2
 have HYN : Hid (yb.n1 = 0 ∧ yb.n2 = 1) := ⟨hb1, hb2⟩
 have s6 := K6.size
 have s6' := q6.size
 clear hYb hbA hb1 hb2 HT5 kb5 q6 e6 K6
 go_wp2_with fail
 refine (tPop_any HT6.out (by decide)).mono ?_
 rintro e w7 ⟨rfl, M7, hT7, hK7, hN7⟩
 rw [live_5] at hT7
 have kb7 : Below tb w w7 := kb6.trans (hK7.below (fun g hg => (HT6.out.lo g hg).1) (by have := kb6.size; omega))
 have HA7 : Hid (ArV 1 (Fr w5.heap.size w6.heap.size) w7 (.slice yb.a1 0 yb.y1) (.slice yb.a2 1 yb.y2) (intT 2)) := HA6.out.agree (fun g hg => hK7.block g (by have := hg.2; simp; omega) (fun e => by have := HN5.out g e; have := hg.1; omega))
 have B7 : BoxA w7 w6.heap.size 49 yb.cells := B6.of_blk (hK7.block _ (by simp) (fun e => by have := HN5.out _ e; omega))
 have HT7 : Hid (TabIs 0 M7 w7 tb [⟨[], [(xA, varB (intT 1))]⟩]) := hT7
 have s7 := hK7.size
 rw [World.size_alloc] at s7
 clear hT7 hK7 hN7 HT6 HA6 B6 kb6 HN5
 go_wp2_with fail
 refine (tGet_any xA HT7.out).mono ?_
 rintro e w8 ⟨yc, rfl, hYc, q8⟩
 rw [live_6, (live_7 _).2, cpB_right (int_right 1 (by omega) (by omega))] at hYc
 rw [live_6, (live_7 _).1]
 obtain ⟨hc1, hc2, hcA⟩ := hYc.arr
 have e8 := below_alloc w8 (.cells yc.cells 49)
 have B8 := boxA_new w8 yc.cells 49
 have K8 : Below w7.heap.size w7 (w8.alloc (.cells yc.cells 49)) := q8.trans (e8.mono q8.size)
 have kb8 : Below tb w (w8.alloc (.cells yc.cells 49)) := kb7.trans (K8.mono (by have := kb7.size; omega))
 have Bb8 := B7.below K8 (by omega)
 have HAb : Hid (ArV 1 (fun g => g < (w8.alloc (.cells yc.cells 49)).heap.size) (w8.alloc (.cells yc.cells 49)) (.slice yb.a1 0 yb.y1) (.slice yb.a2 1 yb.y2) (intT 2)) := (HA7.out.agree (fun g hg => K8.block g (by have := hg.2; omega))).mono (fun g hg => by have := hg.2; have := K8.size; omega)
 have HAc : Hid (ArV 1 (fun g => g < (w8.alloc (.cells yc.cells 49)).heap.size) (w8.alloc (.cells yc.cells 49)) (.slice yc.a1 0 yc.y1) (.slice yc.a2 1 yc.y2) (intT 1)) := (hcA.agree (fun g hg => e8.block g hg.2)).mono (fun g hg => by have := hg.2; simp; omega)
 have HYC : Hid (yc.n1 = 0 ∧ yc.n2 = 1) := ⟨hc1, hc2⟩
 clear hYc hcA hc1 hc2 HT7 kb7 q8 e8 K8 HA7 B7
 go_upto_region 10 with fail
 obtain ⟨v0, hv0⟩ : ∃ v0, w8.alloc (.cells yc.cells 49) = v0 := ⟨_, rfl⟩
 rw [hv0] at B8 kb8 Bb8 HAb HAc
 have hv0' := hv0
 dsimp only [BV.cells] at hv0'
 rw [hv0']
 clear hv0 hv0'
 obtain ⟨Bb, hBb⟩ : ∃ Bb, w6.heap.size = Bb := ⟨_, rfl⟩
 obtain ⟨Bc, hBc⟩ : ∃ Bc, w8.heap.size = Bc := ⟨_, rfl⟩
 rw [hBb] at Bb8 ⊢
 rw [hBc] at B8 ⊢
 clear hBb hBc
 obtain ⟨ybk, p1, n1, r1, p2, n2, r2, ys1, ys2, ys3, ys4, yb1, ym1, yz1, yb2, ym2, yz2, yb3, ym3, yz3, yb4, ym4, yz4, ybr, yln⟩ := yb
 obtain ⟨yck, p3, n3, r3, p4, n4, r4, zs1, zs2, zs3, zs4, zb1, zm1, zz1, zb2, zm2, zz2, zb3, zm3, zz3, zb4, zm4, zz4, zbr, zln⟩ := yc
 obtain ⟨e1, e2⟩ := HYN.out
 obtain ⟨e3, e4⟩ := HYC.out
 dsimp only at e1 e2 e3 e4 HAb HAc Bb8 B8
 subst e1 e2 e3 e4
 clear HYN HYC
 refine wp_region_noPanic ?_
 obtain ⟨v, hv⟩ : ∃ v, v0.drew = v := ⟨_, rfl⟩
 have HKv : Hid (Below tb w v) := by subst hv; exact kb8.drew
 have HBb : Hid (∃ xs, BoxA v Bb 49 xs ∧ xs[1]? = some (.slice p1 0 r1) ∧ xs[2]? = some (.slice p2 1 r2)) := by subst hv; exact ⟨_, Bb8, rfl, rfl⟩
 have HBc : Hid (∃ xs, BoxA v Bc 49 xs ∧ xs[1]? = some (.slice p3 0 r3) ∧ xs[2]? = some (.slice p4 1 r4)) := by subst hv; exact ⟨_, B8, rfl, rfl⟩
 have HAB : Hid (∀ V, Below v.heap.size v V → ArV 1 (fun g => g < V.heap.size) V (.slice p1 0 r1) (.slice p2 1 r2) (intT 2)) := by
  subst hv
  exact fun V hV => (HAb.out.agree (w' := V) (fun g hg => hV.block g hg)).mono (fun g hg => Nat.lt_of_lt_of_le hg hV.size)
 have HAC : Hid (∀ V, Below v.heap.size v V → ArV 1 (fun g => g < V.heap.size) V (.slice p3 0 r3) (.slice p4 1 r4) (intT 1)) := by
  subst hv
  exact fun V hV => (HAc.out.agree (w' := V) (fun g hg => hV.block g hg)).mono (fun g hg => Nat.lt_of_lt_of_le hg hV.size)
 have HC : Hid (∀ V, Below v.heap.size v V → (fun V => V.cell? ⟨Bb, 1, none⟩ = some (.slice p1 0 r1) ∧ V.cell? ⟨Bb, 2, none⟩ = some (.slice p2 1 r2) ∧ V.cell? ⟨Bc, 1, none⟩ = some (.slice p3 0 r3) ∧ V.cell? ⟨Bc, 2, none⟩ = some (.slice p4 1 r4)) V) := fun V hV => by
  obtain ⟨xs, h1, h2, h3⟩ := HBb.out
  obtain ⟨ys, h4, h5, h6⟩ := HBc.out
  exact ⟨(h1.below hV h1.lt).cell 1 h2, (h1.below hV h1.lt).cell 2 h3, (h4.below hV h4.lt).cell 1 h5, (h4.below hV h4.lt).cell 2 h6⟩
 have HTBS : Hid (w.heap.size = tb ∧ tb ≤ v.heap.size) := ⟨htb, by have := HKv.out.size; omega⟩
 clear Bb8 B8 HAb HAc kb8 htb s0 s6 s6' s7
 refine wp_region_held_drew (S := (fun V => V.cell? ⟨Bb, 1, none⟩ = some (.slice p1 0 r1) ∧ V.cell? ⟨Bb, 2, none⟩ = some (.slice p2 1 r2) ∧ V.cell? ⟨Bc, 1, none⟩ = some (.slice p3 0 r3) ∧ V.cell? ⟨Bc, 2, none⟩ = some (.slice p4 1 r4))) (by kernel_rfl) (by rw [hv]; exact HC.out v (Below.refl _ _)) (fun hS => ?_)
 rw [hv] at hS ⊢
 clear hv
 refine wpAnyH_take (i := 0) (oi := { dst := some 30, op := Op.move (Operand.tmp 3), type := 4, pos := "law.go:33", after := #[], guard := none }) (v := .bool true) rfl (by kernel_rfl) (by kernel_rfl) (by kernel_rfl) (fun _ _ _ h => h) (Or.inl ⟨by rfl, (by intro w hSw; (try dsimp only at hSw); go_simp)⟩) (by assumption) ?_
 simp only [Act.put, List.setIfInBounds_toArray, List.set_cons_zero, List.set_cons_succ]
 refine wpAnyH_take (i := 1) (oi := { dst := some 31, op := Op.move (Operand.tmp 30), type := 4, pos := "law.go:33", after := #[{ on := 0, ground := Ground.data }], guard := none }) (v := .bool true) rfl (by kernel_rfl) (by kernel_rfl) (by kernel_rfl) (fun _ _ _ h => h) (Or.inl ⟨by rfl, (by intro w hSw; (try dsimp only at hSw); go_simp)⟩) (by assumption) ?_
 simp only [Act.put, List.setIfInBounds_toArray, List.set_cons_zero, List.set_cons_succ]
 refine wpAnyH_take (i := 2) (oi := { dst := some 32, op := Op.move (Operand.tmp 5), type := 4, pos := "law.go:33", after := #[{ on := 1, ground := Ground.guard }], guard := some (1, true) }) (v := .bool true) rfl (by kernel_rfl) (by kernel_rfl) (by kernel_rfl) (fun _ _ _ h => h) (Or.inl ⟨by rfl, (by intro w hSw; (try dsimp only at hSw); go_simp)⟩) (by assumption) ?_
 simp only [Act.put, List.setIfInBounds_toArray, List.set_cons_zero, List.set_cons_succ]
 refine wpAnyH_take (i := 3) (oi := { dst := some 33, op := Op.pick (Operand.tmp 31) (Operand.tmp 32) (Operand.const (Value.bool false)), type := 4, pos := "law.go:33", after := #[{ on := 1, ground := Ground.data }, { on := 2, ground := Ground.data }], guard := none }) (v := .bool true) rfl (by kernel_rfl) (by kernel_rfl) (by kernel_rfl) (fun _ _ _ h => h) (Or.inl ⟨by rfl, (by intro w hSw; (try dsimp only at hSw); go_simp)⟩) (by assumption) ?_
 simp only [Act.put, List.setIfInBounds_toArray, List.set_cons_zero, List.set_cons_succ]
 refine wpAnyH_take (i := 4) (oi := { dst := some 34, op := Op.move (Operand.tmp 33), type := 4, pos := "law.go:33", after := #[{ on := 3, ground := Ground.data }, { on := 1, ground := Ground.chain }], guard := none }) (v := .bool true) rfl (by kernel_rfl) (by kernel_rfl) (by kernel_rfl) (fun _ _ _ h => h) (Or.inl ⟨by rfl, (by intro w hSw; (try dsimp only at hSw); go_simp)⟩) (by assumption) ?_
 simp only [Act.put, List.setIfInBounds_toArray, List.set_cons_zero, List.set_cons_succ]
 refine wpAnyH_take (i := 5) (oi := { dst := some 35, op := Op.fieldAddr 49 (Operand.tmp 2) 1, type := 0, pos := "law.go:33", after := #[{ on := 4, ground := Ground.guard }], guard := some (4, true) }) (v := .pointer (some ⟨Bb, 1, none⟩)) rfl (by kernel_rfl) (by kernel_rfl) (by kernel_rfl) (fun _ _ _ h => h) (Or.inl ⟨by rfl, (by intro w hSw; (try dsimp only at hSw); go_simp)⟩) (by assumption) ?_
 simp only [Act.put, List.setIfInBounds_toArray, List.set_cons_zero, List.set_cons_succ]
 refine wpAnyH_take (i := 6) (oi := { dst := some 36, op := Op.load 29 (Operand.tmp 35), type := 29, pos := "law.go:33", after := #[{ on := 5, ground := Ground.data }, { on := 4, ground := Ground.guard }], guard := some (4, true) }) (v := .agg #[.slice p1 0 r1, .slice p2 1 r2]) rfl (by kernel_rfl) (by kernel_rfl) (by kernel_rfl) (fun _ _ _ h => h) (Or.inl ⟨by rfl, (by intro w hSw; (try dsimp only at hSw); go_simp)⟩) (by assumption) ?_
 simp only [Act.put, List.setIfInBounds_toArray, List.set_cons_zero, List.set_cons_succ]
 refine wpAnyH_ready (rs := [7]) (by kernel_rfl) (by simp) ?_
 refine AllReadyH.cons (o := { dst := some 37, op := Op.call { callee := Callee.value (Operand.func 28), args := #[Operand.const (Value.int IntKind.i64 2)], argTypes := #[3] }, type := 29, pos := "law.go:33", after := #[{ on := 4, ground := Ground.chain }, { on := 4, ground := Ground.guard }], guard := some (4, true) }) rfl (fun K hK => ?_) AllReadyH.nil
 go_simp
 refine (arrIntT 2 v (by omega) (by omega)).mono ?_
 rintro e u1 ⟨z1, rfl, hz1, q1⟩
 have k1 : Below v.heap.size v u1 := q1
 have j1 := HC.out u1 k1
 have HZ1 : Hid (ArV 1 (Fr v.heap.size u1.heap.size) u1 (.slice none 0 0) (.slice (some ⟨z1, 0, none⟩) 1 1) (intT 2)) := hz1
 clear hz1
 go_simp
 refine hK.out _ _ (j1) (fun _ => ?_)
 clear hK K
 refine wpAnyH_ready (rs := [8]) (by kernel_rfl) (by simp) ?_
 refine AllReadyH.cons (o := { dst := some 38, op := Op.call { callee := Callee.value (Operand.func 29), args := #[Operand.tmp 36, Operand.tmp 37], argTypes := #[29, 29] }, type := 4, pos := "law.go:33", after := #[{ on := 6, ground := Ground.data }, { on := 7, ground := Ground.data }, { on := 7, ground := Ground.chain }, { on := 4, ground := Ground.guard }], guard := some (4, true) }) rfl (fun K hK => ?_) AllReadyH.nil
 go_simp
 refine (match_same (D := fun g => g < u1.heap.size) (f := 1) (t := intT 2) (fun _ h => h) (HAB.out u1 k1) (HZ1.out.mono (fun g hg => hg.2)) (int_right 2 (by omega) (by omega))).mono ?_
 rintro e u2 ⟨rfl, q2⟩
 have k2 : Below v.heap.size v u2 := k1.trans (q2.mono k1.size)
 have j2 := HC.out u2 k2
 go_simp
 refine hK.out _ _ (j2) (fun _ => ?_)
 clear hK K
 refine wpAnyH_take (i := 9) (oi := { dst := some 39, op := Op.pick (Operand.tmp 34) (Operand.tmp 38) (Operand.const (Value.bool false)), type := 4, pos := "law.go:33", after := #[{ on := 4, ground := Ground.data }, { on := 8, ground := Ground.data }], guard := none }) (v := .bool true) rfl (by kernel_rfl) (by kernel_rfl) (by kernel_rfl) (fun _ _ _ h => h) (Or.inl ⟨by rfl, (by intro w hSw; (try dsimp only at hSw); go_simp)⟩) (by assumption) ?_
 simp only [Act.put, List.setIfInBounds_toArray, List.set_cons_zero, List.set_cons_succ]
 refine wpAnyH_take (i := 10) (oi := { dst := some 40, op := Op.move (Operand.tmp 39), type := 4, pos := "law.go:33", after := #[{ on := 9, ground := Ground.data }, { on := 8, ground := Ground.chain }], guard := none }) (v := .bool true) rfl (by kernel_rfl) (by kernel_rfl) (by kernel_rfl) (fun _ _ _ h => h) (Or.inl ⟨by rfl, (by intro w hSw; (try dsimp only at hSw); go_simp)⟩) (by assumption) ?_
 simp only [Act.put, List.setIfInBounds_toArray, List.set_cons_zero, List.set_cons_succ]
 refine wpAnyH_take (i := 11) (oi := { dst := some 41, op := Op.fieldAddr 49 (Operand.tmp 4) 1, type := 0, pos := "law.go:33", after := #[{ on := 10, ground := Ground.guard }], guard := some (10, true) }) (v := .pointer (some ⟨Bc, 1, none⟩)) rfl (by kernel_rfl) (by kernel_rfl) (by kernel_rfl) (fun _ _ _ h => h) (Or.inl ⟨by rfl, (by intro w hSw; (try dsimp only at hSw); go_simp)⟩) (by assumption) ?_
 simp only [Act.put, List.setIfInBounds_toArray, List.set_cons_zero, List.set_cons_succ]
 refine wpAnyH_take (i := 12) (oi := { dst := some 42, op := Op.load 29 (Operand.tmp 41), type := 29, pos := "law.go:33", after := #[{ on := 11, ground := Ground.data }, { on := 10, ground := Ground.guard }], guard := some (10, true) }) (v := .agg #[.slice p3 0 r3, .slice p4 1 r4]) rfl (by kernel_rfl) (by kernel_rfl) (by kernel_rfl) (fun _ _ _ h => h) (Or.inl ⟨by rfl, (by intro w hSw; (try dsimp only at hSw); go_simp)⟩) (by assumption) ?_
 simp only [Act.put, List.setIfInBounds_toArray, List.set_cons_zero, List.set_cons_succ]
 refine wpAnyH_ready (rs := [13]) (by kernel_rfl) (by simp) ?_
 refine AllReadyH.cons (o := { dst := some 43, op := Op.call { callee := Callee.value (Operand.func 28), args := #[Operand.const (Value.int IntKind.i64 1)], argTypes := #[3] }, type := 29, pos := "law.go:33", after := #[{ on := 10, ground := Ground.chain }, { on := 10, ground := Ground.guard }], guard := some (10, true) }) rfl (fun K hK => ?_) AllReadyH.nil
 go_simp
 refine (arrIntT 1 u2 (by omega) (by omega)).mono ?_
 rintro e u3 ⟨z3, rfl, hz3, q3⟩
 have k3 : Below v.heap.size v u3 := k2.trans (q3.mono k2.size)
 have j3 := HC.out u3 k3
 have HZ3 : Hid (ArV 1 (Fr u2.heap.size u3.heap.size) u3 (.slice none 0 0) (.slice (some ⟨z3, 0, none⟩) 1 1) (intT 1)) := hz3
 clear hz3
 go_simp
 refine hK.out _ _ (j3) (fun _ => ?_)
 clear hK K
 refine wpAnyH_ready (rs := [14]) (by kernel_rfl) (by simp) ?_
 refine AllReadyH.cons (o := { dst := some 44, op := Op.call { callee := Callee.value (Operand.func 29), args := #[Operand.tmp 42, Operand.tmp 43], argTypes := #[29, 29] }, type := 4, pos := "law.go:33", after := #[{ on := 12, ground := Ground.data }, { on := 13, ground := Ground.data }, { on := 13, ground := Ground.chain }, { on := 10, ground := Ground.guard }], guard := some (10, true) }) rfl (fun K hK => ?_) AllReadyH.nil
 go_simp
 refine (match_same (D := fun g => g < u3.heap.size) (f := 1) (t := intT 1) (fun _ h => h) (HAC.out u3 k3) (HZ3.out.mono (fun g hg => hg.2)) (int_right 1 (by omega) (by omega))).mono ?_
 rintro e u4 ⟨rfl, q4⟩
 have k4 : Below v.heap.size v u4 := k3.trans (q4.mono k3.size)
 have j4 := HC.out u4 k4
 go_simp
 refine hK.out _ _ (j4) (fun _ => ?_)
 clear hK K
 refine wpAnyH_take (i := 15) (oi := { dst := some 45, op := Op.pick (Operand.tmp 40) (Operand.tmp 44) (Operand.const (Value.bool false)), type := 4, pos := "law.go:33", after := #[{ on := 10, ground := Ground.data }, { on := 14, ground := Ground.data }], guard := none }) (v := .bool true) rfl (by kernel_rfl) (by kernel_rfl) (by kernel_rfl) (fun _ _ _ h => h) (Or.inl ⟨by rfl, (by intro w hSw; (try dsimp only at hSw); go_simp)⟩) (by assumption) ?_
 simp only [Act.put, List.setIfInBounds_toArray, List.set_cons_zero, List.set_cons_succ]
 refine wpAnyH_take (i := 16) (oi := { dst := some 0, op := Op.assign (Operand.tmp 45), type := 4, pos := "law.go:33", after := #[{ on := 15, ground := Ground.data }, { on := 14, ground := Ground.chain }, { on := 0, ground := Ground.phase }, { on := 1, ground := Ground.phase }, { on := 2, ground := Ground.phase }, { on := 3, ground := Ground.phase }, { on := 4, ground := Ground.phase }, { on := 5, ground := Ground.phase }, { on := 6, ground := Ground.phase }, { on := 7, ground := Ground.phase }, { on := 8, ground := Ground.phase }, { on := 9, ground := Ground.phase }, { on := 10, ground := Ground.phase }, { on := 11, ground := Ground.phase }, { on := 12, ground := Ground.phase }, { on := 13, ground := Ground.phase }, { on := 14, ground := Ground.phase }, { on := 15, ground := Ground.phase }], guard := none }) (v := .bool true) rfl (by kernel_rfl) (by kernel_rfl) (by kernel_rfl) (fun _ _ _ h => h) (Or.inl ⟨by rfl, (by intro w hSw; (try dsimp only at hSw); go_simp)⟩) (by assumption) ?_
 simp only [Act.put, List.setIfInBounds_toArray, List.set_cons_zero, List.set_cons_succ]
 refine wpAnyH_done (by kernel_rfl) ?_ _
 have HF : Hid (Below w.heap.size w u4) := by
  have := HTBS.out
  unfold Hid
  rw [this.1]
  exact HKv.out.trans (k4.mono this.2)
 clear HKv HBb HBc HAB HAC HC HTBS HZ1 HZ3 j1 j2 j3 j4 k1 k2 k3 k4 q1 q2 q3 q4
 dsimp only [NoPanic]
 go_wp2
 go_ret
 exact ⟨rfl, HF.out⟩
end Go.Proofs.YtimfnalpmmkndaaGreatDoor
