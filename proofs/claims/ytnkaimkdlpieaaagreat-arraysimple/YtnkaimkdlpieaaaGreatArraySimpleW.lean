/- ArraySimple's walk. -/
import Derived.Test.YtnkaimkdlpieaaaGreatKC
import Derived.Test.YtnkaimkdlpieaaaGreatK13
import Derived.Test.YtnkaimkdlpieaaaGreatKA
namespace Go.Proofs.YtnkaimkdlpieaaaGreat
set_option linter.unusedVariables false
set_option linter.unusedSimpArgs false
open Go.RowKit

/-- All blocks but two variables'. -/
def NV (n : Nat) (w : World) : Nat → Prop := fun g => g < w.heap.size ∧ g ≠ n ∧ g ≠ n + 1
set_option maxRecDepth 100000 in
set_option maxHeartbeats 16000000 in
theorem simple_TT {w : World} {b : Bool} {a1 a2 : Option Addr} {c1 c2 : Nat} {ns ds : List Int} {c : Int} {s : ByteArray} (h1 : Rd w.heap.size w (.slice a1 ns.length c1) ns) (h2 : Rd w.heap.size w (.slice a2 ds.length c2) ds) (hs : s.size ≤ 9223372036854775807) (hR : RightP b ns ds) (hC : okR c) :
    Calls Tryz.prog 3 #[.agg #[.bool b, .slice a1 ns.length c1, .slice a2 ds.length c2], .int .i32 c, .string s] w fun e w' => e = .returned (.bool true) ∧ Below w.heap.size w w' := by
  have k0 := below_alloc w (.cells #[.bool b, .slice a1 ns.length c1, .slice a2 ds.length c2] 24)
  have X0 := boxA_new w #[.bool b, .slice a1 ns.length c1, .slice a2 ds.length c2] 24
  have lX := X0.lt
  have H1 : Hid (Rd w.heap.size w (.slice a1 ns.length c1) ns) := h1
  have H2 : Hid (Rd w.heap.size w (.slice a2 ds.length c2) ds) := h2
  have HR : Hid (RightP b ns ds) := hR
  have HC : Hid (okR c) := hC
  have HLv : Hid LiveOK := live3_ok
  clear h1 h2 hR hC
  go_enter Tryz.func3, Tryz.ntmps3
  go_wp2_with fail
  generalize hA : w.alloc (.cells #[.bool b, .slice a1 ns.length c1, .slice a2 ds.length c2] 24) = v at *
  clear hA
  refine (HLv.out _).mono ?_
  rintro e w1 ⟨rfl, q1⟩
  go_wp2_with fail
  refine (text_any s _ hs).mono ?_
  rintro e w2 ⟨tv, rfl, hT, q2⟩
  obtain ⟨z1, m1, u1, z2, m2, u2, rfl, hv2⟩ := text_arv hT
  have HV2 : Hid (ArV 1 (Fr w1.heap.size w2.heap.size) w2 (.slice z1 m1 u1) (.slice z2 m2 u2) (textT (decs s s.size 0))) := hv2
  clear hT hv2
  have k2 : Below v.heap.size v w2 := q1.trans (q2.mono q1.size)
  go_wp2_with fail
  refine (refText3_any s _ hs).mono ?_
  rintro e w3 ⟨z3, m3, u3, z4, m4, u4, rfl, hv3, q3⟩
  have HV3 : Hid (ArV 1 (Fr w2.heap.size w3.heap.size) w3 (.slice z3 m3 u3) (.slice z4 m4 u4) (textT (decs s s.size 0))) := hv3
  clear hv3
  have k3 : Below v.heap.size v w3 := k2.trans (q3.mono k2.size)
  have C4 := same_all 1 (fun g => g < w3.heap.size) w3 _ _ _ _ _ _ _ _ _ _ _ _ _ (fun g hg => hg) (ArV.imp (fun q hq => by have := hq.2; have := q3.size; omega) (fun q hq => q3.block q hq.2) 1 1 _ _ _ (Nat.le_refl _) HV2.out) (HV3.out.mono (fun q hq => hq.2))
  go_wp2_with fail
  refine C4.mono ?_
  rintro e w4 ⟨rfl, q4⟩
  clear C4 HV2 HV3
  have k4 : Below v.heap.size v w4 := k3.trans (q4.mono k3.size)
  have X4 := X0.below k4 lX
  have x0 := X4.cell 0 rfl
  have x1 := X4.cell 1 rfl
  have x2 := X4.cell 2 rfl
  have kw4 : Below w.heap.size w w4 := k0.trans (k4.mono (by omega))
  have C5 := ratSC ((H1.out.below kw4).mono kw4.size) ((H2.out.below kw4).mono kw4.size) (b := b) HR.out
  go_wp2_with fail
  refine C5.mono ?_
  rintro e w5 ⟨kr, rfl, hv5, q5⟩
  clear C5 x0 x1 x2
  have HV5 : Hid (ArV 1 (Fr w4.heap.size w5.heap.size) w5 (.slice none 0 0) (.slice (some ⟨kr, 0, none⟩) 1 1) (arrT [] [numT b ns ds])) := hv5
  clear hv5
  have k5 : Below v.heap.size v w5 := k4.trans (q5.mono k4.size)
  go_wp2_with fail
  refine (charSC HC.out _).mono ?_
  rintro e w6 ⟨kc, rfl, hv6, q6⟩
  have HV6 : Hid (ArV 1 (Fr w5.heap.size w6.heap.size) w6 (.slice none 0 0) (.slice (some ⟨kc, 0, none⟩) 1 1) (arrT [] [charT c])) := hv6
  clear hv6
  have k6 : Below v.heap.size v w6 := k5.trans (q6.mono k5.size)
  have kA := below_alloc w6 (.cells #[.slice none 0 0, .slice (some ⟨kr, 0, none⟩) 1 1] 30)
  have kB := below_alloc (w6.alloc (.cells #[.slice none 0 0, .slice (some ⟨kr, 0, none⟩) 1 1] 30)) (.cells #[.slice none 0 0, .slice (some ⟨kc, 0, none⟩) 1 1] 30)
  have BR := (boxA_new w6 #[.slice none 0 0, .slice (some ⟨kr, 0, none⟩) 1 1] 30).below kB (by simp)
  have BC := boxA_new (w6.alloc (.cells #[.slice none 0 0, .slice (some ⟨kr, 0, none⟩) 1 1] 30)) #[.slice none 0 0, .slice (some ⟨kc, 0, none⟩) 1 1] 30
  rw [World.size_alloc] at BC
  have q7 : Below w6.heap.size w6 _ := kA.trans (kB.mono kA.size)
  go_wp2_with fail
  generalize hA7 : (w6.alloc (.cells #[.slice none 0 0, .slice (some ⟨kr, 0, none⟩) 1 1] 30)).alloc (.cells #[.slice none 0 0, .slice (some ⟨kc, 0, none⟩) 1 1] 30) = w7 at *
  clear hA7 kA kB
  have k7 : Below v.heap.size v w7 := k6.trans (q7.mono k6.size)
  have lR := BR.lt
  have lC := BC.lt
  refine (refIntSC _).mono ?_
  rintro e w8 ⟨kp, rfl, hv8, q8⟩
  have HV8 : Hid (ArV 1 (Fr w7.heap.size w8.heap.size) w8 (.slice none 0 0) (.slice (some ⟨kp, 0, none⟩) 1 1) (arrT [] [wholeT 0])) := hv8
  clear hv8
  go_wp2_with fail
  refine (refIntSC _).mono ?_
  rintro e w9 ⟨kq, rfl, hv9, q9⟩
  have HV9 : Hid (ArV 1 (Fr w8.heap.size w9.heap.size) w9 (.slice none 0 0) (.slice (some ⟨kq, 0, none⟩) 1 1) (arrT [] [wholeT 0])) := hv9
  clear hv9
  have s8 := q8.size
  have s9 := q9.size
  have kA := below_alloc w9 (.cells #[.slice none 0 0, .slice (some ⟨kp, 0, none⟩) 1 1] 30)
  have kB := below_alloc (w9.alloc (.cells #[.slice none 0 0, .slice (some ⟨kp, 0, none⟩) 1 1] 30)) (.cells #[.slice none 0 0, .slice (some ⟨kq, 0, none⟩) 1 1] 30)
  have BP := (boxA_new w9 #[.slice none 0 0, .slice (some ⟨kp, 0, none⟩) 1 1] 30).below kB (by simp)
  have BQ := boxA_new (w9.alloc (.cells #[.slice none 0 0, .slice (some ⟨kp, 0, none⟩) 1 1] 30)) #[.slice none 0 0, .slice (some ⟨kq, 0, none⟩) 1 1] 30
  rw [World.size_alloc] at BQ
  have q10 : Below w9.heap.size w9 _ := kA.trans (kB.mono kA.size)
  have kx : Below v.heap.size v ((w9.alloc (.cells #[.slice none 0 0, .slice (some ⟨kp, 0, none⟩) 1 1] 30)).alloc (.cells #[.slice none 0 0, .slice (some ⟨kq, 0, none⟩) 1 1] 30)) := ((k7.trans (q8.mono k7.size)).trans (q9.mono (by have := k7.size; omega))).trans (q10.mono (by have := k7.size; omega))
  have XX := X0.below kx lX
  have x0 := XX.cell 0 rfl
  have x1 := XX.cell 1 rfl
  have x2 := XX.cell 2 rfl
  go_wp2_with fail
  generalize hA10 : (w9.alloc (.cells #[.slice none 0 0, .slice (some ⟨kp, 0, none⟩) 1 1] 30)).alloc (.cells #[.slice none 0 0, .slice (some ⟨kq, 0, none⟩) 1 1] 30) = w10 at *
  clear hA10 kA kB
  have lP := BP.lt
  have lQ := BQ.lt
  have s10 := q10.size
  have kw10 : Below w.heap.size w w10 := k0.trans (kx.mono (by omega))
  refine (refRight_rat (b := b) ((H1.out.below kw10).mono kw10.size) ((H2.out.below kw10).mono kw10.size)).mono ?_
  rintro e w11 ⟨⟨rr, rfl, hrr⟩, q11⟩
  obtain rfl : rr = true := hrr.2 HR.out
  clear hrr x0 x1 x2
  have s11 := q11.size
  have k11 : Below v.heap.size v w11 := kx.trans (q11.mono kx.size)
  have BP11 := BP.below q11 lP
  have BQ11 := BQ.below q11 lQ
  have XX := X0.below k11 lX
  have x0 := XX.cell 0 rfl
  have x1 := XX.cell 1 rfl
  have x2 := XX.cell 2 rfl
  have kw11 : Below w.heap.size w w11 := k0.trans (k11.mono (by omega))
  have C12 := refNumSC (b := b) ((H1.out.below kw11).mono kw11.size) ((H2.out.below kw11).mono kw11.size) HR.out
  go_wp2_with fail
  refine C12.mono ?_
  rintro e w12a ⟨kn, rfl, hvn, q12a⟩
  clear C12 x0 x1 x2
  have HVP : Hid (ArV 1 (Fr w11.heap.size w12a.heap.size) w12a (.slice none 0 0) (.slice (some ⟨kn, 0, none⟩) 1 1) (arrT [] [numT b ns ds])) := hvn
  clear hvn
  have BP12 := BP11.below q12a (by omega)
  have p0 := BP12.cell 0 rfl
  have p1 := BP12.cell 1 rfl
  have f0 := BP12.frozen 0
  have f1 := BP12.frozen 1
  have BPx := BP12.set2 (.slice none 0 0) (.slice (some ⟨kn, 0, none⟩) 1 1)
  have BQx := boxA_o (boxA_o (BQ11.below q12a (by omega)) (p := ⟨w9.heap.size, 0, none⟩) (show w9.heap.size ≠ w9.heap.size + 1 by omega) (.slice none 0 0)) (p := ⟨w9.heap.size, 1, none⟩) (show w9.heap.size ≠ w9.heap.size + 1 by omega) (.slice (some ⟨kn, 0, none⟩) 1 1)
  obtain ⟨w12, hw12⟩ : ∃ w12, w12 = (w12a.setCell ⟨w9.heap.size, 0, none⟩ (.slice none 0 0)).setCell ⟨w9.heap.size, 1, none⟩ (.slice (some ⟨kn, 0, none⟩) 1 1) := ⟨_, rfl⟩
  have q12 : Below w9.heap.size w9 w12 := by rw [hw12]; exact Below.set2 (((q10.trans (q11.mono s10)).trans (q12a.mono (by omega)))) (Nat.le_refl _) _ _
  have hs12 : w12.heap.size = w12a.heap.size := by rw [hw12, set1_size, set1_size]
  have s12a := q12a.size
  have HPv : Hid (ArV 1 (NV w9.heap.size w12) w12 (.slice none 0 0) (.slice (some ⟨kn, 0, none⟩) 1 1) (arrT [] [numT b ns ds])) := by
    refine ArV.imp (fun q hq => by obtain ⟨g1, g2⟩ := hq; exact ⟨by omega, by omega, by omega⟩) ?_ 1 1 _ _ _ (Nat.le_refl _) HVP.out
    rintro q ⟨g1, g2⟩
    rw [hw12, set1_other (by show ¬ w9.heap.size = q; omega), set1_other (by show ¬ w9.heap.size = q; omega)]
  rw [← hw12] at BPx BQx
  go_wp2_with fail
  rw [← hw12]
  clear hw12 hs12 HVP p0 p1 f0 f1

  have s12 := q12.size
  go_wp2_with fail
  refine (refIsChar_any c _).mono ?_
  rintro e w13 ⟨⟨rc, rfl, hrc⟩, hw13⟩
  obtain rfl := hw13.symm
  obtain rfl : rc = true := hrc.2 HC.out
  clear hrc
  have C14 := refCharSC c w12
  go_wp2_with fail
  refine C14.mono ?_
  rintro e w14a ⟨kn2, rfl, hvn, q14a⟩
  clear C14
  have HVQ : Hid (ArV 1 (Fr w12.heap.size w14a.heap.size) w14a (.slice none 0 0) (.slice (some ⟨kn2, 0, none⟩) 1 1) (arrT [] [charT c])) := hvn
  clear hvn
  have BQ14 := BQx.below q14a BQx.lt
  have t0 := BQ14.cell 0 rfl
  have t1 := BQ14.cell 1 rfl
  have f0 := BQ14.frozen 0
  have f1 := BQ14.frozen 1
  have BQy := BQ14.set2 (.slice none 0 0) (.slice (some ⟨kn2, 0, none⟩) 1 1)
  have BPy := boxA_o (boxA_o (BPx.below q14a BPx.lt) (p := ⟨w9.heap.size + 1, 0, none⟩) (show w9.heap.size + 1 ≠ w9.heap.size by omega) (.slice none 0 0)) (p := ⟨w9.heap.size + 1, 1, none⟩) (show w9.heap.size + 1 ≠ w9.heap.size by omega) (.slice (some ⟨kn2, 0, none⟩) 1 1)
  obtain ⟨w14, hw14⟩ : ∃ w14, w14 = (w14a.setCell ⟨w9.heap.size + 1, 0, none⟩ (.slice none 0 0)).setCell ⟨w9.heap.size + 1, 1, none⟩ (.slice (some ⟨kn2, 0, none⟩) 1 1) := ⟨_, rfl⟩
  have s14a := q14a.size
  have lBQ := BQx.lt
  have q14 : Below w9.heap.size w9 w14 := by rw [hw14]; exact Below.set2 (q12.trans (q14a.mono (by omega))) (by omega) _ _
  have hs14 : w14.heap.size = w14a.heap.size := by rw [hw14, set1_size, set1_size]
  have HQv : Hid (ArV 1 (NV w9.heap.size w14) w14 (.slice none 0 0) (.slice (some ⟨kn2, 0, none⟩) 1 1) (arrT [] [charT c])) := by
    refine ArV.imp (fun q hq => by obtain ⟨g1, g2⟩ := hq; exact ⟨by omega, by omega, by omega⟩) ?_ 1 1 _ _ _ (Nat.le_refl _) HVQ.out
    rintro q ⟨g1, g2⟩
    rw [hw14, set1_other (by show ¬ w9.heap.size + 1 = q; omega), set1_other (by show ¬ w9.heap.size + 1 = q; omega)]
  have HPw : Hid (ArV 1 (NV w9.heap.size w14) w14 (.slice none 0 0) (.slice (some ⟨kn, 0, none⟩) 1 1) (arrT [] [numT b ns ds])) := by
    refine ArV.imp (fun q hq => by obtain ⟨g1, g2, g3⟩ := hq; exact ⟨by omega, g2, g3⟩) ?_ 1 1 _ _ _ (Nat.le_refl _) HPv.out
    rintro q ⟨g1, g2, g3⟩
    rw [hw14, set1_other (by show ¬ w9.heap.size + 1 = q; omega), set1_other (by show ¬ w9.heap.size + 1 = q; omega), q14a.block q g1]
  rw [← hw14] at BPy BQy

  have s14 := q14.size
  have k714 : Below w7.heap.size w7 w14 := (q8.trans (q9.mono s8)).trans (q14.mono (by omega))
  have s6 := q6.size
  have s7 := q7.size
  have s714 := k714.size
  have k614 : Below w6.heap.size w6 w14 := q7.trans (k714.mono s7)
  have k514 : Below w5.heap.size w5 w14 := q6.trans (k614.mono s6)
  have hR5 : ArV 1 (fun g => g < w14.heap.size) w14 (.slice none 0 0) (.slice (some ⟨kr, 0, none⟩) 1 1) (arrT [] [numT b ns ds]) := ArV.imp (fun q hq => by have := hq.2; omega) (fun q hq => k514.block q hq.2) 1 1 _ _ _ (Nat.le_refl _) HV5.out
  have hC6 : ∀ {w' : World}, Below w14.heap.size w14 w' → ArV 1 (fun g => g < w'.heap.size) w' (.slice none 0 0) (.slice (some ⟨kc, 0, none⟩) 1 1) (arrT [] [charT c]) := fun k => ArV.imp (fun q hq => by have := hq.2; have := k.size; omega) (fun q hq => by rw [k.block q (by have := hq.2; omega), k614.block q hq.2]) 1 1 _ _ _ (Nat.le_refl _) HV6.out
  have hQ9 : ∀ {w' : World}, Below w14.heap.size w14 w' → ArV 1 (fun g => g < w'.heap.size) w' (.slice none 0 0) (.slice (some ⟨kn2, 0, none⟩) 1 1) (arrT [] [charT c]) := fun k => ArV.imp (fun q hq => by have := hq.1; have := k.size; omega) (fun q hq => k.block q hq.1) 1 1 _ _ _ (Nat.le_refl _) HQv.out
  have C15 := same_all 1 (fun g => g < w14.heap.size) w14 _ _ _ _ _ _ _ _ _ _ _ _ _ (fun g hg => hg) hR5 (HPw.out.mono (fun q hq => hq.1))
  have BR14 := BR.below k714 lR
  have BC14 := BC.below k714 lC
  have r0 := BR14.cell 0 rfl
  have r1 := BR14.cell 1 rfl
  have p0 := BPy.cell 0 rfl
  have p1 := BPy.cell 1 rfl
  have HC6 : Hid (∀ {w' : World}, Below w14.heap.size w14 w' → ArV 1 (fun g => g < w'.heap.size) w' (.slice none 0 0) (.slice (some ⟨kc, 0, none⟩) 1 1) (arrT [] [charT c])) := hC6
  have HQ9 : Hid (∀ {w' : World}, Below w14.heap.size w14 w' → ArV 1 (fun g => g < w'.heap.size) w' (.slice none 0 0) (.slice (some ⟨kn2, 0, none⟩) 1 1) (arrT [] [charT c])) := hQ9
  clear hR5 hC6 hQ9
  rw [hw14] at r0 r1 p0 p1
  go_wp2_with fail
  rw [← hw14]
  clear hw14
  refine C15.mono ?_
  rintro e w15 ⟨rfl, q15⟩
  clear C15 r0 r1 p0 p1
  have BC15 := BC14.below q15 BC14.lt
  have BQ15 := BQy.below q15 BQy.lt
  have r0 := BC15.cell 0 rfl
  have r1 := BC15.cell 1 rfl
  have p0 := BQ15.cell 0 rfl
  have p1 := BQ15.cell 1 rfl
  have C16 := same_all 1 (fun g => g < w15.heap.size) w15 _ _ _ _ _ _ _ _ _ _ _ _ _ (fun g hg => hg) (HC6.out q15) (HQ9.out q15)
  go_wp2_with fail
  refine C16.mono ?_
  rintro e w16 ⟨rfl, q16⟩
  go_wp2
  go_ret
  have kv14 : Below v.heap.size v w14 := k7.trans (k714.mono k7.size)
  exact ⟨rfl, k0.trans (((kv14.trans (q15.mono kv14.size)).trans (q16.mono (by have := kv14.size; have := q15.size; omega))).mono (by omega))⟩

set_option maxRecDepth 100000 in
set_option maxHeartbeats 16000000 in
theorem simple_TF {w : World} {b : Bool} {a1 a2 : Option Addr} {c1 c2 : Nat} {ns ds : List Int} {c : Int} {s : ByteArray} (h1 : Rd w.heap.size w (.slice a1 ns.length c1) ns) (h2 : Rd w.heap.size w (.slice a2 ds.length c2) ds) (hs : s.size ≤ 9223372036854775807) (hR : RightP b ns ds) (hC : ¬ okR c) :
    Calls Tryz.prog 3 #[.agg #[.bool b, .slice a1 ns.length c1, .slice a2 ds.length c2], .int .i32 c, .string s] w fun e w' => e = .returned (.bool true) ∧ Below w.heap.size w w' := by
  have k0 := below_alloc w (.cells #[.bool b, .slice a1 ns.length c1, .slice a2 ds.length c2] 24)
  have X0 := boxA_new w #[.bool b, .slice a1 ns.length c1, .slice a2 ds.length c2] 24
  have lX := X0.lt
  have H1 : Hid (Rd w.heap.size w (.slice a1 ns.length c1) ns) := h1
  have H2 : Hid (Rd w.heap.size w (.slice a2 ds.length c2) ds) := h2
  have HR : Hid (RightP b ns ds) := hR
  have HC : Hid (¬ okR c) := hC
  have HLv : Hid LiveOK := live3_ok
  clear h1 h2 hR hC
  go_enter Tryz.func3, Tryz.ntmps3
  go_wp2_with fail
  generalize hA : w.alloc (.cells #[.bool b, .slice a1 ns.length c1, .slice a2 ds.length c2] 24) = v at *
  clear hA
  refine (HLv.out _).mono ?_
  rintro e w1 ⟨rfl, q1⟩
  go_wp2_with fail
  refine (text_any s _ hs).mono ?_
  rintro e w2 ⟨tv, rfl, hT, q2⟩
  obtain ⟨z1, m1, u1, z2, m2, u2, rfl, hv2⟩ := text_arv hT
  have HV2 : Hid (ArV 1 (Fr w1.heap.size w2.heap.size) w2 (.slice z1 m1 u1) (.slice z2 m2 u2) (textT (decs s s.size 0))) := hv2
  clear hT hv2
  have k2 : Below v.heap.size v w2 := q1.trans (q2.mono q1.size)
  go_wp2_with fail
  refine (refText3_any s _ hs).mono ?_
  rintro e w3 ⟨z3, m3, u3, z4, m4, u4, rfl, hv3, q3⟩
  have HV3 : Hid (ArV 1 (Fr w2.heap.size w3.heap.size) w3 (.slice z3 m3 u3) (.slice z4 m4 u4) (textT (decs s s.size 0))) := hv3
  clear hv3
  have k3 : Below v.heap.size v w3 := k2.trans (q3.mono k2.size)
  have C4 := same_all 1 (fun g => g < w3.heap.size) w3 _ _ _ _ _ _ _ _ _ _ _ _ _ (fun g hg => hg) (ArV.imp (fun q hq => by have := hq.2; have := q3.size; omega) (fun q hq => q3.block q hq.2) 1 1 _ _ _ (Nat.le_refl _) HV2.out) (HV3.out.mono (fun q hq => hq.2))
  go_wp2_with fail
  refine C4.mono ?_
  rintro e w4 ⟨rfl, q4⟩
  clear C4 HV2 HV3
  have k4 : Below v.heap.size v w4 := k3.trans (q4.mono k3.size)
  have X4 := X0.below k4 lX
  have x0 := X4.cell 0 rfl
  have x1 := X4.cell 1 rfl
  have x2 := X4.cell 2 rfl
  have kw4 : Below w.heap.size w w4 := k0.trans (k4.mono (by omega))
  have C5 := ratSC ((H1.out.below kw4).mono kw4.size) ((H2.out.below kw4).mono kw4.size) (b := b) HR.out
  go_wp2_with fail
  refine C5.mono ?_
  rintro e w5 ⟨kr, rfl, hv5, q5⟩
  clear C5 x0 x1 x2
  have HV5 : Hid (ArV 1 (Fr w4.heap.size w5.heap.size) w5 (.slice none 0 0) (.slice (some ⟨kr, 0, none⟩) 1 1) (arrT [] [numT b ns ds])) := hv5
  clear hv5
  have k5 : Below v.heap.size v w5 := k4.trans (q5.mono k4.size)
  go_wp2_with fail
  refine (charSC_no HC.out _).mono ?_
  rintro e w6 ⟨kc, rfl, hv6, q6⟩
  have HV6 : Hid (ArV 1 (Fr w5.heap.size w6.heap.size) w6 (.slice none 0 0) (.slice (some ⟨kc, 0, none⟩) 1 1) (arrT [] [wholeT 0])) := hv6
  clear hv6
  have k6 : Below v.heap.size v w6 := k5.trans (q6.mono k5.size)
  have kA := below_alloc w6 (.cells #[.slice none 0 0, .slice (some ⟨kr, 0, none⟩) 1 1] 30)
  have kB := below_alloc (w6.alloc (.cells #[.slice none 0 0, .slice (some ⟨kr, 0, none⟩) 1 1] 30)) (.cells #[.slice none 0 0, .slice (some ⟨kc, 0, none⟩) 1 1] 30)
  have BR := (boxA_new w6 #[.slice none 0 0, .slice (some ⟨kr, 0, none⟩) 1 1] 30).below kB (by simp)
  have BC := boxA_new (w6.alloc (.cells #[.slice none 0 0, .slice (some ⟨kr, 0, none⟩) 1 1] 30)) #[.slice none 0 0, .slice (some ⟨kc, 0, none⟩) 1 1] 30
  rw [World.size_alloc] at BC
  have q7 : Below w6.heap.size w6 _ := kA.trans (kB.mono kA.size)
  go_wp2_with fail
  generalize hA7 : (w6.alloc (.cells #[.slice none 0 0, .slice (some ⟨kr, 0, none⟩) 1 1] 30)).alloc (.cells #[.slice none 0 0, .slice (some ⟨kc, 0, none⟩) 1 1] 30) = w7 at *
  clear hA7 kA kB
  have k7 : Below v.heap.size v w7 := k6.trans (q7.mono k6.size)
  have lR := BR.lt
  have lC := BC.lt
  refine (refIntSC _).mono ?_
  rintro e w8 ⟨kp, rfl, hv8, q8⟩
  have HV8 : Hid (ArV 1 (Fr w7.heap.size w8.heap.size) w8 (.slice none 0 0) (.slice (some ⟨kp, 0, none⟩) 1 1) (arrT [] [wholeT 0])) := hv8
  clear hv8
  go_wp2_with fail
  refine (refIntSC _).mono ?_
  rintro e w9 ⟨kq, rfl, hv9, q9⟩
  have HV9 : Hid (ArV 1 (Fr w8.heap.size w9.heap.size) w9 (.slice none 0 0) (.slice (some ⟨kq, 0, none⟩) 1 1) (arrT [] [wholeT 0])) := hv9
  clear hv9
  have s8 := q8.size
  have s9 := q9.size
  have kA := below_alloc w9 (.cells #[.slice none 0 0, .slice (some ⟨kp, 0, none⟩) 1 1] 30)
  have kB := below_alloc (w9.alloc (.cells #[.slice none 0 0, .slice (some ⟨kp, 0, none⟩) 1 1] 30)) (.cells #[.slice none 0 0, .slice (some ⟨kq, 0, none⟩) 1 1] 30)
  have BP := (boxA_new w9 #[.slice none 0 0, .slice (some ⟨kp, 0, none⟩) 1 1] 30).below kB (by simp)
  have BQ := boxA_new (w9.alloc (.cells #[.slice none 0 0, .slice (some ⟨kp, 0, none⟩) 1 1] 30)) #[.slice none 0 0, .slice (some ⟨kq, 0, none⟩) 1 1] 30
  rw [World.size_alloc] at BQ
  have q10 : Below w9.heap.size w9 _ := kA.trans (kB.mono kA.size)
  have kx : Below v.heap.size v ((w9.alloc (.cells #[.slice none 0 0, .slice (some ⟨kp, 0, none⟩) 1 1] 30)).alloc (.cells #[.slice none 0 0, .slice (some ⟨kq, 0, none⟩) 1 1] 30)) := ((k7.trans (q8.mono k7.size)).trans (q9.mono (by have := k7.size; omega))).trans (q10.mono (by have := k7.size; omega))
  have XX := X0.below kx lX
  have x0 := XX.cell 0 rfl
  have x1 := XX.cell 1 rfl
  have x2 := XX.cell 2 rfl
  go_wp2_with fail
  generalize hA10 : (w9.alloc (.cells #[.slice none 0 0, .slice (some ⟨kp, 0, none⟩) 1 1] 30)).alloc (.cells #[.slice none 0 0, .slice (some ⟨kq, 0, none⟩) 1 1] 30) = w10 at *
  clear hA10 kA kB
  have lP := BP.lt
  have lQ := BQ.lt
  have s10 := q10.size
  have kw10 : Below w.heap.size w w10 := k0.trans (kx.mono (by omega))
  refine (refRight_rat (b := b) ((H1.out.below kw10).mono kw10.size) ((H2.out.below kw10).mono kw10.size)).mono ?_
  rintro e w11 ⟨⟨rr, rfl, hrr⟩, q11⟩
  obtain rfl : rr = true := hrr.2 HR.out
  clear hrr x0 x1 x2
  have s11 := q11.size
  have k11 : Below v.heap.size v w11 := kx.trans (q11.mono kx.size)
  have BP11 := BP.below q11 lP
  have BQ11 := BQ.below q11 lQ
  have XX := X0.below k11 lX
  have x0 := XX.cell 0 rfl
  have x1 := XX.cell 1 rfl
  have x2 := XX.cell 2 rfl
  have kw11 : Below w.heap.size w w11 := k0.trans (k11.mono (by omega))
  have C12 := refNumSC (b := b) ((H1.out.below kw11).mono kw11.size) ((H2.out.below kw11).mono kw11.size) HR.out
  go_wp2_with fail
  refine C12.mono ?_
  rintro e w12a ⟨kn, rfl, hvn, q12a⟩
  clear C12 x0 x1 x2
  have HVP : Hid (ArV 1 (Fr w11.heap.size w12a.heap.size) w12a (.slice none 0 0) (.slice (some ⟨kn, 0, none⟩) 1 1) (arrT [] [numT b ns ds])) := hvn
  clear hvn
  have BP12 := BP11.below q12a (by omega)
  have p0 := BP12.cell 0 rfl
  have p1 := BP12.cell 1 rfl
  have f0 := BP12.frozen 0
  have f1 := BP12.frozen 1
  have BPx := BP12.set2 (.slice none 0 0) (.slice (some ⟨kn, 0, none⟩) 1 1)
  have BQx := boxA_o (boxA_o (BQ11.below q12a (by omega)) (p := ⟨w9.heap.size, 0, none⟩) (show w9.heap.size ≠ w9.heap.size + 1 by omega) (.slice none 0 0)) (p := ⟨w9.heap.size, 1, none⟩) (show w9.heap.size ≠ w9.heap.size + 1 by omega) (.slice (some ⟨kn, 0, none⟩) 1 1)
  obtain ⟨w12, hw12⟩ : ∃ w12, w12 = (w12a.setCell ⟨w9.heap.size, 0, none⟩ (.slice none 0 0)).setCell ⟨w9.heap.size, 1, none⟩ (.slice (some ⟨kn, 0, none⟩) 1 1) := ⟨_, rfl⟩
  have q12 : Below w9.heap.size w9 w12 := by rw [hw12]; exact Below.set2 (((q10.trans (q11.mono s10)).trans (q12a.mono (by omega)))) (Nat.le_refl _) _ _
  have hs12 : w12.heap.size = w12a.heap.size := by rw [hw12, set1_size, set1_size]
  have s12a := q12a.size
  have HPv : Hid (ArV 1 (NV w9.heap.size w12) w12 (.slice none 0 0) (.slice (some ⟨kn, 0, none⟩) 1 1) (arrT [] [numT b ns ds])) := by
    refine ArV.imp (fun q hq => by obtain ⟨g1, g2⟩ := hq; exact ⟨by omega, by omega, by omega⟩) ?_ 1 1 _ _ _ (Nat.le_refl _) HVP.out
    rintro q ⟨g1, g2⟩
    rw [hw12, set1_other (by show ¬ w9.heap.size = q; omega), set1_other (by show ¬ w9.heap.size = q; omega)]
  rw [← hw12] at BPx BQx
  go_wp2_with fail
  rw [← hw12]
  clear hw12 hs12 HVP p0 p1 f0 f1

  have s12 := q12.size
  go_wp2_with fail
  refine (refIsChar_any c _).mono ?_
  rintro e w13 ⟨⟨rc, rfl, hrc⟩, hw13⟩
  obtain rfl := hw13.symm
  obtain rfl : rc = false := by
    cases rc with
    | false => rfl
    | true => exact absurd (hrc.1 rfl) HC.out
  clear hrc
  obtain ⟨w14, hw14⟩ : ∃ w14, w14 = w12 := ⟨_, rfl⟩
  have q14 : Below w9.heap.size w9 w14 := by rw [hw14]; exact q12
  have HPw : Hid (ArV 1 (NV w9.heap.size w14) w14 (.slice none 0 0) (.slice (some ⟨kn, 0, none⟩) 1 1) (arrT [] [numT b ns ds])) := by unfold Hid; rw [hw14]; exact HPv.out
  have HQv : Hid (ArV 1 (NV w9.heap.size w14) w14 (.slice none 0 0) (.slice (some ⟨kq, 0, none⟩) 1 1) (arrT [] [wholeT 0])) := by
    refine ArV.imp (fun q hq => by obtain ⟨g1, g2⟩ := hq; have := q14.size; exact ⟨by omega, by omega, by omega⟩) (fun q hq => q14.block q hq.2) 1 1 _ _ _ (Nat.le_refl _) HV9.out
  have BPy := BPx
  have BQy := BQx
  rw [← hw14] at BPy BQy ⊢
  clear hw14

  have s14 := q14.size
  have k714 : Below w7.heap.size w7 w14 := (q8.trans (q9.mono s8)).trans (q14.mono (by omega))
  have s6 := q6.size
  have s7 := q7.size
  have s714 := k714.size
  have k614 : Below w6.heap.size w6 w14 := q7.trans (k714.mono s7)
  have k514 : Below w5.heap.size w5 w14 := q6.trans (k614.mono s6)
  have hR5 : ArV 1 (fun g => g < w14.heap.size) w14 (.slice none 0 0) (.slice (some ⟨kr, 0, none⟩) 1 1) (arrT [] [numT b ns ds]) := ArV.imp (fun q hq => by have := hq.2; omega) (fun q hq => k514.block q hq.2) 1 1 _ _ _ (Nat.le_refl _) HV5.out
  have hC6 : ∀ {w' : World}, Below w14.heap.size w14 w' → ArV 1 (fun g => g < w'.heap.size) w' (.slice none 0 0) (.slice (some ⟨kc, 0, none⟩) 1 1) (arrT [] [wholeT 0]) := fun k => ArV.imp (fun q hq => by have := hq.2; have := k.size; omega) (fun q hq => by rw [k.block q (by have := hq.2; omega), k614.block q hq.2]) 1 1 _ _ _ (Nat.le_refl _) HV6.out
  have hQ9 : ∀ {w' : World}, Below w14.heap.size w14 w' → ArV 1 (fun g => g < w'.heap.size) w' (.slice none 0 0) (.slice (some ⟨kq, 0, none⟩) 1 1) (arrT [] [wholeT 0]) := fun k => ArV.imp (fun q hq => by have := hq.1; have := k.size; omega) (fun q hq => k.block q hq.1) 1 1 _ _ _ (Nat.le_refl _) HQv.out
  have C15 := same_all 1 (fun g => g < w14.heap.size) w14 _ _ _ _ _ _ _ _ _ _ _ _ _ (fun g hg => hg) hR5 (HPw.out.mono (fun q hq => hq.1))
  have BR14 := BR.below k714 lR
  have BC14 := BC.below k714 lC
  have r0 := BR14.cell 0 rfl
  have r1 := BR14.cell 1 rfl
  have p0 := BPy.cell 0 rfl
  have p1 := BPy.cell 1 rfl
  have HC6 : Hid (∀ {w' : World}, Below w14.heap.size w14 w' → ArV 1 (fun g => g < w'.heap.size) w' (.slice none 0 0) (.slice (some ⟨kc, 0, none⟩) 1 1) (arrT [] [wholeT 0])) := hC6
  have HQ9 : Hid (∀ {w' : World}, Below w14.heap.size w14 w' → ArV 1 (fun g => g < w'.heap.size) w' (.slice none 0 0) (.slice (some ⟨kq, 0, none⟩) 1 1) (arrT [] [wholeT 0])) := hQ9
  clear hR5 hC6 hQ9
  go_wp2_with fail
  refine C15.mono ?_
  rintro e w15 ⟨rfl, q15⟩
  clear C15 r0 r1 p0 p1
  have BC15 := BC14.below q15 BC14.lt
  have BQ15 := BQy.below q15 BQy.lt
  have r0 := BC15.cell 0 rfl
  have r1 := BC15.cell 1 rfl
  have p0 := BQ15.cell 0 rfl
  have p1 := BQ15.cell 1 rfl
  have C16 := same_all 1 (fun g => g < w15.heap.size) w15 _ _ _ _ _ _ _ _ _ _ _ _ _ (fun g hg => hg) (HC6.out q15) (HQ9.out q15)
  go_wp2_with fail
  refine C16.mono ?_
  rintro e w16 ⟨rfl, q16⟩
  go_wp2
  go_ret
  have kv14 : Below v.heap.size v w14 := k7.trans (k714.mono k7.size)
  exact ⟨rfl, k0.trans (((kv14.trans (q15.mono kv14.size)).trans (q16.mono (by have := kv14.size; have := q15.size; omega))).mono (by omega))⟩

set_option maxRecDepth 100000 in
set_option maxHeartbeats 16000000 in
theorem simple_FT {w : World} {b : Bool} {a1 a2 : Option Addr} {c1 c2 : Nat} {ns ds : List Int} {c : Int} {s : ByteArray} (h1 : Rd w.heap.size w (.slice a1 ns.length c1) ns) (h2 : Rd w.heap.size w (.slice a2 ds.length c2) ds) (hs : s.size ≤ 9223372036854775807) (hR : ¬ RightP b ns ds) (hC : okR c) :
    Calls Tryz.prog 3 #[.agg #[.bool b, .slice a1 ns.length c1, .slice a2 ds.length c2], .int .i32 c, .string s] w fun e w' => e = .returned (.bool true) ∧ Below w.heap.size w w' := by
  have k0 := below_alloc w (.cells #[.bool b, .slice a1 ns.length c1, .slice a2 ds.length c2] 24)
  have X0 := boxA_new w #[.bool b, .slice a1 ns.length c1, .slice a2 ds.length c2] 24
  have lX := X0.lt
  have H1 : Hid (Rd w.heap.size w (.slice a1 ns.length c1) ns) := h1
  have H2 : Hid (Rd w.heap.size w (.slice a2 ds.length c2) ds) := h2
  have HR : Hid (¬ RightP b ns ds) := hR
  have HC : Hid (okR c) := hC
  have HLv : Hid LiveOK := live3_ok
  clear h1 h2 hR hC
  go_enter Tryz.func3, Tryz.ntmps3
  go_wp2_with fail
  generalize hA : w.alloc (.cells #[.bool b, .slice a1 ns.length c1, .slice a2 ds.length c2] 24) = v at *
  clear hA
  refine (HLv.out _).mono ?_
  rintro e w1 ⟨rfl, q1⟩
  go_wp2_with fail
  refine (text_any s _ hs).mono ?_
  rintro e w2 ⟨tv, rfl, hT, q2⟩
  obtain ⟨z1, m1, u1, z2, m2, u2, rfl, hv2⟩ := text_arv hT
  have HV2 : Hid (ArV 1 (Fr w1.heap.size w2.heap.size) w2 (.slice z1 m1 u1) (.slice z2 m2 u2) (textT (decs s s.size 0))) := hv2
  clear hT hv2
  have k2 : Below v.heap.size v w2 := q1.trans (q2.mono q1.size)
  go_wp2_with fail
  refine (refText3_any s _ hs).mono ?_
  rintro e w3 ⟨z3, m3, u3, z4, m4, u4, rfl, hv3, q3⟩
  have HV3 : Hid (ArV 1 (Fr w2.heap.size w3.heap.size) w3 (.slice z3 m3 u3) (.slice z4 m4 u4) (textT (decs s s.size 0))) := hv3
  clear hv3
  have k3 : Below v.heap.size v w3 := k2.trans (q3.mono k2.size)
  have C4 := same_all 1 (fun g => g < w3.heap.size) w3 _ _ _ _ _ _ _ _ _ _ _ _ _ (fun g hg => hg) (ArV.imp (fun q hq => by have := hq.2; have := q3.size; omega) (fun q hq => q3.block q hq.2) 1 1 _ _ _ (Nat.le_refl _) HV2.out) (HV3.out.mono (fun q hq => hq.2))
  go_wp2_with fail
  refine C4.mono ?_
  rintro e w4 ⟨rfl, q4⟩
  clear C4 HV2 HV3
  have k4 : Below v.heap.size v w4 := k3.trans (q4.mono k3.size)
  have X4 := X0.below k4 lX
  have x0 := X4.cell 0 rfl
  have x1 := X4.cell 1 rfl
  have x2 := X4.cell 2 rfl
  have kw4 : Below w.heap.size w w4 := k0.trans (k4.mono (by omega))
  have C5 := ratSC_no ((H1.out.below kw4).mono kw4.size) ((H2.out.below kw4).mono kw4.size) (b := b) HR.out
  go_wp2_with fail
  refine C5.mono ?_
  rintro e w5 ⟨kr, rfl, hv5, q5⟩
  clear C5 x0 x1 x2
  have HV5 : Hid (ArV 1 (Fr w4.heap.size w5.heap.size) w5 (.slice none 0 0) (.slice (some ⟨kr, 0, none⟩) 1 1) (arrT [] [wholeT 0])) := hv5
  clear hv5
  have k5 : Below v.heap.size v w5 := k4.trans (q5.mono k4.size)
  go_wp2_with fail
  refine (charSC HC.out _).mono ?_
  rintro e w6 ⟨kc, rfl, hv6, q6⟩
  have HV6 : Hid (ArV 1 (Fr w5.heap.size w6.heap.size) w6 (.slice none 0 0) (.slice (some ⟨kc, 0, none⟩) 1 1) (arrT [] [charT c])) := hv6
  clear hv6
  have k6 : Below v.heap.size v w6 := k5.trans (q6.mono k5.size)
  have kA := below_alloc w6 (.cells #[.slice none 0 0, .slice (some ⟨kr, 0, none⟩) 1 1] 30)
  have kB := below_alloc (w6.alloc (.cells #[.slice none 0 0, .slice (some ⟨kr, 0, none⟩) 1 1] 30)) (.cells #[.slice none 0 0, .slice (some ⟨kc, 0, none⟩) 1 1] 30)
  have BR := (boxA_new w6 #[.slice none 0 0, .slice (some ⟨kr, 0, none⟩) 1 1] 30).below kB (by simp)
  have BC := boxA_new (w6.alloc (.cells #[.slice none 0 0, .slice (some ⟨kr, 0, none⟩) 1 1] 30)) #[.slice none 0 0, .slice (some ⟨kc, 0, none⟩) 1 1] 30
  rw [World.size_alloc] at BC
  have q7 : Below w6.heap.size w6 _ := kA.trans (kB.mono kA.size)
  go_wp2_with fail
  generalize hA7 : (w6.alloc (.cells #[.slice none 0 0, .slice (some ⟨kr, 0, none⟩) 1 1] 30)).alloc (.cells #[.slice none 0 0, .slice (some ⟨kc, 0, none⟩) 1 1] 30) = w7 at *
  clear hA7 kA kB
  have k7 : Below v.heap.size v w7 := k6.trans (q7.mono k6.size)
  have lR := BR.lt
  have lC := BC.lt
  refine (refIntSC _).mono ?_
  rintro e w8 ⟨kp, rfl, hv8, q8⟩
  have HV8 : Hid (ArV 1 (Fr w7.heap.size w8.heap.size) w8 (.slice none 0 0) (.slice (some ⟨kp, 0, none⟩) 1 1) (arrT [] [wholeT 0])) := hv8
  clear hv8
  go_wp2_with fail
  refine (refIntSC _).mono ?_
  rintro e w9 ⟨kq, rfl, hv9, q9⟩
  have HV9 : Hid (ArV 1 (Fr w8.heap.size w9.heap.size) w9 (.slice none 0 0) (.slice (some ⟨kq, 0, none⟩) 1 1) (arrT [] [wholeT 0])) := hv9
  clear hv9
  have s8 := q8.size
  have s9 := q9.size
  have kA := below_alloc w9 (.cells #[.slice none 0 0, .slice (some ⟨kp, 0, none⟩) 1 1] 30)
  have kB := below_alloc (w9.alloc (.cells #[.slice none 0 0, .slice (some ⟨kp, 0, none⟩) 1 1] 30)) (.cells #[.slice none 0 0, .slice (some ⟨kq, 0, none⟩) 1 1] 30)
  have BP := (boxA_new w9 #[.slice none 0 0, .slice (some ⟨kp, 0, none⟩) 1 1] 30).below kB (by simp)
  have BQ := boxA_new (w9.alloc (.cells #[.slice none 0 0, .slice (some ⟨kp, 0, none⟩) 1 1] 30)) #[.slice none 0 0, .slice (some ⟨kq, 0, none⟩) 1 1] 30
  rw [World.size_alloc] at BQ
  have q10 : Below w9.heap.size w9 _ := kA.trans (kB.mono kA.size)
  have kx : Below v.heap.size v ((w9.alloc (.cells #[.slice none 0 0, .slice (some ⟨kp, 0, none⟩) 1 1] 30)).alloc (.cells #[.slice none 0 0, .slice (some ⟨kq, 0, none⟩) 1 1] 30)) := ((k7.trans (q8.mono k7.size)).trans (q9.mono (by have := k7.size; omega))).trans (q10.mono (by have := k7.size; omega))
  have XX := X0.below kx lX
  have x0 := XX.cell 0 rfl
  have x1 := XX.cell 1 rfl
  have x2 := XX.cell 2 rfl
  go_wp2_with fail
  generalize hA10 : (w9.alloc (.cells #[.slice none 0 0, .slice (some ⟨kp, 0, none⟩) 1 1] 30)).alloc (.cells #[.slice none 0 0, .slice (some ⟨kq, 0, none⟩) 1 1] 30) = w10 at *
  clear hA10 kA kB
  have lP := BP.lt
  have lQ := BQ.lt
  have s10 := q10.size
  have kw10 : Below w.heap.size w w10 := k0.trans (kx.mono (by omega))
  refine (refRight_rat (b := b) ((H1.out.below kw10).mono kw10.size) ((H2.out.below kw10).mono kw10.size)).mono ?_
  rintro e w11 ⟨⟨rr, rfl, hrr⟩, q11⟩
  obtain rfl : rr = false := by
    cases rr with
    | false => rfl
    | true => exact absurd (hrr.1 rfl) HR.out
  clear hrr x0 x1 x2
  have s11 := q11.size
  have k11 : Below v.heap.size v w11 := kx.trans (q11.mono kx.size)
  have BP11 := BP.below q11 lP
  have BQ11 := BQ.below q11 lQ
  obtain ⟨w12, hw12⟩ : ∃ w12, w12 = w11 := ⟨_, rfl⟩
  have q12 : Below w9.heap.size w9 w12 := by rw [hw12]; exact q10.trans (q11.mono s10)
  have HPv : Hid (ArV 1 (NV w9.heap.size w12) w12 (.slice none 0 0) (.slice (some ⟨kp, 0, none⟩) 1 1) (arrT [] [wholeT 0])) := by
    unfold Hid
    rw [hw12]
    exact ArV.imp (fun q hq => by obtain ⟨g1, g2⟩ := hq; exact ⟨by omega, by omega, by omega⟩) (fun q hq => by rw [q11.block q (by have := hq.2; omega), q10.block q (by have := hq.2; omega), q9.block q hq.2]) 1 1 _ _ _ (Nat.le_refl _) HV8.out
  have BPx := BP11
  have BQx := BQ11
  rw [← hw12] at BPx BQx ⊢
  clear hw12

  have s12 := q12.size
  go_wp2_with fail
  refine (refIsChar_any c _).mono ?_
  rintro e w13 ⟨⟨rc, rfl, hrc⟩, hw13⟩
  obtain rfl := hw13.symm
  obtain rfl : rc = true := hrc.2 HC.out
  clear hrc
  have C14 := refCharSC c w12
  go_wp2_with fail
  refine C14.mono ?_
  rintro e w14a ⟨kn2, rfl, hvn, q14a⟩
  clear C14
  have HVQ : Hid (ArV 1 (Fr w12.heap.size w14a.heap.size) w14a (.slice none 0 0) (.slice (some ⟨kn2, 0, none⟩) 1 1) (arrT [] [charT c])) := hvn
  clear hvn
  have BQ14 := BQx.below q14a BQx.lt
  have t0 := BQ14.cell 0 rfl
  have t1 := BQ14.cell 1 rfl
  have f0 := BQ14.frozen 0
  have f1 := BQ14.frozen 1
  have BQy := BQ14.set2 (.slice none 0 0) (.slice (some ⟨kn2, 0, none⟩) 1 1)
  have BPy := boxA_o (boxA_o (BPx.below q14a BPx.lt) (p := ⟨w9.heap.size + 1, 0, none⟩) (show w9.heap.size + 1 ≠ w9.heap.size by omega) (.slice none 0 0)) (p := ⟨w9.heap.size + 1, 1, none⟩) (show w9.heap.size + 1 ≠ w9.heap.size by omega) (.slice (some ⟨kn2, 0, none⟩) 1 1)
  obtain ⟨w14, hw14⟩ : ∃ w14, w14 = (w14a.setCell ⟨w9.heap.size + 1, 0, none⟩ (.slice none 0 0)).setCell ⟨w9.heap.size + 1, 1, none⟩ (.slice (some ⟨kn2, 0, none⟩) 1 1) := ⟨_, rfl⟩
  have s14a := q14a.size
  have lBQ := BQx.lt
  have q14 : Below w9.heap.size w9 w14 := by rw [hw14]; exact Below.set2 (q12.trans (q14a.mono (by omega))) (by omega) _ _
  have hs14 : w14.heap.size = w14a.heap.size := by rw [hw14, set1_size, set1_size]
  have HQv : Hid (ArV 1 (NV w9.heap.size w14) w14 (.slice none 0 0) (.slice (some ⟨kn2, 0, none⟩) 1 1) (arrT [] [charT c])) := by
    refine ArV.imp (fun q hq => by obtain ⟨g1, g2⟩ := hq; exact ⟨by omega, by omega, by omega⟩) ?_ 1 1 _ _ _ (Nat.le_refl _) HVQ.out
    rintro q ⟨g1, g2⟩
    rw [hw14, set1_other (by show ¬ w9.heap.size + 1 = q; omega), set1_other (by show ¬ w9.heap.size + 1 = q; omega)]
  have HPw : Hid (ArV 1 (NV w9.heap.size w14) w14 (.slice none 0 0) (.slice (some ⟨kp, 0, none⟩) 1 1) (arrT [] [wholeT 0])) := by
    refine ArV.imp (fun q hq => by obtain ⟨g1, g2, g3⟩ := hq; exact ⟨by omega, g2, g3⟩) ?_ 1 1 _ _ _ (Nat.le_refl _) HPv.out
    rintro q ⟨g1, g2, g3⟩
    rw [hw14, set1_other (by show ¬ w9.heap.size + 1 = q; omega), set1_other (by show ¬ w9.heap.size + 1 = q; omega), q14a.block q g1]
  rw [← hw14] at BPy BQy

  have s14 := q14.size
  have k714 : Below w7.heap.size w7 w14 := (q8.trans (q9.mono s8)).trans (q14.mono (by omega))
  have s6 := q6.size
  have s7 := q7.size
  have s714 := k714.size
  have k614 : Below w6.heap.size w6 w14 := q7.trans (k714.mono s7)
  have k514 : Below w5.heap.size w5 w14 := q6.trans (k614.mono s6)
  have hR5 : ArV 1 (fun g => g < w14.heap.size) w14 (.slice none 0 0) (.slice (some ⟨kr, 0, none⟩) 1 1) (arrT [] [wholeT 0]) := ArV.imp (fun q hq => by have := hq.2; omega) (fun q hq => k514.block q hq.2) 1 1 _ _ _ (Nat.le_refl _) HV5.out
  have hC6 : ∀ {w' : World}, Below w14.heap.size w14 w' → ArV 1 (fun g => g < w'.heap.size) w' (.slice none 0 0) (.slice (some ⟨kc, 0, none⟩) 1 1) (arrT [] [charT c]) := fun k => ArV.imp (fun q hq => by have := hq.2; have := k.size; omega) (fun q hq => by rw [k.block q (by have := hq.2; omega), k614.block q hq.2]) 1 1 _ _ _ (Nat.le_refl _) HV6.out
  have hQ9 : ∀ {w' : World}, Below w14.heap.size w14 w' → ArV 1 (fun g => g < w'.heap.size) w' (.slice none 0 0) (.slice (some ⟨kn2, 0, none⟩) 1 1) (arrT [] [charT c]) := fun k => ArV.imp (fun q hq => by have := hq.1; have := k.size; omega) (fun q hq => k.block q hq.1) 1 1 _ _ _ (Nat.le_refl _) HQv.out
  have C15 := same_all 1 (fun g => g < w14.heap.size) w14 _ _ _ _ _ _ _ _ _ _ _ _ _ (fun g hg => hg) hR5 (HPw.out.mono (fun q hq => hq.1))
  have BR14 := BR.below k714 lR
  have BC14 := BC.below k714 lC
  have r0 := BR14.cell 0 rfl
  have r1 := BR14.cell 1 rfl
  have p0 := BPy.cell 0 rfl
  have p1 := BPy.cell 1 rfl
  have HC6 : Hid (∀ {w' : World}, Below w14.heap.size w14 w' → ArV 1 (fun g => g < w'.heap.size) w' (.slice none 0 0) (.slice (some ⟨kc, 0, none⟩) 1 1) (arrT [] [charT c])) := hC6
  have HQ9 : Hid (∀ {w' : World}, Below w14.heap.size w14 w' → ArV 1 (fun g => g < w'.heap.size) w' (.slice none 0 0) (.slice (some ⟨kn2, 0, none⟩) 1 1) (arrT [] [charT c])) := hQ9
  clear hR5 hC6 hQ9
  rw [hw14] at r0 r1 p0 p1
  go_wp2_with fail
  rw [← hw14]
  clear hw14
  refine C15.mono ?_
  rintro e w15 ⟨rfl, q15⟩
  clear C15 r0 r1 p0 p1
  have BC15 := BC14.below q15 BC14.lt
  have BQ15 := BQy.below q15 BQy.lt
  have r0 := BC15.cell 0 rfl
  have r1 := BC15.cell 1 rfl
  have p0 := BQ15.cell 0 rfl
  have p1 := BQ15.cell 1 rfl
  have C16 := same_all 1 (fun g => g < w15.heap.size) w15 _ _ _ _ _ _ _ _ _ _ _ _ _ (fun g hg => hg) (HC6.out q15) (HQ9.out q15)
  go_wp2_with fail
  refine C16.mono ?_
  rintro e w16 ⟨rfl, q16⟩
  go_wp2
  go_ret
  have kv14 : Below v.heap.size v w14 := k7.trans (k714.mono k7.size)
  exact ⟨rfl, k0.trans (((kv14.trans (q15.mono kv14.size)).trans (q16.mono (by have := kv14.size; have := q15.size; omega))).mono (by omega))⟩

set_option maxRecDepth 100000 in
set_option maxHeartbeats 16000000 in
theorem simple_FF {w : World} {b : Bool} {a1 a2 : Option Addr} {c1 c2 : Nat} {ns ds : List Int} {c : Int} {s : ByteArray} (h1 : Rd w.heap.size w (.slice a1 ns.length c1) ns) (h2 : Rd w.heap.size w (.slice a2 ds.length c2) ds) (hs : s.size ≤ 9223372036854775807) (hR : ¬ RightP b ns ds) (hC : ¬ okR c) :
    Calls Tryz.prog 3 #[.agg #[.bool b, .slice a1 ns.length c1, .slice a2 ds.length c2], .int .i32 c, .string s] w fun e w' => e = .returned (.bool true) ∧ Below w.heap.size w w' := by
  have k0 := below_alloc w (.cells #[.bool b, .slice a1 ns.length c1, .slice a2 ds.length c2] 24)
  have X0 := boxA_new w #[.bool b, .slice a1 ns.length c1, .slice a2 ds.length c2] 24
  have lX := X0.lt
  have H1 : Hid (Rd w.heap.size w (.slice a1 ns.length c1) ns) := h1
  have H2 : Hid (Rd w.heap.size w (.slice a2 ds.length c2) ds) := h2
  have HR : Hid (¬ RightP b ns ds) := hR
  have HC : Hid (¬ okR c) := hC
  have HLv : Hid LiveOK := live3_ok
  clear h1 h2 hR hC
  go_enter Tryz.func3, Tryz.ntmps3
  go_wp2_with fail
  generalize hA : w.alloc (.cells #[.bool b, .slice a1 ns.length c1, .slice a2 ds.length c2] 24) = v at *
  clear hA
  refine (HLv.out _).mono ?_
  rintro e w1 ⟨rfl, q1⟩
  go_wp2_with fail
  refine (text_any s _ hs).mono ?_
  rintro e w2 ⟨tv, rfl, hT, q2⟩
  obtain ⟨z1, m1, u1, z2, m2, u2, rfl, hv2⟩ := text_arv hT
  have HV2 : Hid (ArV 1 (Fr w1.heap.size w2.heap.size) w2 (.slice z1 m1 u1) (.slice z2 m2 u2) (textT (decs s s.size 0))) := hv2
  clear hT hv2
  have k2 : Below v.heap.size v w2 := q1.trans (q2.mono q1.size)
  go_wp2_with fail
  refine (refText3_any s _ hs).mono ?_
  rintro e w3 ⟨z3, m3, u3, z4, m4, u4, rfl, hv3, q3⟩
  have HV3 : Hid (ArV 1 (Fr w2.heap.size w3.heap.size) w3 (.slice z3 m3 u3) (.slice z4 m4 u4) (textT (decs s s.size 0))) := hv3
  clear hv3
  have k3 : Below v.heap.size v w3 := k2.trans (q3.mono k2.size)
  have C4 := same_all 1 (fun g => g < w3.heap.size) w3 _ _ _ _ _ _ _ _ _ _ _ _ _ (fun g hg => hg) (ArV.imp (fun q hq => by have := hq.2; have := q3.size; omega) (fun q hq => q3.block q hq.2) 1 1 _ _ _ (Nat.le_refl _) HV2.out) (HV3.out.mono (fun q hq => hq.2))
  go_wp2_with fail
  refine C4.mono ?_
  rintro e w4 ⟨rfl, q4⟩
  clear C4 HV2 HV3
  have k4 : Below v.heap.size v w4 := k3.trans (q4.mono k3.size)
  have X4 := X0.below k4 lX
  have x0 := X4.cell 0 rfl
  have x1 := X4.cell 1 rfl
  have x2 := X4.cell 2 rfl
  have kw4 : Below w.heap.size w w4 := k0.trans (k4.mono (by omega))
  have C5 := ratSC_no ((H1.out.below kw4).mono kw4.size) ((H2.out.below kw4).mono kw4.size) (b := b) HR.out
  go_wp2_with fail
  refine C5.mono ?_
  rintro e w5 ⟨kr, rfl, hv5, q5⟩
  clear C5 x0 x1 x2
  have HV5 : Hid (ArV 1 (Fr w4.heap.size w5.heap.size) w5 (.slice none 0 0) (.slice (some ⟨kr, 0, none⟩) 1 1) (arrT [] [wholeT 0])) := hv5
  clear hv5
  have k5 : Below v.heap.size v w5 := k4.trans (q5.mono k4.size)
  go_wp2_with fail
  refine (charSC_no HC.out _).mono ?_
  rintro e w6 ⟨kc, rfl, hv6, q6⟩
  have HV6 : Hid (ArV 1 (Fr w5.heap.size w6.heap.size) w6 (.slice none 0 0) (.slice (some ⟨kc, 0, none⟩) 1 1) (arrT [] [wholeT 0])) := hv6
  clear hv6
  have k6 : Below v.heap.size v w6 := k5.trans (q6.mono k5.size)
  have kA := below_alloc w6 (.cells #[.slice none 0 0, .slice (some ⟨kr, 0, none⟩) 1 1] 30)
  have kB := below_alloc (w6.alloc (.cells #[.slice none 0 0, .slice (some ⟨kr, 0, none⟩) 1 1] 30)) (.cells #[.slice none 0 0, .slice (some ⟨kc, 0, none⟩) 1 1] 30)
  have BR := (boxA_new w6 #[.slice none 0 0, .slice (some ⟨kr, 0, none⟩) 1 1] 30).below kB (by simp)
  have BC := boxA_new (w6.alloc (.cells #[.slice none 0 0, .slice (some ⟨kr, 0, none⟩) 1 1] 30)) #[.slice none 0 0, .slice (some ⟨kc, 0, none⟩) 1 1] 30
  rw [World.size_alloc] at BC
  have q7 : Below w6.heap.size w6 _ := kA.trans (kB.mono kA.size)
  go_wp2_with fail
  generalize hA7 : (w6.alloc (.cells #[.slice none 0 0, .slice (some ⟨kr, 0, none⟩) 1 1] 30)).alloc (.cells #[.slice none 0 0, .slice (some ⟨kc, 0, none⟩) 1 1] 30) = w7 at *
  clear hA7 kA kB
  have k7 : Below v.heap.size v w7 := k6.trans (q7.mono k6.size)
  have lR := BR.lt
  have lC := BC.lt
  refine (refIntSC _).mono ?_
  rintro e w8 ⟨kp, rfl, hv8, q8⟩
  have HV8 : Hid (ArV 1 (Fr w7.heap.size w8.heap.size) w8 (.slice none 0 0) (.slice (some ⟨kp, 0, none⟩) 1 1) (arrT [] [wholeT 0])) := hv8
  clear hv8
  go_wp2_with fail
  refine (refIntSC _).mono ?_
  rintro e w9 ⟨kq, rfl, hv9, q9⟩
  have HV9 : Hid (ArV 1 (Fr w8.heap.size w9.heap.size) w9 (.slice none 0 0) (.slice (some ⟨kq, 0, none⟩) 1 1) (arrT [] [wholeT 0])) := hv9
  clear hv9
  have s8 := q8.size
  have s9 := q9.size
  have kA := below_alloc w9 (.cells #[.slice none 0 0, .slice (some ⟨kp, 0, none⟩) 1 1] 30)
  have kB := below_alloc (w9.alloc (.cells #[.slice none 0 0, .slice (some ⟨kp, 0, none⟩) 1 1] 30)) (.cells #[.slice none 0 0, .slice (some ⟨kq, 0, none⟩) 1 1] 30)
  have BP := (boxA_new w9 #[.slice none 0 0, .slice (some ⟨kp, 0, none⟩) 1 1] 30).below kB (by simp)
  have BQ := boxA_new (w9.alloc (.cells #[.slice none 0 0, .slice (some ⟨kp, 0, none⟩) 1 1] 30)) #[.slice none 0 0, .slice (some ⟨kq, 0, none⟩) 1 1] 30
  rw [World.size_alloc] at BQ
  have q10 : Below w9.heap.size w9 _ := kA.trans (kB.mono kA.size)
  have kx : Below v.heap.size v ((w9.alloc (.cells #[.slice none 0 0, .slice (some ⟨kp, 0, none⟩) 1 1] 30)).alloc (.cells #[.slice none 0 0, .slice (some ⟨kq, 0, none⟩) 1 1] 30)) := ((k7.trans (q8.mono k7.size)).trans (q9.mono (by have := k7.size; omega))).trans (q10.mono (by have := k7.size; omega))
  have XX := X0.below kx lX
  have x0 := XX.cell 0 rfl
  have x1 := XX.cell 1 rfl
  have x2 := XX.cell 2 rfl
  go_wp2_with fail
  generalize hA10 : (w9.alloc (.cells #[.slice none 0 0, .slice (some ⟨kp, 0, none⟩) 1 1] 30)).alloc (.cells #[.slice none 0 0, .slice (some ⟨kq, 0, none⟩) 1 1] 30) = w10 at *
  clear hA10 kA kB
  have lP := BP.lt
  have lQ := BQ.lt
  have s10 := q10.size
  have kw10 : Below w.heap.size w w10 := k0.trans (kx.mono (by omega))
  refine (refRight_rat (b := b) ((H1.out.below kw10).mono kw10.size) ((H2.out.below kw10).mono kw10.size)).mono ?_
  rintro e w11 ⟨⟨rr, rfl, hrr⟩, q11⟩
  obtain rfl : rr = false := by
    cases rr with
    | false => rfl
    | true => exact absurd (hrr.1 rfl) HR.out
  clear hrr x0 x1 x2
  have s11 := q11.size
  have k11 : Below v.heap.size v w11 := kx.trans (q11.mono kx.size)
  have BP11 := BP.below q11 lP
  have BQ11 := BQ.below q11 lQ
  obtain ⟨w12, hw12⟩ : ∃ w12, w12 = w11 := ⟨_, rfl⟩
  have q12 : Below w9.heap.size w9 w12 := by rw [hw12]; exact q10.trans (q11.mono s10)
  have HPv : Hid (ArV 1 (NV w9.heap.size w12) w12 (.slice none 0 0) (.slice (some ⟨kp, 0, none⟩) 1 1) (arrT [] [wholeT 0])) := by
    unfold Hid
    rw [hw12]
    exact ArV.imp (fun q hq => by obtain ⟨g1, g2⟩ := hq; exact ⟨by omega, by omega, by omega⟩) (fun q hq => by rw [q11.block q (by have := hq.2; omega), q10.block q (by have := hq.2; omega), q9.block q hq.2]) 1 1 _ _ _ (Nat.le_refl _) HV8.out
  have BPx := BP11
  have BQx := BQ11
  rw [← hw12] at BPx BQx ⊢
  clear hw12

  have s12 := q12.size
  go_wp2_with fail
  refine (refIsChar_any c _).mono ?_
  rintro e w13 ⟨⟨rc, rfl, hrc⟩, hw13⟩
  obtain rfl := hw13.symm
  obtain rfl : rc = false := by
    cases rc with
    | false => rfl
    | true => exact absurd (hrc.1 rfl) HC.out
  clear hrc
  obtain ⟨w14, hw14⟩ : ∃ w14, w14 = w12 := ⟨_, rfl⟩
  have q14 : Below w9.heap.size w9 w14 := by rw [hw14]; exact q12
  have HPw : Hid (ArV 1 (NV w9.heap.size w14) w14 (.slice none 0 0) (.slice (some ⟨kp, 0, none⟩) 1 1) (arrT [] [wholeT 0])) := by unfold Hid; rw [hw14]; exact HPv.out
  have HQv : Hid (ArV 1 (NV w9.heap.size w14) w14 (.slice none 0 0) (.slice (some ⟨kq, 0, none⟩) 1 1) (arrT [] [wholeT 0])) := by
    refine ArV.imp (fun q hq => by obtain ⟨g1, g2⟩ := hq; have := q14.size; exact ⟨by omega, by omega, by omega⟩) (fun q hq => q14.block q hq.2) 1 1 _ _ _ (Nat.le_refl _) HV9.out
  have BPy := BPx
  have BQy := BQx
  rw [← hw14] at BPy BQy ⊢
  clear hw14

  have s14 := q14.size
  have k714 : Below w7.heap.size w7 w14 := (q8.trans (q9.mono s8)).trans (q14.mono (by omega))
  have s6 := q6.size
  have s7 := q7.size
  have s714 := k714.size
  have k614 : Below w6.heap.size w6 w14 := q7.trans (k714.mono s7)
  have k514 : Below w5.heap.size w5 w14 := q6.trans (k614.mono s6)
  have hR5 : ArV 1 (fun g => g < w14.heap.size) w14 (.slice none 0 0) (.slice (some ⟨kr, 0, none⟩) 1 1) (arrT [] [wholeT 0]) := ArV.imp (fun q hq => by have := hq.2; omega) (fun q hq => k514.block q hq.2) 1 1 _ _ _ (Nat.le_refl _) HV5.out
  have hC6 : ∀ {w' : World}, Below w14.heap.size w14 w' → ArV 1 (fun g => g < w'.heap.size) w' (.slice none 0 0) (.slice (some ⟨kc, 0, none⟩) 1 1) (arrT [] [wholeT 0]) := fun k => ArV.imp (fun q hq => by have := hq.2; have := k.size; omega) (fun q hq => by rw [k.block q (by have := hq.2; omega), k614.block q hq.2]) 1 1 _ _ _ (Nat.le_refl _) HV6.out
  have hQ9 : ∀ {w' : World}, Below w14.heap.size w14 w' → ArV 1 (fun g => g < w'.heap.size) w' (.slice none 0 0) (.slice (some ⟨kq, 0, none⟩) 1 1) (arrT [] [wholeT 0]) := fun k => ArV.imp (fun q hq => by have := hq.1; have := k.size; omega) (fun q hq => k.block q hq.1) 1 1 _ _ _ (Nat.le_refl _) HQv.out
  have C15 := same_all 1 (fun g => g < w14.heap.size) w14 _ _ _ _ _ _ _ _ _ _ _ _ _ (fun g hg => hg) hR5 (HPw.out.mono (fun q hq => hq.1))
  have BR14 := BR.below k714 lR
  have BC14 := BC.below k714 lC
  have r0 := BR14.cell 0 rfl
  have r1 := BR14.cell 1 rfl
  have p0 := BPy.cell 0 rfl
  have p1 := BPy.cell 1 rfl
  have HC6 : Hid (∀ {w' : World}, Below w14.heap.size w14 w' → ArV 1 (fun g => g < w'.heap.size) w' (.slice none 0 0) (.slice (some ⟨kc, 0, none⟩) 1 1) (arrT [] [wholeT 0])) := hC6
  have HQ9 : Hid (∀ {w' : World}, Below w14.heap.size w14 w' → ArV 1 (fun g => g < w'.heap.size) w' (.slice none 0 0) (.slice (some ⟨kq, 0, none⟩) 1 1) (arrT [] [wholeT 0])) := hQ9
  clear hR5 hC6 hQ9
  go_wp2_with fail
  refine C15.mono ?_
  rintro e w15 ⟨rfl, q15⟩
  clear C15 r0 r1 p0 p1
  have BC15 := BC14.below q15 BC14.lt
  have BQ15 := BQy.below q15 BQy.lt
  have r0 := BC15.cell 0 rfl
  have r1 := BC15.cell 1 rfl
  have p0 := BQ15.cell 0 rfl
  have p1 := BQ15.cell 1 rfl
  have C16 := same_all 1 (fun g => g < w15.heap.size) w15 _ _ _ _ _ _ _ _ _ _ _ _ _ (fun g hg => hg) (HC6.out q15) (HQ9.out q15)
  go_wp2_with fail
  refine C16.mono ?_
  rintro e w16 ⟨rfl, q16⟩
  go_wp2
  go_ret
  have kv14 : Below v.heap.size v w14 := k7.trans (k714.mono k7.size)
  exact ⟨rfl, k0.trans (((kv14.trans (q15.mono kv14.size)).trans (q16.mono (by have := kv14.size; have := q15.size; omega))).mono (by omega))⟩

theorem arraySimple_walk {w : World} {b : Bool} {a1 a2 : Option Addr} {c1 c2 : Nat} {ns ds : List Int} {c : Int} {s : ByteArray} (h1 : Rd w.heap.size w (.slice a1 ns.length c1) ns) (h2 : Rd w.heap.size w (.slice a2 ds.length c2) ds) (hs : s.size ≤ 9223372036854775807) :
    Calls Tryz.prog 3 #[.agg #[.bool b, .slice a1 ns.length c1, .slice a2 ds.length c2], .int .i32 c, .string s] w fun e w' => e = .returned (.bool true) ∧ Below w.heap.size w w' := by
  by_cases hR : RightP b ns ds
  · by_cases hC : okR c
    · exact simple_TT h1 h2 hs hR hC
    · exact simple_TF h1 h2 hs hR hC
  · by_cases hC : okR c
    · exact simple_FT h1 h2 hs hR hC
    · exact simple_FF h1 h2 hs hR hC
end Go.Proofs.YtnkaimkdlpieaaaGreat
