/- ScalarTurns: eight functions of two numbers are the same both ways round, through any two arrays. -/
import Derived.Test.YtmijanocljmaeaaGreatPR
import Derived.Test.YtmijanocljmaeaaGreatPA
import Derived.Test.YtmijanocljmaeaaGreatKS5
import Derived.Test.YtmijanocljmaeaaGreatM4
namespace Go.Proofs.YtmijanocljmaeaaGreat
set_option linter.unusedVariables false
set_option linter.unusedSimpArgs false
open Go.RowKit

/-- The eight glyphs, by their number. -/
theorem turn_pick (n : Int) (h0 : 0 ≤ n) (h1 : n ≤ 255) : ∃ (d : Dy) (i : Nat), Hid (TurnOK d) ∧ n % 8 = (i : Int) ∧ i < 8 ∧ ([43, 215, 61, 8800, 8743, 8744, 8968, 8970] : List Int)[i]? = some d.gl := by
 obtain ⟨i, hi⟩ : ∃ i : Nat, n % 8 = (i : Int) := ⟨(n % 8).toNat, by omega⟩
 have hi8 : i < 8 := by omega
 match i, hi8 with
 | 0, _ => exact ⟨plusD, 0, turn_plus, hi, by omega, rfl⟩
 | 1, _ => exact ⟨timesD, 1, turn_times, hi, by omega, rfl⟩
 | 2, _ => exact ⟨eqD, 2, turn_eq, hi, by omega, rfl⟩
 | 3, _ => exact ⟨neD, 3, turn_ne, hi, by omega, rfl⟩
 | 4, _ => exact ⟨_, 4, turn_and, hi, by omega, rfl⟩
 | 5, _ => exact ⟨_, 5, turn_or, hi, by omega, rfl⟩
 | 6, _ => exact ⟨maxD, 6, turn_max, hi, by omega, rfl⟩
 | 7, _ => exact ⟨minD, 7, turn_min, hi, by omega, rfl⟩
theorem pick_val {i : Nat} {g : Int} (hi : i < 8) (h : ([43, 215, 61, 8800, 8743, 8744, 8968, 8970] : List Int)[i]? = some g) (hl : i < ([Value.int IntKind.i32 43, Value.int IntKind.i32 215, Value.int IntKind.i32 61, Value.int IntKind.i32 8800, Value.int IntKind.i32 8743, Value.int IntKind.i32 8744, Value.int IntKind.i32 8968, Value.int IntKind.i32 8970] : List Value).length) :
    ([Value.int IntKind.i32 43, Value.int IntKind.i32 215, Value.int IntKind.i32 61, Value.int IntKind.i32 8800, Value.int IntKind.i32 8743, Value.int IntKind.i32 8744, Value.int IntKind.i32 8968, Value.int IntKind.i32 8970] : List Value)[i]'hl = .int .i32 g := by
 match i, hi with
 | 0, _ | 1, _ | 2, _ | 3, _ | 4, _ | 5, _ | 6, _ | 7, _ => cases h; rfl
section
variable {v : World} {D : Nat → Prop} {f : Nat} {x1 x2 x3 x4 : Option Addr} {n1 y1 n2 y2 n3 y3 n4 y4 : Nat} {t s : Tr} {d : Dy} {er : Int} {U : Tr}
theorem turn_kt (hT : TurnOK d) (hD : ∀ g, D g → g < v.heap.size) (va : ArV f D v (.slice x1 n1 y1) (.slice x2 n2 y2) t) (vb : ArV f D v (.slice x3 n3 y3) (.slice x4 n4 y4) s) (he : dyadS d t s = (er, U)) :
    Hid (∀ u (ds0 : List Int) ea ec, Hid (ds0 = [(1 : Int)]) → Rd u.heap.size u (.slice ea ds0.length ec) ds0 → Below v.heap.size v u → Calls Tryz.prog 7 #[.agg #[.int .i64 1, .bool false, .slice none 0 0, .slice ea ds0.length ec, .int .i64 0], .int .i32 d.gl, .agg #[.slice x1 n1 y1, .slice x2 n2 y2], .agg #[.slice x3 n3 y3, .slice x4 n4 y4]] u fun e w' => (∃ x5 n5 y5 b3 m d3, e = .returned (.tuple #[.agg #[.slice x5 n5 y5, .slice b3 m d3], .int .i64 er]) ∧ OutR u.heap.size w' er U x5 n5 y5 b3 m d3) ∧ Below u.heap.size u w') := by
 intro u ds0 ea ec hd hr k
 have hd' : ds0 = [1] := hd
 subst hd'
 have DI : D5In D f u false none ea [] [1] 0 ec x1 x2 x3 x4 n1 y1 n2 y2 n3 y3 n4 y4 t s := ⟨fun g h => Nat.lt_of_lt_of_le (hD g h) k.size, va.agree (Agree.of k hD), vb.agree (Agree.of k hD), (own_nilT 0 u).rd, hr, one_right9⟩
 refine (hT.call (io := 1) (pp := 0) DI).mono ?_
 rintro e w' ⟨⟨x5, n5, y5, b3, m3, d3, rfl, h1, h2⟩, kb⟩
 rw [he] at h1 h2 ⊢
 exact ⟨⟨x5, n5, y5, b3, m3, d3, rfl, h1, h2⟩, kb⟩
theorem arV_zero {D : Nat → Prop} {w : World} : ArV 1 D w (.slice none 0 0) (.slice none 0 0) (arrT [] []) :=
 ⟨⟨(fun x h => by cases h), none, 0, rfl, Nat.le_refl _, by omega, fun _ => rfl, Or.inl rfl⟩, ⟨none, 0, rfl, Nat.le_refl _, by simp, fun _ => rfl, Or.inl rfl⟩⟩
/-- Two variables that hold what was told, twice: the same array. -/
theorem outs_same {w : World} {er : Int} {U : Tr} {Z1 Z2 : Nat} {w1 w2 : World} {a1 a2 b1 b2 : Option Addr} {p1 q1 p2 q2 p3 q3 p4 q4 : Nat} (h1 : OutR Z1 w1 er U a1 p1 q1 a2 p2 q2) (h2 : OutR Z2 w2 er U b1 p3 q3 b2 p4 q4) (k1 : Below w1.heap.size w1 w) (k2 : Below w2.heap.size w2 w) :
    Calls Tryz.prog 10 #[.agg #[.slice a1 p1 q1, .slice a2 p2 q2], .agg #[.slice b1 p3 q3, .slice b2 p4 q4]] w fun e w' => e = .returned (.bool true) ∧ Below w.heap.size w w' := by
 by_cases he : er = 0
 · exact same_all 16 (· < w.heap.size) w _ _ _ _ _ _ _ _ _ _ _ _ _ (fun _ h => h) (((h1.1 he).agree (Agree.of k1 (fun q hq => hq.2))).mono (fun q hq => Nat.lt_of_lt_of_le hq.2 k1.size)) (((h2.1 he).agree (Agree.of k2 (fun q hq => hq.2))).mono (fun q hq => Nat.lt_of_lt_of_le hq.2 k2.size))
 · obtain ⟨rfl, rfl, rfl, rfl, rfl, rfl⟩ := h1.2 he
   obtain ⟨rfl, rfl, rfl, rfl, rfl, rfl⟩ := h2.2 he
   exact same_all 1 (· < w.heap.size) w _ _ _ _ _ _ _ _ _ _ _ _ (arrT [] []) (fun _ h => h) arV_zero arV_zero
end
section
variable {w : World} {D : Nat → Prop} {f : Nat} {x1 x2 x3 x4 : Option Addr} {n1 y1 n2 y2 n3 y3 n4 y4 : Nat} {t s : Tr} {n : Int}
set_option maxRecDepth 100000 in
set_option maxHeartbeats 16000000 in
theorem scalarTurns_walk (h0 : 0 ≤ n) (h1 : n ≤ 255) (hD : ∀ g, D g → g < w.heap.size) (va : ArV f D w (.slice x1 n1 y1) (.slice x2 n2 y2) t) (vb : ArV f D w (.slice x3 n3 y3) (.slice x4 n4 y4) s) :
    Calls Tryz.prog 3 #[.int .u8 n, .agg #[.slice x1 n1 y1, .slice x2 n2 y2, .slice x3 n3 y3, .slice x4 n4 y4]] w fun e w' => e = .returned (.bool true) ∧ Below w.heap.size w w' := by
 obtain ⟨d, i, hT, hi, hi8, hgl⟩ := turn_pick n h0 h1
 have VA : Hid (ArV f D w (.slice x1 n1 y1) (.slice x2 n2 y2) t) := va
 have VB : Hid (ArV f D w (.slice x3 n3 y3) (.slice x4 n4 y4) s) := vb
 clear va vb
 go_enter Tryz.func3, Tryz.ntmps3
 go_upto_region 2 with fail
 have hL : ∀ h, ([Value.int IntKind.i32 43, Value.int IntKind.i32 215, Value.int IntKind.i32 61, Value.int IntKind.i32 8800, Value.int IntKind.i32 8743, Value.int IntKind.i32 8744, Value.int IntKind.i32 8968, Value.int IntKind.i32 8970] : List Value)[i]'h = .int .i32 d.gl := pick_val hi8 hgl
 simp only [hL]
 clear hL hgl hi hi8
 have k1 := below_alloc w (.cells #[.slice x1 n1 y1, .slice x2 n2 y2, .slice x3 n3 y3, .slice x4 n4 y4] 26)
 have BB := boxA_new w #[.slice x1 n1 y1, .slice x2 n2 y2, .slice x3 n3 y3, .slice x4 n4 y4] 26
 obtain ⟨w1, hw1⟩ : ∃ w1, w.alloc (.cells #[.slice x1 n1 y1, .slice x2 n2 y2, .slice x3 n3 y3, .slice x4 n4 y4] 26) = w1 := ⟨_, rfl⟩
 rw [hw1] at k1 BB
 simp only [hw1]
 have s1 : w.heap.size < w1.heap.size := BB.lt
 clear hw1
 generalize hW : w1.alloc _ = v at *
 have k2 : Below w1.heap.size w1 v := by rw [← hW]; exact below_alloc w1 _
 clear hW
 have g3 : Below w.heap.size w v := k1.trans (k2.mono k1.size)
 replace BB := BB.below k2 s1
 have hDv : ∀ g, D g → g < v.heap.size := fun g h => Nat.lt_of_lt_of_le (hD g h) g3.size
 have VA2 : Hid (ArV f D v (.slice x1 n1 y1) (.slice x2 n2 y2) t) := VA.out.agree (Agree.of g3 hD)
 have VB2 : Hid (ArV f D v (.slice x3 n3 y3) (.slice x4 n4 y4) s) := VB.out.agree (Agree.of g3 hD)
 have sB : w.heap.size < v.heap.size := BB.lt
 clear k1 k2 VA VB s1
 obtain ⟨er, U, he⟩ : ∃ er U, dyadS d t s = (er, U) := ⟨_, _, rfl⟩
 have HE : Hid (dyadS d t s = (er, U)) := he
 have HF : Hid (dyadS d s t = (er, U)) := (dyadS_comm hT.out.comm s t).trans he
 clear he
 refine wp_region_noPanic ?_
 refine turns_2 (v := v) (kk := w.heap.size) (er := er) (U := U) (gl := d.gl) (fun q => ⟨(BB.below q sB).cell 0 rfl, (BB.below q sB).cell 1 rfl, (BB.below q sB).cell 2 rfl, (BB.below q sB).cell 3 rfl⟩) (turn_kt hT.out hDv VA2.out VB2.out HE.out) ?hq2 (fun _ _ _ _ _ h => h)
 intro A ds0 ea ec x5 n5 y5 b3 m d3 v2 BA nA HO ko
 refine NoPanic.normal ?_
 simp only [Exit.then]
 replace BB := BB.below ko sB
 replace g3 := g3.trans (ko.mono g3.size)
 have hDv2 : ∀ g, D g → g < v2.heap.size := fun g h => Nat.lt_of_lt_of_le (hDv g h) ko.size
 replace VA2 : Hid (ArV f D v2 (.slice x1 n1 y1) (.slice x2 n2 y2) t) := VA2.out.agree (Agree.of ko hDv)
 replace VB2 : Hid (ArV f D v2 (.slice x3 n3 y3) (.slice x4 n4 y4) s) := VB2.out.agree (Agree.of ko hDv)
 have sB2 : w.heap.size < v2.heap.size := BB.lt
 clear ko nA hDv
 go_upto_region 3 with fail
 refine wp_region_noPanic ?_
 refine turns_3 (v := v2) (kk := w.heap.size) (er := er) (U := U) (gl := d.gl) (fun q => ⟨(BB.below q sB2).cell 0 rfl, (BB.below q sB2).cell 1 rfl, (BB.below q sB2).cell 2 rfl, (BB.below q sB2).cell 3 rfl⟩) (turn_kt hT.out hDv2 VB2.out VA2.out HF.out) ?hq3 (fun _ _ _ _ _ h => h)
 intro A' ds1 ea1 ec1 z5 m5 u5 z3 m6 u3 v3 BA' nA' HO' ko
 refine NoPanic.normal ?_
 simp only [Exit.then]
 replace BA := BA.below ko BA.lt
 replace g3 := g3.trans (ko.mono g3.size)
 clear VA2 VB2 HE HF hDv2 BB sB sB2 hT
 go_wp2_with fail
 refine (live5_ok _).mono ?_
 rintro e wL ⟨rfl, kL⟩
 have k23 := ko.trans (kL.mono ko.size)
 replace BA := BA.below kL BA.lt
 replace BA' := BA'.below kL BA'.lt
 replace g3 := g3.trans (kL.mono g3.size)
 have CS := outs_same HO.out HO'.out k23 kL
 have p0 := BA.cell 0 rfl
 have p1 := BA.cell 1 rfl
 have q0 := BA'.cell 0 rfl
 have q1 := BA'.cell 1 rfl
 go_wp2_with fail
 clear p0 p1 q0 q1
 refine CS.mono ?_
 rintro e wS ⟨rfl, kS⟩
 clear CS
 replace g3 := g3.trans (kS.mono g3.size)
 go_wp2
 go_ret
 exact ⟨rfl, g3⟩
end
end Go.Proofs.YtmijanocljmaeaaGreat
