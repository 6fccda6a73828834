/- ScalarZero: what is added to its negative is what is multiplied by 0. -/
import Derived.Test.YtmijanocljmaeaaGreatQ3
import Derived.Test.YtmijanocljmaeaaGreatQ2
import Derived.Test.YtmijanocljmaeaaGreatPT
namespace Go.Proofs.YtmijanocljmaeaaGreat
set_option linter.unusedVariables false
set_option linter.unusedSimpArgs false
open Go.RowKit

section
variable {v : World} {D : Nat → Prop} {f : Nat} {x1 x2 : Option Addr} {n1 y1 n2 y2 : Nat} {t : Tr} {er : Int} {U : Tr}
theorem zero_ktM (hD : ∀ g, D g → g < v.heap.size) (va : ArV f D v (.slice x1 n1 y1) (.slice x2 n2 y2) t) (he : monS minusM t = (er, U)) :
    Hid (∀ u (ds0 : List Int) ea ec, Hid (ds0 = [(1 : Int)]) → Rd u.heap.size u (.slice ea ds0.length ec) ds0 → Below v.heap.size v u → Calls Tryz.prog 11 #[.agg #[.int .i64 1, .bool false, .slice none 0 0, .slice ea ds0.length ec, .int .i64 0], .int .i32 45, .agg #[.slice x1 n1 y1, .slice x2 n2 y2]] u fun e w' => (∃ x5 n5 y5 b3 m d3, e = .returned (.tuple #[.agg #[.slice x5 n5 y5, .slice b3 m d3], .int .i64 er]) ∧ OutR u.heap.size w' er U x5 n5 y5 b3 m d3) ∧ Below u.heap.size u w') := by
 intro u ds0 ea ec hd hr k
 have hd' : ds0 = [1] := hd
 subst hd'
 have DI : M5In D f u false none ea [] [1] 0 ec x1 x2 n1 y1 n2 y2 t := ⟨fun g h => Nat.lt_of_lt_of_le (hD g h) k.size, va.agree (Agree.of k hD), (own_nilT 0 u).rd, hr, one_right9⟩
 refine (monadic_minus (io := 1) (pp := 0) DI).mono ?_
 rintro e w' ⟨⟨x5, n5, y5, b3, m3, d3, rfl, h1, h2⟩, kb⟩
 rw [he] at h1 h2 ⊢
 exact ⟨⟨x5, n5, y5, b3, m3, d3, rfl, h1, h2⟩, kb⟩
theorem zero_ktI (hD : ∀ g, D g → g < v.heap.size) (va : ArV f D v (.slice x1 n1 y1) (.slice x2 n2 y2) t) (he : dyadS timesD t (arrT [] [wholeT 0]) = (er, U)) :
    Hid (∀ u (ds0 : List Int) ea ec ki, Hid (ds0 = [(1 : Int)]) → Rd u.heap.size u (.slice ea ds0.length ec) ds0 → ArV 1 (Fr v.heap.size u.heap.size) u (.slice none 0 0) (.slice (some ⟨ki, 0, none⟩) 1 1) (arrT [] [wholeT 0]) → Below v.heap.size v u → Calls Tryz.prog 7 #[.agg #[.int .i64 1, .bool false, .slice none 0 0, .slice ea ds0.length ec, .int .i64 0], .int .i32 215, .agg #[.slice x1 n1 y1, .slice x2 n2 y2], .agg #[.slice none 0 0, .slice (some ⟨ki, 0, none⟩) 1 1]] u fun e w' => (∃ x5 n5 y5 b3 m d3, e = .returned (.tuple #[.agg #[.slice x5 n5 y5, .slice b3 m d3], .int .i64 er]) ∧ OutR u.heap.size w' er U x5 n5 y5 b3 m d3) ∧ Below u.heap.size u w') := by
 intro u ds0 ea ec ki hd hr hi k
 exact (turn_kt (v := u) (D := (· < u.heap.size)) (f := f + 1) turn_times (fun _ h => h) (ArV.imp (fun q hq => Nat.lt_of_lt_of_le (hD q hq) k.size) (Agree.of k hD) f (f + 1) _ _ _ (by omega) va) (ArV.imp (fun q hq => hq.2) (fun _ _ => rfl) 1 (f + 1) _ _ _ (by omega) hi) he) u ds0 ea ec hd hr (Below.refl _ _)
theorem zero_ktP {x3 x4 : Option Addr} {n3 y3 n4 y4 : Nat} {s : Tr} (hD : ∀ g, D g → g < v.heap.size) (va : ArV f D v (.slice x1 n1 y1) (.slice x2 n2 y2) t) {Z0 : Nat} (vb : ArV 16 (Fr Z0 v.heap.size) v (.slice x3 n3 y3) (.slice x4 n4 y4) s) (he : dyadS plusD t s = (er, U)) :
    Hid (∀ u (ds0 : List Int) ea ec, Hid (ds0 = [(1 : Int)]) → Rd u.heap.size u (.slice ea ds0.length ec) ds0 → Below v.heap.size v u → Calls Tryz.prog 7 #[.agg #[.int .i64 1, .bool false, .slice none 0 0, .slice ea ds0.length ec, .int .i64 0], .int .i32 43, .agg #[.slice x1 n1 y1, .slice x2 n2 y2], .agg #[.slice x3 n3 y3, .slice x4 n4 y4]] u fun e w' => (∃ x5 n5 y5 b3 m d3, e = .returned (.tuple #[.agg #[.slice x5 n5 y5, .slice b3 m d3], .int .i64 er]) ∧ OutR u.heap.size w' er U x5 n5 y5 b3 m d3) ∧ Below u.heap.size u w') := by
 intro u ds0 ea ec hd hr k
 exact (turn_kt (v := v) (D := (· < v.heap.size)) (f := f + 16) turn_plus (fun _ h => h) (ArV.imp hD (fun _ _ => rfl) f (f + 16) _ _ _ (by omega) va) (ArV.imp (fun q hq => hq.2) (fun _ _ => rfl) 16 (f + 16) _ _ _ (by omega) vb) he) u ds0 ea ec hd hr k
theorem mon_zero (he : monS minusM t = (0, U)) : ∃ Z, dyadS plusD t U = (0, Z) ∧ dyadS timesD t (arrT [] [wholeT 0]) = (0, Z) ∧ (measF 16 Z).isSome = true := by
 unfold monS at he
 by_cases hR : (measF 16 t).isSome = true
 · rw [if_pos hR] at he
   obtain ⟨h1, h2, h3⟩ := zero_told hR (by rw [he])
   rw [he] at h1
   exact ⟨_, h1, h2, h3⟩
 · rw [if_neg hR] at he
   exact absurd (show (22 : Int) = 0 from congrArg Prod.fst he) (by decide)
end
section
variable {w : World} {D : Nat → Prop} {f : Nat} {x1 x2 : Option Addr} {n1 y1 n2 y2 : Nat} {t : Tr}
set_option maxRecDepth 100000 in
set_option maxHeartbeats 1200000 in
theorem scalarZero_walk (hD : ∀ g, D g → g < w.heap.size) (va : ArV f D w (.slice x1 n1 y1) (.slice x2 n2 y2) t) :
    Calls Tryz.prog 4 #[.agg #[.slice x1 n1 y1, .slice x2 n2 y2]] w fun e w' => e = .returned (.bool true) ∧ Below w.heap.size w w' := by
 have VA : Hid (ArV f D w (.slice x1 n1 y1) (.slice x2 n2 y2) t) := va
 clear va
 have k1 := below_alloc w (.cells #[.slice x1 n1 y1, .slice x2 n2 y2] 25)
 have BB := boxA_new w #[.slice x1 n1 y1, .slice x2 n2 y2] 25
 go_enter Tryz.func4, Tryz.ntmps4
 go_upto_region 1 with fail
 generalize hW : w.alloc (.cells #[.slice x1 n1 y1, .slice x2 n2 y2] 25) = v at *
 clear hW
 have g3 := k1
 have hDv : ∀ g, D g → g < v.heap.size := fun g h => Nat.lt_of_lt_of_le (hD g h) g3.size
 have VA2 : Hid (ArV f D v (.slice x1 n1 y1) (.slice x2 n2 y2) t) := VA.out.agree (Agree.of g3 hD)
 have sB : w.heap.size < v.heap.size := BB.lt
 clear k1 VA
 obtain ⟨er, U, he⟩ : ∃ er U, monS minusM t = (er, U) := ⟨_, _, rfl⟩
 have HE : Hid (monS minusM t = (er, U)) := he
 clear he
 refine wp_region_noPanic ?_
 refine zero_1 (v := v) (kk := w.heap.size) (er := er) (U := U) (fun q => ⟨(BB.below q sB).cell 0 rfl, (BB.below q sB).cell 1 rfl⟩) (zero_ktM hDv VA2.out HE.out) ?hq1 (fun _ _ _ _ _ h => h)
 intro A ds0 ea ec x5 n5 y5 b3 m d3 v2 BA nA HO ko
 refine NoPanic.normal ?_
 simp only [Exit.then]
 replace BB := BB.below ko sB
 replace g3 := g3.trans (ko.mono g3.size)
 have hDv2 : ∀ g, D g → g < v2.heap.size := fun g h => Nat.lt_of_lt_of_le (hDv g h) ko.size
 replace VA2 : Hid (ArV f D v2 (.slice x1 n1 y1) (.slice x2 n2 y2) t) := VA2.out.agree (Agree.of ko hDv)
 have sB2 : w.heap.size < v2.heap.size := BB.lt
 have sA2 : A < v2.heap.size := BA.lt
 clear ko nA hDv
 by_cases her : er = 0
 · subst her
   have HU : Hid (ArV 16 (Fr v.heap.size v2.heap.size) v2 (.slice x5 n5 y5) (.slice b3 m d3) U) := HO.out.1 rfl
   obtain ⟨Z, z1, z2, z3⟩ := mon_zero HE.out
   have HZ1 : Hid (dyadS plusD t U = (0, Z)) := z1
   have HZ2 : Hid (dyadS timesD t (arrT [] [wholeT 0]) = (0, Z)) := z2
   have HZ3 : Hid ((measF 16 Z).isSome = true) := z3
   clear z1 z2 z3 HO HE
   go_upto_region 4 with fail
   refine wp_region_noPanic ?_
   refine zero_4 (v := v2) (kk := w.heap.size) (kb := A) (er := 0) (U := Z) (fun q => ⟨(BB.below q sB2).cell 0 rfl, (BB.below q sB2).cell 1 rfl, (BA.below q sA2).cell 0 rfl, (BA.below q sA2).cell 1 rfl⟩) (zero_ktP hDv2 VA2.out HU.out HZ1.out) ?hq4 (fun _ _ _ _ _ h => h)
   intro A2 ds1 ea1 ec1 z5 m5 u5 z3 m6 u3 v3 BC nC HC ko
   refine NoPanic.normal ?_
   simp only [Exit.then]
   replace BB := BB.below ko sB2
   replace g3 := g3.trans (ko.mono g3.size)
   have hDv3 : ∀ g, D g → g < v3.heap.size := fun g h => Nat.lt_of_lt_of_le (hDv2 g h) ko.size
   replace VA2 : Hid (ArV f D v3 (.slice x1 n1 y1) (.slice x2 n2 y2) t) := VA2.out.agree (Agree.of ko hDv2)
   have sB3 : w.heap.size < v3.heap.size := BB.lt
   clear ko nC hDv2 HU BA sA2 HZ1
   go_upto_region 5 with fail
   refine wp_region_noPanic ?_
   refine zero_5 (v := v3) (kk := w.heap.size) (er := 0) (U := Z) (fun q => ⟨(BB.below q sB3).cell 0 rfl, (BB.below q sB3).cell 1 rfl⟩) (zero_ktI hDv3 VA2.out HZ2.out) ?hq5 (fun _ _ _ _ _ h => h)
   intro A3 ds2 ea2 ec2 ki2 q5 m7 u7 q3 m8 u8 v4 BE nE HE4 ko
   refine NoPanic.normal ?_
   simp only [Exit.then]
   replace BC := BC.below ko BC.lt
   replace g3 := g3.trans (ko.mono g3.size)
   clear VA2 HZ2 hDv3 BB sB sB2 sB3
   go_wp2_with fail
   refine (live5_ok _).mono ?_
   rintro e wL ⟨rfl, kL⟩
   have k23 := ko.trans (kL.mono ko.size)
   replace BC := BC.below kL BC.lt
   replace BE := BE.below kL BE.lt
   replace g3 := g3.trans (kL.mono g3.size)
   have CS := outs_same HC.out HE4.out k23 kL
   have p0 := BC.cell 0 rfl
   have p1 := BC.cell 1 rfl
   have q0 := BE.cell 0 rfl
   have q1 := BE.cell 1 rfl
   go_wp2_with fail
   clear p0 p1 q0 q1
   refine CS.mono ?_
   rintro e wS ⟨rfl, kS⟩
   clear CS
   have k3S := k23.trans (kS.mono k23.size)
   have hz := ((HC.out.1 rfl).agree (Agree.of k3S (fun q hq => hq.2))).mono (D' := (· < wS.heap.size)) (fun q hq => Nat.lt_of_lt_of_le hq.2 k3S.size)
   have CR := right3_any (fun _ h => h) hz
   rw [HZ3.out] at CR
   have HCR : Hid (Calls Tryz.prog 13 _ wS _) := CR
   clear CR hz
   replace BC := BC.below kS BC.lt
   replace g3 := g3.trans (kS.mono g3.size)
   have p0 := BC.cell 0 rfl
   have p1 := BC.cell 1 rfl
   go_wp2_with fail
   clear p0 p1
   refine HCR.out.mono ?_
   rintro e wR ⟨rfl, kR⟩
   replace g3 := g3.trans (kR.mono g3.size)
   clear HCR
   go_wp2
   go_ret
   exact ⟨rfl, g3⟩
 · clear HO HE VA2 BB sB sB2 sA2 BA hDv2
   go_wp2_with fail
   refine (live5_ok _).mono ?_
   rintro e wL ⟨rfl, kL⟩
   replace g3 := g3.trans (kL.mono g3.size)
   go_wp2
   go_ret
   exact ⟨rfl, g3⟩
end
end Go.Proofs.YtmijanocljmaeaaGreat
