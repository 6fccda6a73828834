/- scalar.isZero, isWhole, isBit of any right number. -/
import Derived.Test.YtmijanocljmaeaaGreatM1
import Derived.Test.YtmijanocljmaeaaGreatP6
import Derived.Test.YtmijanocljmaeaaGreatM2
import Derived.Test.YtmijanocljmaeaaGreatM3
namespace Go.Proofs.YtmijanocljmaeaaGreat
set_option linter.unusedVariables false
set_option linter.unusedSimpArgs false
open Go.RowKit

/-- Is a number 0 or 1? -/
def bitB (b : Bool) (ns ds : List Int) : Bool := decide (ns.length = 0) || (decide (ds = [1]) && !b && decide (ns = [1]))
theorem bit_is {b : Bool} {ns ds : List Int} (hr : RightP b ns ds) (h : bitB b ns ds = true) : b = false ∧ ns = bitL (decide (ns ≠ [])) ∧ ds = [1] := by
 obtain ⟨_, _, cn, cd, hb, hd, hg⟩ := hr
 unfold bitB at h
 by_cases h0 : ns.length = 0
 · have e : ns = [] := List.eq_nil_of_length_eq_zero h0
   subst e
   have hb' : b = false := by
    cases b with
    | false => rfl
    | true => exact absurd ⟨rfl, rfl⟩ hb
   refine ⟨hb', rfl, ?_⟩
   have hv : val ds = 1 := by
    have e0 : val ([] : List Int) = 0 := rfl
    rw [e0, gI_comm, gI_zero _ (by have := (val_bound cd.1).1; omega)] at hg
    exact hg
   exact can_inj cd can_one (by rw [hv, one_val])
 · rw [decide_eq_false h0, Bool.false_or, Bool.and_eq_true, Bool.and_eq_true, decide_eq_true_iff, decide_eq_true_iff] at h
   obtain ⟨⟨rfl, hb'⟩, rfl⟩ := h
   exact ⟨by simpa using hb', rfl, rfl⟩
section
variable {w : World} {p : Nat} {b : Bool} {a1 a2 : Option Addr} {c1 c2 : Nat} {ns ds : List Int}
set_option maxRecDepth 100000 in
set_option maxHeartbeats 16000000 in
theorem isZero5_no {n : Nat} (hn : 0 < n) (q1 : w.cell? ⟨p, 1, none⟩ = some (.slice a1 n c1)) : Calls Tryz.prog 106 #[.pointer (some ⟨p, 0, none⟩)] w fun e w' => e = .returned (.bool false) ∧ w' = w := by
 have hz : ((n : Int) == 0) = false := by rw [beq_eq_false_iff_ne]; omega
 go_enter Tryz.func106, Tryz.ntmps106
 go_wp2
 go_ret
 exact ⟨rfl, rfl⟩
theorem rd_at0 {B : Nat} (r2 : Rd B w (.slice a2 ds.length c2) ds) (h : 0 < ds.length) : ∃ g o, a2 = some ⟨g, o, none⟩ ∧ w.cell? ⟨g, o, none⟩ = some (.int .u32 (ds.getD 0 0)) := by
 obtain ⟨_, a, cap, e, _, _, _, hc⟩ := r2
 obtain ⟨rfl, _, rfl⟩ := Value.slice.inj e
 rcases hc with h0 | ⟨b, off, rfl, _, hj⟩
 · omega
 · exact ⟨b, off, rfl, by simpa using hj 0 h⟩
theorem one_of {ds : List Int} (h1 : ds.length = 1) : ds = [ds.getD 0 0] := by
 match ds, h1 with
 | [x], _ => rfl
set_option maxRecDepth 100000 in
set_option maxHeartbeats 16000000 in
theorem isWhole5_any (q2 : w.cell? ⟨p, 2, none⟩ = some (.slice a2 ds.length c2)) (r2 : Rd w.heap.size w (.slice a2 ds.length c2) ds) : Calls Tryz.prog 138 #[.pointer (some ⟨p, 0, none⟩)] w fun e w' => e = .returned (.bool (decide (ds = [1]))) ∧ w' = w := by
 by_cases h1 : ds.length = 1
 · obtain ⟨g, o, rfl, hc⟩ := rd_at0 r2 (by omega)
   have hds := one_of h1
   obtain ⟨q, hq⟩ : ∃ q, ds.getD 0 0 = q := ⟨_, rfl⟩
   rw [hq] at hc hds
   have HDS : Hid (ds = [q]) := hds
   rw [h1] at q2
   clear hq hds r2 h1
   by_cases hq1 : q = 1
   · have HD : Hid (decide (ds = [1]) = true) := by unfold Hid; rw [HDS.out, hq1]; rfl
     subst hq1
     go_enter Tryz.func138, Tryz.ntmps138
     go_wp2
     go_ret
     exact ⟨by rw [HD.out]; rfl, rfl⟩
   · have HD : Hid (decide (ds = [1]) = false) := by
      unfold Hid
      rw [decide_eq_false_iff_not, HDS.out]
      intro e
      exact hq1 (List.cons.inj e).1
     have hb : (q == 1) = false := by rw [beq_eq_false_iff_ne]; exact hq1
     go_enter Tryz.func138, Tryz.ntmps138
     go_wp2
     go_ret
     exact ⟨by rw [HD.out]; rfl, rfl⟩
 · have HD : Hid (decide (ds = [1]) = false) := by
    unfold Hid
    rw [decide_eq_false_iff_not]
    intro e
    rw [e] at h1
    exact h1 rfl
   have hb : ((ds.length : Int) == 1) = false := by rw [beq_eq_false_iff_ne]; omega
   clear h1 r2
   go_enter Tryz.func138, Tryz.ntmps138
   go_wp2
   go_ret
   exact ⟨by rw [HD.out]; rfl, rfl⟩
set_option maxRecDepth 100000 in
set_option maxHeartbeats 16000000 in
theorem isBit5_no (q0 : w.cell? ⟨p, 0, none⟩ = some (.bool b)) (q1 : w.cell? ⟨p, 1, none⟩ = some (.slice a1 ns.length c1)) (q2 : w.cell? ⟨p, 2, none⟩ = some (.slice a2 ds.length c2)) (r1 : Rd w.heap.size w (.slice a1 ns.length c1) ns) (r2 : Rd w.heap.size w (.slice a2 ds.length c2) ds) (h : bitB b ns ds = false) : Calls Tryz.prog 112 #[.pointer (some ⟨p, 0, none⟩)] w fun e w' => e = .returned (.bool false) ∧ w' = w := by
 unfold bitB at h
 rw [Bool.or_eq_false_iff, decide_eq_false_iff_not] at h
 obtain ⟨hn0, h⟩ := h
 have hz := isZero5_no (n := ns.length) (by omega) q1
 have hw := isWhole5_any q2 r2
 obtain ⟨W, hW⟩ : ∃ W, decide (ds = [1]) = W := ⟨_, rfl⟩
 rw [hW] at hw h
 clear hW q2 r2
 cases W with
 | false =>
  clear h hn0 r1
  go_enter Tryz.func112, Tryz.ntmps112
  go_wp2_with fail
  refine hz.mono ?_
  rintro e w1 ⟨rfl, hw1⟩
  obtain rfl := hw1.symm
  clear hw1 hz
  go_wp2_with fail
  refine hw.mono ?_
  rintro e w1 ⟨rfl, hw1⟩
  obtain rfl := hw1.symm
  clear hw1 hw
  go_wp2
  go_ret
  exact ⟨rfl, rfl⟩
 | true =>
  cases b with
  | true =>
   clear h hn0 r1
   go_enter Tryz.func112, Tryz.ntmps112
   go_wp2_with fail
   refine hz.mono ?_
   rintro e w1 ⟨rfl, hw1⟩
   obtain rfl := hw1.symm
   clear hw1 hz
   go_wp2_with fail
   refine hw.mono ?_
   rintro e w1 ⟨rfl, hw1⟩
   obtain rfl := hw1.symm
   clear hw1 hw
   go_wp2
   go_ret
   exact ⟨rfl, rfl⟩
  | false =>
   have hn : decide (ns = [1]) = false := by simpa using h
   rw [decide_eq_false_iff_not] at hn
   by_cases h1 : ns.length = 1
   · obtain ⟨g, o, rfl, hc⟩ := rd_at0 r1 (by omega)
     have hq1 : ns.getD 0 0 ≠ 1 := fun e => hn (by rw [one_of h1, e])
     obtain ⟨q, hq⟩ : ∃ q, ns.getD 0 0 = q := ⟨_, rfl⟩
     rw [hq] at hc hq1
     rw [h1] at q1
     have hb : (q == 1) = false := by rw [beq_eq_false_iff_ne]; exact hq1
     clear hq hn hn0 h r1 h1 hq1
     go_enter Tryz.func112, Tryz.ntmps112
     go_wp2_with fail
     refine hz.mono ?_
     rintro e w1 ⟨rfl, hw1⟩
     obtain rfl := hw1.symm
     clear hw1 hz
     go_wp2_with fail
     refine hw.mono ?_
     rintro e w1 ⟨rfl, hw1⟩
     obtain rfl := hw1.symm
     clear hw1 hw
     go_wp2
     go_ret
     exact ⟨rfl, rfl⟩
   · have hb : ((ns.length : Int) == 1) = false := by rw [beq_eq_false_iff_ne]; omega
     clear hn hn0 h r1 h1
     go_enter Tryz.func112, Tryz.ntmps112
     go_wp2_with fail
     refine hz.mono ?_
     rintro e w1 ⟨rfl, hw1⟩
     obtain rfl := hw1.symm
     clear hw1 hz
     go_wp2_with fail
     refine hw.mono ?_
     rintro e w1 ⟨rfl, hw1⟩
     obtain rfl := hw1.symm
     clear hw1 hw
     go_wp2
     go_ret
     exact ⟨rfl, rfl⟩
theorem isBit5_any (rp : RightP b ns ds) (q0 : w.cell? ⟨p, 0, none⟩ = some (.bool b)) (q1 : w.cell? ⟨p, 1, none⟩ = some (.slice a1 ns.length c1)) (q2 : w.cell? ⟨p, 2, none⟩ = some (.slice a2 ds.length c2)) (r1 : Rd w.heap.size w (.slice a1 ns.length c1) ns) (r2 : Rd w.heap.size w (.slice a2 ds.length c2) ds) : Calls Tryz.prog 112 #[.pointer (some ⟨p, 0, none⟩)] w fun e w' => e = .returned (.bool (bitB b ns ds)) ∧ w' = w := by
 cases h : bitB b ns ds with
 | false => exact isBit5_no q0 q1 q2 r1 r2 h
 | true =>
  obtain ⟨rfl, hn, rfl⟩ := bit_is rp h
  obtain ⟨k, hk⟩ : ∃ k, decide (ns ≠ []) = k := ⟨_, rfl⟩
  rw [hk] at hn
  subst hn
  exact isBit_bit q0 q1 q2 r1 r2
end
end Go.Proofs.YtmijanocljmaeaaGreat

/- And, or as functions of two numbers. -/
namespace Go.Proofs.YtmijanocljmaeaaGreat
set_option linter.unusedVariables false
set_option linter.unusedSimpArgs false
open Go.RowKit

def isB (x : Tr) : Bool := bitB x.b x.ns x.ds
/-- The glyph gl tells op of two bits. -/
def logD (gl : Int) (op : Bool → Bool → Bool) : Dy := ⟨gl, fun x y => !isB x || !isB y, fun x y => if (isB x && isB y) = true then (0, wholeT (bitI (op (decide (x.ns ≠ [])) (decide (y.ns ≠ []))))) else (3, zeroN)⟩
/-- And, or. -/
def AndOr (gl : Int) : Prop := gl = 8743 ∨ gl = 8744
section
variable {w : World} {bx cy : Bool} {a1 a2 a3 a4 : Option Addr} {xn xd yn yd : List Int} {c1 c2 c3 c4 : Nat} {gl : Int} {p q bh : Nat} {B C : Bool}
set_option maxRecDepth 100000 in
set_option maxHeartbeats 16000000 in
theorem hasNone_andOr (hG : AndOr gl) (C1 : Calls Tryz.prog 112 #[.pointer (some ⟨p, 0, none⟩)] w fun e w' => e = .returned (.bool B) ∧ w' = w) (C2 : Calls Tryz.prog 112 #[.pointer (some ⟨q, 0, none⟩)] w fun e w' => e = .returned (.bool C) ∧ w' = w) : Calls Tryz.prog 99 #[.int .i32 gl, .pointer (some ⟨p, 0, none⟩), .pointer (some ⟨q, 0, none⟩)] w fun e w' => e = .returned (.bool (!B || !C)) ∧ w' = w := by
 cases B
 · clear C2
   rcases hG with rfl | rfl
   all_goals
    go_enter Tryz.func99, Tryz.ntmps99
    go_wp2_with fail
    refine C1.mono ?_
    rintro e w1 ⟨rfl, hw1⟩
    obtain rfl := hw1.symm
    clear hw1 C1
    go_wp2
    go_ret
    exact ⟨rfl, rfl⟩
 · rcases hG with rfl | rfl <;> cases C
   all_goals
    go_enter Tryz.func99, Tryz.ntmps99
    go_wp2_with fail
    refine C1.mono ?_
    rintro e w1 ⟨rfl, hw1⟩
    obtain rfl := hw1.symm
    clear hw1 C1
    go_wp2_with fail
    refine C2.mono ?_
    rintro e w1 ⟨rfl, hw1⟩
    obtain rfl := hw1.symm
    clear hw1 C2
    go_wp2
    go_ret
    exact ⟨rfl, rfl⟩
set_option maxRecDepth 100000 in
set_option maxHeartbeats 16000000 in
theorem logical5_no (HC : Hid (∀ v p q, Below w.heap.size w v → RatC v p (.bool bx) (.slice a1 xn.length c1) (.slice a2 xd.length c2) → RatC v q (.bool cy) (.slice a3 yn.length c3) (.slice a4 yd.length c4) → (Calls Tryz.prog 112 #[.pointer (some ⟨p, 0, none⟩)] v fun e w' => e = .returned (.bool B) ∧ w' = v) ∧ (Calls Tryz.prog 112 #[.pointer (some ⟨q, 0, none⟩)] v fun e w' => e = .returned (.bool C) ∧ w' = v))) (hn : (B && C) = false) :
    Calls Tryz.prog 137 #[.agg #[.bool bx, .slice a1 xn.length c1, .slice a2 xd.length c2], .agg #[.bool cy, .slice a3 yn.length c3, .slice a4 yd.length c4], .pointer (some ⟨bh, 0, none⟩)] w fun e w' => e = .returned (.tuple #[.agg #[.bool false, .slice none 0 0, .slice none 0 0], .int .i64 3]) ∧ Below w.heap.size w w' := by
 have k1 := below_alloc w (.cells #[.bool bx, .slice a1 xn.length c1, .slice a2 xd.length c2] 33)
 have k2 := below_alloc (w.alloc (.cells #[.bool bx, .slice a1 xn.length c1, .slice a2 xd.length c2] 33)) (.cells #[.bool cy, .slice a3 yn.length c3, .slice a4 yd.length c4] 33)
 have k3 := below_alloc ((w.alloc (.cells #[.bool bx, .slice a1 xn.length c1, .slice a2 xd.length c2] 33)).alloc (.cells #[.bool cy, .slice a3 yn.length c3, .slice a4 yd.length c4] 33)) (.cells #[.bool false, .slice none 0 0, .slice none 0 0] 33)
 have k23 : Below (w.alloc (.cells #[.bool bx, .slice a1 xn.length c1, .slice a2 xd.length c2] 33)).heap.size (w.alloc (.cells #[.bool bx, .slice a1 xn.length c1, .slice a2 xd.length c2] 33)) (((w.alloc (.cells #[.bool bx, .slice a1 xn.length c1, .slice a2 xd.length c2] 33)).alloc (.cells #[.bool cy, .slice a3 yn.length c3, .slice a4 yd.length c4] 33)).alloc (.cells #[.bool false, .slice none 0 0, .slice none 0 0] 33)) := k2.trans (k3.mono (by simp))
 have g : Below w.heap.size w (((w.alloc (.cells #[.bool bx, .slice a1 xn.length c1, .slice a2 xd.length c2] 33)).alloc (.cells #[.bool cy, .slice a3 yn.length c3, .slice a4 yd.length c4] 33)).alloc (.cells #[.bool false, .slice none 0 0, .slice none 0 0] 33)) := k1.trans (k23.mono (by simp))
 have XB := (boxA_new w #[.bool bx, .slice a1 xn.length c1, .slice a2 xd.length c2] 33).below k23 (by simp)
 have YB := (boxA_new (w.alloc (.cells #[.bool bx, .slice a1 xn.length c1, .slice a2 xd.length c2] 33)) #[.bool cy, .slice a3 yn.length c3, .slice a4 yd.length c4] 33).below k3 (by simp)
 have RB := boxA_new ((w.alloc (.cells #[.bool bx, .slice a1 xn.length c1, .slice a2 xd.length c2] 33)).alloc (.cells #[.bool cy, .slice a3 yn.length c3, .slice a4 yd.length c4] 33)) #[.bool false, .slice none 0 0, .slice none 0 0] 33
 rw [World.size_alloc] at YB
 have sz : ((w.alloc (.cells #[.bool bx, .slice a1 xn.length c1, .slice a2 xd.length c2] 33)).alloc (.cells #[.bool cy, .slice a3 yn.length c3, .slice a4 yd.length c4] 33)).heap.size = w.heap.size + 1 + 1 := by simp
 rw [sz] at RB
 obtain ⟨CX, CY⟩ := HC.out _ w.heap.size (w.heap.size + 1) g ⟨XB.cell 0 rfl, XB.cell 1 rfl, XB.cell 2 rfl⟩ ⟨YB.cell 0 rfl, YB.cell 1 rfl, YB.cell 2 rfl⟩
 clear k1 k2 k3 k23 sz HC
 cases B with
 | false =>
  go_enter Tryz.func137, Tryz.ntmps137
  go_wp2_with fail
  generalize hA : ((w.alloc (.cells #[.bool bx, .slice a1 xn.length c1, .slice a2 xd.length c2] 33)).alloc (.cells #[.bool cy, .slice a3 yn.length c3, .slice a4 yd.length c4] 33)).alloc (.cells #[.bool false, .slice none 0 0, .slice none 0 0] 33) = v at *
  clear hA
  refine CX.mono ?_
  rintro e w1 ⟨rfl, hw⟩
  obtain rfl := hw.symm
  clear CX CY
  have r0 := RB.cell 0 rfl
  have r1 := RB.cell 1 rfl
  have r2 := RB.cell 2 rfl
  have f0 := RB.frozen 0
  have f1 := RB.frozen 1
  have f2 := RB.frozen 2
  have R3 := ((RB.put 0 (.bool false)).put 1 (.slice none 0 0)).put 2 (.slice none 0 0)
  have j0 := R3.cell 0 rfl
  have j1 := R3.cell 1 rfl
  have j2 := R3.cell 2 rfl
  go_wp2
  refine bodyPost_ret (v := .tuple #[.agg #[.bool false, .slice none 0 0, .slice none 0 0], .int .i64 3]) (by simp [results, Tryz.results137, go_sem, j0, j1, j2]) rfl ?_
  exact ⟨rfl, Below.set3 g (by omega) _ _ _⟩
 | true =>
  obtain rfl : C = false := by simpa using hn
  go_enter Tryz.func137, Tryz.ntmps137
  go_wp2_with fail
  generalize hA : ((w.alloc (.cells #[.bool bx, .slice a1 xn.length c1, .slice a2 xd.length c2] 33)).alloc (.cells #[.bool cy, .slice a3 yn.length c3, .slice a4 yd.length c4] 33)).alloc (.cells #[.bool false, .slice none 0 0, .slice none 0 0] 33) = v at *
  clear hA
  refine CX.mono ?_
  rintro e w1 ⟨rfl, hw⟩
  obtain rfl := hw.symm
  clear CX
  go_wp2_with fail
  refine CY.mono ?_
  rintro e w1 ⟨rfl, hw⟩
  obtain rfl := hw.symm
  clear CY
  have r0 := RB.cell 0 rfl
  have r1 := RB.cell 1 rfl
  have r2 := RB.cell 2 rfl
  have f0 := RB.frozen 0
  have f1 := RB.frozen 1
  have f2 := RB.frozen 2
  have R3 := ((RB.put 0 (.bool false)).put 1 (.slice none 0 0)).put 2 (.slice none 0 0)
  have j0 := R3.cell 0 rfl
  have j1 := R3.cell 1 rfl
  have j2 := R3.cell 2 rfl
  go_wp2
  refine bodyPost_ret (v := .tuple #[.agg #[.bool false, .slice none 0 0, .slice none 0 0], .int .i64 3]) (by simp [results, Tryz.results137, go_sem, j0, j1, j2]) rfl ?_
  exact ⟨rfl, Below.set3 g (by omega) _ _ _⟩
end
theorem un_log {gl : Int} {op : Bool → Bool → Bool} (hG : AndOr gl) : UnOK (logD gl op) :=
 un_of (fun w bx cy a1 a2 a3 a4 xn xd yn yd c1 c2 c3 c4 rx ry h1 h2 h3 h4 v p q hv cx cy' =>
  hasNone_andOr hG (isBit5_any rx cx.1 cx.2.1 cx.2.2 ((h1.below hv).mono hv.size) ((h2.below hv).mono hv.size)) (isBit5_any ry cy'.1 cy'.2.1 cy'.2.2 ((h3.below hv).mono hv.size) ((h4.below hv).mono hv.size)))
theorem doOK_log {gl : Int} {op : Bool → Bool → Bool} {kf bh p : Nat} {u v : World} (HO : Hid (HoldB kf op)) (hf : u.cell? ⟨bh, 0, none⟩ = some (.func (.func kf) #[] #[])) (hv : Below u.heap.size u v) (hp : u.heap.size ≤ p) : DoOK (logD gl op) 137 #[.pointer (some ⟨bh, 0, none⟩)] p v := by
 refine ⟨?_, enterB Tryz.func137 (by kernel_rfl) (by kernel_rfl)⟩
 intro x kx bx cy a1 a2 a3 a4 xn xd yn yd c1 c2 c3 c4 rx ry h1 h2 h3 h4
 have lb := lt_of_cellT hf
 have hfx : x.cell? ⟨bh, 0, none⟩ = some (.func (.func kf) #[] #[]) := kx.cell (by omega) ((hv.cell (p := ⟨bh, 0, none⟩) lb).trans hf)
 show Calls Tryz.prog 137 #[.agg #[.bool bx, .slice a1 xn.length c1, .slice a2 xd.length c2], .agg #[.bool cy, .slice a3 yn.length c3, .slice a4 yd.length c4], .pointer (some ⟨bh, 0, none⟩)] x fun e w' => NumR5 x.heap.size ((logD gl op).op (numT bx xn xd) (numT cy yn yd)) e w' ∧ Below x.heap.size x w'
 have hop : (logD gl op).op (numT bx xn xd) (numT cy yn yd) = if (bitB bx xn xd && bitB cy yn yd) = true then (0, wholeT (bitI (op (decide (xn ≠ [])) (decide (yn ≠ []))))) else (3, zeroN) := rfl
 cases hb : (bitB bx xn xd && bitB cy yn yd) with
 | true =>
  rw [hop, if_pos hb]
  rw [Bool.and_eq_true] at hb
  obtain ⟨rfl, hxn, rfl⟩ := bit_is rx hb.1
  obtain ⟨rfl, hyn, rfl⟩ := bit_is ry hb.2
  obtain ⟨h, hh⟩ : ∃ h, decide (xn ≠ []) = h := ⟨_, rfl⟩
  obtain ⟨k, hk⟩ : ∃ h, decide (yn ≠ []) = h := ⟨_, rfl⟩
  rw [hh] at hxn ⊢
  rw [hk] at hyn ⊢
  clear hh hk hb hop rx ry
  subst hxn
  subst hyn
  refine (log_bits HO hfx h1 h2 h3 h4).mono ?_
  rintro e w' ⟨⟨b, z1, ns, u1, z2, ds, u2, rfl, o1, o2, hT⟩, hB⟩
  exact ⟨⟨b, z1, ns, u1, z2, ds, u2, rfl, o1, o2, fun _ => hT.out⟩, hB⟩
 | false =>
  rw [hop, if_neg (by rw [hb]; simp)]
  refine (logical5_no (B := bitB bx xn xd) (C := bitB cy yn yd) (fun v' p' q' hv' cx cy' => ⟨isBit5_any rx cx.1 cx.2.1 cx.2.2 ((h1.below hv').mono hv'.size) ((h2.below hv').mono hv'.size), isBit5_any ry cy'.1 cy'.2.1 cy'.2.2 ((h3.below hv').mono hv'.size) ((h4.below hv').mono hv'.size)⟩) hb).mono ?_
  rintro e w' ⟨rfl, hB⟩
  exact ⟨⟨false, none, [], 0, none, [], 0, rfl, ⟨lim_nil, World.ownsRow_nil _ _ _ _⟩, ⟨lim_nil, World.ownsRow_nil _ _ _ _⟩, fun _ => rfl⟩, hB⟩
end Go.Proofs.YtmijanocljmaeaaGreat
